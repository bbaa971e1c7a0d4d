import Derived.Test.YtkhiagdmbajimaaMAK
import Derived.Test.YtkhiagdmbajimaaMAG
import Derived.Test.YtkhiagdmbajimaaMAH
import Derived.KernelRfl
namespace Go.Proofs.Ytkhiagdmbajimaa
open Go Go.AbsE
set_option linter.unusedSimpArgs false
set_option maxRecDepth 100000
set_option maxHeartbeats 0
set_option linter.unusedVariables false
theorem open_app (s : Nat) : ∀ (A B : List (Int × Int)) (k : Nat), openV s k (A ++ B) = openV s k A ++ openV s (k + A.length) B
 | [], B, k => rfl
 | x :: A, B, k => by
  have ih := open_app s A B (k + 1)
  rw [show k + 1 + A.length = k + (x :: A).length by rw [List.length_cons]; omega] at ih
  show (if s.testBit k = true then openV s (k + 1) (A ++ B) else x :: openV s (k + 1) (A ++ B)) = (if s.testBit k = true then openV s (k + 1) A else x :: openV s (k + 1) A) ++ _
  rw [ih]
  by_cases q : s.testBit k = true
  ·rw [if_pos q, if_pos q]
  ·rw [if_neg q, if_neg q, List.cons_append]
theorem open_take {s : Nat} {L : List (Int × Int)} {i : Nat} {x : Int × Int} (hx : L[i]? = some x) : openV s 0 (L.take (i + 1)) = openV s 0 (L.take i) ++ (if s.testBit i = true then [] else [x]) := by
 have hl := (List.getElem?_eq_some_iff.1 hx).1
 rw [List.take_add_one, hx, Option.toList_some, open_app, Nat.zero_add, List.length_take, Nat.min_eq_left (by omega)]
 congr 1
theorem open_any {s : Nat} {L : List (Int × Int)} {i : Nat} {x : Int × Int} {p : Int × Int → Bool} (hx : L[i]? = some x) (hs : s.testBit i = false) (hp : p x = true) : (openV s 0 L).any p = true := by
 have h1 := open_app s (L.take (i + 1)) (L.drop (i + 1)) 0
 rw [List.take_append_drop, open_take hx, hs, if_neg (by decide)] at h1;rw [h1, List.any_append, List.any_append, List.any_cons, hp]
 simp
structure JoinI (iv : AVal) (J : Nat → Nat → Bool) (h : AH) : Prop where
 same : sameA iv iv = true
 go : ∃ F recv, (∀ (a b : Nat) (h' : AH), aInvokeIface Try.prog iv "bogworks/drain.joined" [.int .i64 a, .int .i64 b] h' = some (.enter F [recv, .int .i64 a, .int .i64 b] h')) ∧ (∀ (a b : Nat) (h' : AH), Ext h h' → Runs Try.prog F [recv, .int .i64 a, .int .i64 b] h' (fun en h'' => en = .ret (.bool (J a b)) ∧ Ext h' h''))
theorem JoinI.ext {iv : AVal} {J : Nat → Nat → Bool} {h h' : AH} (k : JoinI iv J h) (e : Ext h h') : JoinI iv J h' := ⟨k.same, by
 obtain ⟨F, recv, k1, k2⟩ := k.go
 exact ⟨F, recv, k1, fun a b h'' e' => k2 a b h'' (e.trans e')⟩⟩
def dugI (d : AVal) : AVal := .iface 104 (.agg [d])
def restI (d : AVal) (s : Nat) : AVal := .iface 110 (.agg [d, .int .i64 s])
theorem dugJ_ok {L : List (Int × Int)} {d : AVal} {h : AH} (S : SliceOf h 2 d (L.map spC)) (hL : L.length ≤ 40) (a b : Nat) :
  Runs Try.prog 119 [.agg [d], .int .i64 a, .int .i64 b] h (fun en h' => en = .ret (.bool ((openV 0 0 L).any fun w => joinsV w a b)) ∧ Ext h h') := by
 rw [open_zero]
 have hl2 := S.len
 rw [List.length_map] at hl2
 have hsm := S.same
 have hj := fun h' e (n : Nat) w (hw : L[n]? = some w) => joins_is (h := h') (S.ext e) (by omega) (a := a) (b := b) hw
 have e0 : Ext h h := Ext.refl _
 refine Runs.intro aFunc119 rfl rfl rfl rfl fun rest => ?_;apply gS;refine gR rfl ?_;refine GoR.box rfl rfl rfl rfl rfl rfl fun h0 x0 f0 => ?_;have := e0.1;replace e0 := e0.trans x0;have := f0.1;refine gP ?_;apply gE;iterate 2 apply gS
 refine gR rfl ?_;refine gO rfl rfl (fa104_0 rfl) rfl ?_;refine gO rfl rfl (ld26 rfl f0 rfl) rfl ?_;refine gO rfl rfl (aOp_lenSlice Try.underlying26 rfl hl2) rfl ?_;refine gP ?_;apply gE;refine Go.block noJ_ok ?_
 refine Go.loopKeep (fun i : Nat => [(1, .int .i64 a), (2, .int .i64 b), (3, .ptr h.next 0), (10, .int .i64 L.length), (11, .int .i64 (i : Nat))])
  (fun m i h' => m + i = L.length ∧ Ext h h' ∧ Has h' h.next (.cells .plain [d] 104) ∧ ∀ x, x ∈ L.take i → joinsV x a b = false) (n := L.length) 0 ⟨rfl, rfl, rfl, rfl, rfl, trivial⟩ ⟨rfl, e0, f0, (by intro x hx; simp at hx)⟩ ?_
 clear e0 f0;rintro m i h4 ⟨hm, e0, f0, hp⟩ again
 by_cases hi' : i < L.length
 ·obtain ⟨x, hx⟩ : ∃ x, L[i]? = some x := ⟨L[i], by simp [hi']⟩
  have hjx := fun h' e => hj h' e i x hx
  cases hpx : joinsV x a b with
  | true =>
   rw [hpx] at hjx;rw [List.any_eq_true.2 ⟨x, List.mem_of_getElem? hx, hpx⟩];apply gS;refine gR rfl ?_;refine gO rfl rfl (kLT rfl rfl) rfl ?_;apply gE;apply gS;refine gC (b := true) rfl ?_;refine gD ?_;apply gS;refine Go.block noJ_ok ?_;apply gS;refine gR rfl ?_;iterate 2 refine gP ?_
   apply gE;apply gS;refine gR rfl ?_;refine gO rfl rfl (ld104 rfl f0 rfl) rfl ?_;iterate 3 refine gP ?_
   refine GoR.call rfl rfl (aCF aFunc120 rfl) (hjx _ e0) ?_ np;rintro v5 h5 ⟨q, x5⟩;cases q;refine ⟨_, rfl, ?_⟩;replace f0 := f0.ext x5;replace e0 := e0.trans x5;apply gE;refine gC (b := true) rfl ?_;apply gS;refine gR rfl ?_;refine gP ?_;apply gE;exact gW Try.func119 rfl rfl ⟨rfl, e0⟩
  | false =>
   rw [hpx] at hjx;apply gS;refine gR rfl ?_;refine gO rfl rfl (kLT rfl rfl) rfl ?_;apply gE;apply gS;refine gC (b := true) rfl ?_;refine gD ?_;apply gS;refine Go.block noJ_ok ?_;apply gS;refine gR rfl ?_;iterate 2 refine gP ?_
   apply gE;apply gS;refine gR rfl ?_;refine gO rfl rfl (ld104 rfl f0 rfl) rfl ?_;iterate 3 refine gP ?_
   refine GoR.call rfl rfl (aCF aFunc120 rfl) (hjx _ e0) ?_ np;rintro v5 h5 ⟨q, x5⟩;cases q;refine ⟨_, rfl, ?_⟩;replace f0 := f0.ext x5;replace e0 := e0.trans x5;apply gE;refine gC (b := false) rfl ?_;refine gD ?_;refine Go.inBlock noJ_ok ?_;refine gR rfl ?_;refine gO rfl rfl (aA rfl rfl) rfl ?_;refine gP ?_;apply gE;exact again (m - 1) (i + 1) _ _ (by omega) ⟨rfl, rfl, rfl, rfl, rfl, trivial⟩ ⟨by omega, e0, f0, take_no (p := fun w => joinsV w a b) hx hpx hp⟩
 ·rw [List.take_of_length_le (by omega)] at hp;rw [List.any_eq_false.2 (fun x hx => by rw [hp x hx]; decide)];apply gS;refine gR rfl ?_;refine gO rfl rfl (kLF rfl rfl) rfl ?_;apply gE;apply gS;refine gC (b := false) rfl ?_;refine gD ?_;apply gS;refine gR rfl ?_;refine gP ?_;apply gE;exact gW Try.func119 rfl rfl ⟨rfl, e0⟩
theorem restJ_ok {L : List (Int × Int)} {d : AVal} {s : Nat} {h : AH} (S : SliceOf h 2 d (L.map spC)) (hL : L.length ≤ 40) (a b : Nat) :
  Runs Try.prog 121 [.agg [d, .int .i64 s], .int .i64 a, .int .i64 b] h (fun en h' => en = .ret (.bool ((openV s 0 L).any fun w => joinsV w a b)) ∧ Ext h h') := by
 have hl2 := S.len
 rw [List.length_map] at hl2
 have hsm := S.same
 have hj := fun h' e (n : Nat) w (hw : L[n]? = some w) => joins_is (h := h') (S.ext e) (by omega) (a := a) (b := b) hw
 have e0 : Ext h h := Ext.refl _
 refine Runs.intro aFunc121 rfl rfl rfl rfl fun rest => ?_;apply gS;refine gR rfl ?_;refine GoR.box rfl rfl rfl rfl rfl rfl fun h0 x0 f0 => ?_;have := e0.1;replace e0 := e0.trans x0;have := f0.1;refine gP ?_;apply gE;iterate 2 apply gS
 refine gR rfl ?_;refine gO rfl rfl (fa110_0 rfl) rfl ?_;refine gO rfl rfl (fa104_0 rfl) rfl ?_;refine gO rfl rfl (ld26 rfl f0 rfl) rfl ?_;refine gO rfl rfl (aOp_lenSlice Try.underlying26 rfl hl2) rfl ?_;refine gP ?_;apply gE;refine Go.block noJ_ok ?_
 refine Go.loopKeep (fun i : Nat => [(1, .int .i64 a), (2, .int .i64 b), (3, .ptr h.next 0), (11, .int .i64 L.length), (12, .int .i64 (i : Nat))])
  (fun m i h' => m + i = L.length ∧ Ext h h' ∧ Has h' h.next (.cells .plain [d, .int .i64 s] 110) ∧ ∀ x, x ∈ openV s 0 (L.take i) → joinsV x a b = false) (n := L.length) 0 ⟨rfl, rfl, rfl, rfl, rfl, trivial⟩ ⟨rfl, e0, f0, (by intro x hx; rw [List.take_zero] at hx; cases hx)⟩ ?_
 clear e0 f0;rintro m i h4 ⟨hm, e0, f0, hp⟩ again
 by_cases hi' : i < L.length
 ·obtain ⟨x, hx⟩ : ∃ x, L[i]? = some x := ⟨L[i], by simp [hi']⟩
  have hjx := fun h' e => hj h' e i x hx
  have hot := open_take (s := s) hx
  have hhas := fun h => has_is (s := s) (i := i) (by omega) (h := h)
  cases hb : s.testBit i with
  | true =>
   rw [hb] at hhas;rw [hb, if_pos rfl, List.append_nil] at hot;apply gS;refine gR rfl ?_;refine gO rfl rfl (kLT rfl rfl) rfl ?_;apply gE;apply gS;refine gC (b := true) rfl ?_;refine gD ?_;apply gS;refine Go.block noJ_ok ?_;apply gS;refine gR rfl ?_;iterate 2 refine gP ?_
   apply gE;apply gS;refine gR rfl ?_;refine gO rfl rfl (fa110_1 rfl) rfl ?_;refine gO rfl rfl (ld3 rfl f0 rfl) rfl ?_;refine gP ?_;refine GoR.call rfl rfl (aCF aFunc92 rfl) (hhas _) ?_ np;rintro v5 h5 ⟨q, x5⟩;cases q;refine ⟨_, rfl, ?_⟩;replace f0 := f0.ext x5;replace e0 := e0.trans x5;iterate 2 refine gP ?_
   iterate 6 refine GoR.skip rfl rfl rfl ?_
   refine gP ?_;apply gE;refine gC (b := false) rfl ?_;refine gD ?_;refine Go.inBlock noJ_ok ?_;refine gR rfl ?_;refine gO rfl rfl (aA rfl rfl) rfl ?_;refine gP ?_;apply gE;exact again (m - 1) (i + 1) _ _ (by omega) ⟨rfl, rfl, rfl, rfl, rfl, trivial⟩ ⟨by omega, e0, f0, by rw [hot]; exact hp⟩
  | false =>
   rw [hb] at hhas;rw [hb, if_neg (by decide)] at hot
   cases hpx : joinsV x a b with
   | true =>
    rw [hpx] at hjx;rw [open_any (p := fun w => joinsV w a b) hx hb hpx];apply gS;refine gR rfl ?_;refine gO rfl rfl (kLT rfl rfl) rfl ?_;apply gE;apply gS;refine gC (b := true) rfl ?_;refine gD ?_;apply gS;refine Go.block noJ_ok ?_;apply gS;refine gR rfl ?_;iterate 2 refine gP ?_
    apply gE;apply gS;refine gR rfl ?_;refine gO rfl rfl (fa110_1 rfl) rfl ?_;refine gO rfl rfl (ld3 rfl f0 rfl) rfl ?_;refine gP ?_;refine GoR.call rfl rfl (aCF aFunc92 rfl) (hhas _) ?_ np;rintro v5 h5 ⟨q, x5⟩;cases q;refine ⟨_, rfl, ?_⟩;replace f0 := f0.ext x5;replace e0 := e0.trans x5;iterate 2 refine gP ?_
    refine gO rfl rfl (fa110_0 rfl) rfl ?_;refine gO rfl rfl (ld104 rfl f0 rfl) rfl ?_;iterate 3 refine gP ?_
    refine GoR.call rfl rfl (aCF aFunc120 rfl) (hjx _ e0) ?_ np;rintro v6 h6 ⟨q, x6⟩;cases q;refine ⟨_, rfl, ?_⟩;replace f0 := f0.ext x6;replace e0 := e0.trans x6;refine gP ?_;apply gE;refine gC (b := true) rfl ?_;apply gS;refine gR rfl ?_;refine gP ?_;apply gE;exact gW Try.func121 rfl rfl ⟨rfl, e0⟩
   | false =>
    rw [hpx] at hjx;apply gS;refine gR rfl ?_;refine gO rfl rfl (kLT rfl rfl) rfl ?_;apply gE;apply gS;refine gC (b := true) rfl ?_;refine gD ?_;apply gS;refine Go.block noJ_ok ?_;apply gS;refine gR rfl ?_;iterate 2 refine gP ?_
    apply gE;apply gS;refine gR rfl ?_;refine gO rfl rfl (fa110_1 rfl) rfl ?_;refine gO rfl rfl (ld3 rfl f0 rfl) rfl ?_;refine gP ?_;refine GoR.call rfl rfl (aCF aFunc92 rfl) (hhas _) ?_ np;rintro v5 h5 ⟨q, x5⟩;cases q;refine ⟨_, rfl, ?_⟩;replace f0 := f0.ext x5;replace e0 := e0.trans x5;iterate 2 refine gP ?_
    refine gO rfl rfl (fa110_0 rfl) rfl ?_;refine gO rfl rfl (ld104 rfl f0 rfl) rfl ?_;iterate 3 refine gP ?_
    refine GoR.call rfl rfl (aCF aFunc120 rfl) (hjx _ e0) ?_ np;rintro v6 h6 ⟨q, x6⟩;cases q;refine ⟨_, rfl, ?_⟩;replace f0 := f0.ext x6;replace e0 := e0.trans x6;refine gP ?_;apply gE;refine gC (b := false) rfl ?_;refine gD ?_;refine Go.inBlock noJ_ok ?_;refine gR rfl ?_;refine gO rfl rfl (aA rfl rfl) rfl ?_;refine gP ?_;apply gE;refine again (m - 1) (i + 1) _ _ (by omega) ⟨rfl, rfl, rfl, rfl, rfl, trivial⟩ ⟨by omega, e0, f0, ?_⟩
    intro y hy
    rw [hot] at hy
    rcases List.mem_append.1 hy with hy | hy
    ·exact hp y hy
    ·cases List.mem_singleton.1 hy
     exact hpx
 ·rw [List.take_of_length_le (by omega)] at hp;rw [List.any_eq_false.2 (fun x hx => by rw [hp x hx]; decide)];apply gS;refine gR rfl ?_;refine gO rfl rfl (kLF rfl rfl) rfl ?_;apply gE;apply gS;refine gC (b := false) rfl ?_;refine gD ?_;apply gS;refine gR rfl ?_;refine gP ?_;apply gE;exact gW Try.func121 rfl rfl ⟨rfl, e0⟩
theorem dug_join {L : List (Int × Int)} {d : AVal} {h : AH} (S : SliceOf h 2 d (L.map spC)) (hL : L.length ≤ 40) : JoinI (dugI d) (fun a b => (openV 0 0 L).any fun w => joinsV w a b) h :=
 ⟨by unfold dugI; simp [sameA, sameAs, S.same], ⟨119, .agg [d], fun a b h' => aInvoke_of rfl aFunc119, fun a b h' e => dugJ_ok (S.ext e) hL a b⟩⟩
theorem rest_join {L : List (Int × Int)} {d : AVal} {s : Nat} {h : AH} (S : SliceOf h 2 d (L.map spC)) (hL : L.length ≤ 40) : JoinI (restI d s) (fun a b => (openV s 0 L).any fun w => joinsV w a b) h :=
 ⟨by unfold restI; simp [sameA, sameAs, eqI_eq, S.same], ⟨121, .agg [d, .int .i64 s], fun a b h' => aInvoke_of rfl aFunc121, fun a b h' e => restJ_ok (S.ext e) hL a b⟩⟩
def lv5 (l : List Int) : List Int := l ++ List.replicate (5 - l.length) 0
theorem lv5_len {l : List Int} (h : l.length ≤ 5) : (lv5 l).length = 5 := by unfold lv5; simp; omega
theorem lv5_at {l : List Int} {i : Nat} (h : i < l.length) : (lv5 l)[i]? = some (lv l i) := by
 unfold lv5 lv
 rw [List.getElem?_append_left h]
 simp [h]
theorem lowest_ok {D : DrainV} (O : D.Ok) {b d r s iv : AVal} {J : Nat → Nat → Bool} {l : List Int} (hl : l.length = D.bs.length) {a : Nat} (ha : a < D.bs.length) {h : AH} (A : DrainAt h D b d r s) (JI : JoinI iv J h) :
  Runs Try.prog 103 [.agg (dC b d r s), iv, .agg (i64s (lv5 l)), .int .i64 a] h (fun en h' => en = .ret (.int .i64 (lowV (J a) l D.bs.length a)) ∧ Ext h h') := by
 have hnb := O.nb
 have hl1 := A.bs.len
 rw [List.length_map] at hl1
 have hsm := A.same
 have hlen := lv5_len (l := l) (by omega)
 have hga : (i64s (lv5 l))[0 + a * 1]? = some (.int .i64 (lv l a)) := i64s_at (lv5_at (by omega))
 unfold dC at *
 rw [low_eq]
 obtain ⟨F, recv, k1, k2⟩ := JI.go
 have e0 : Ext h h := Ext.refl _
 refine Runs.intro aFunc103 rfl rfl rfl rfl fun rest => ?_;apply gS;refine gR rfl ?_;refine GoR.box rfl rfl rfl rfl rfl rfl fun h0 x0 f0 => ?_;have := e0.1;replace e0 := e0.trans x0;have := f0.1;refine GoR.box rfl rfl rfl rfl rfl rfl fun h1 x1 f1 => ?_;have := e0.1;have := f0.1;replace f0 := f0.ext x1;replace e0 := e0.trans x1;have := f1.1;refine gP ?_;apply gE;apply gS;refine Go.drawnE plan103_0 ?_;refine gQ rfl rfl (fa71_0 rfl) rfl ?_;refine gQ rfl rfl (ld25 rfl f0 rfl) rfl ?_;refine gQ rfl rfl (aOp_lenSlice Try.underlying25 rfl hl1) rfl ?_;refine gQ rfl rfl rfl rfl ?_;refine gQ rfl rfl (fa99_0 rfl) rfl ?_;refine gQ rfl rfl (aOp_indexAddrArr (i := a) Try.underlying97 sz3 rfl rfl (Nat.ble_eq_true_of_le (by omega))) rfl ?_;refine gQ rfl rfl (ld3 rfl f1 hga) rfl ?_;iterate 2 refine gQ rfl rfl rfl rfl ?_
 refine GoE.end rfl ?_;iterate 2 apply gS
 refine gR rfl ?_;refine gO rfl rfl (fa71_0 rfl) rfl ?_;refine gO rfl rfl (ld25 rfl f0 rfl) rfl ?_;refine gO rfl rfl (aOp_lenSlice Try.underlying25 rfl hl1) rfl ?_;refine gP ?_;apply gE;refine Go.block noJ_ok ?_
 refine Go.loopKeep (fun i : Nat => [(1, iv), (3, .int .i64 a), (6, .ptr h0.next 0), (9, .int .i64 (lowP (J a) l D.bs.length a i).1), (10, .int .i64 (lowP (J a) l D.bs.length a i).2), (21, .int .i64 D.bs.length), (22, .int .i64 (i : Nat))])
  (fun m i h' => m + i = D.bs.length ∧ Ext h h' ∧ Has h' h0.next (.cells .plain (i64s (lv5 l)) 99)) (n := D.bs.length) 0 ⟨rfl, rfl, rfl, rfl, rfl, rfl, rfl, trivial⟩ ⟨rfl, e0, f1⟩ ?_
 clear e0 f1 f0;rintro m i h4 ⟨hm, e0, f1⟩ again
 by_cases hi' : i < D.bs.length
 ·have hgi : (i64s (lv5 l))[0 + i * 1]? = some (.int .i64 (lv l i)) := i64s_at (lv5_at (by omega))
  have hst := low_succ (J a) l D.bs.length a i
  obtain ⟨⟨fo, le⟩, hfo⟩ : ∃ st, lowP (J a) l D.bs.length a i = st := ⟨_, rfl⟩
  rw [hfo] at hst ⊢
  unfold lowStep at hst
  have hli : (l[i]?).getD 0 = lv l i := rfl
  rw [hli] at hst
  dsimp only at hst ⊢
  by_cases c1 : lv l i < le
  ·have k2' := fun h' e => k2 a i h' e
   cases hJ : J a i with
   | true =>
    rw [if_pos ⟨c1, hJ⟩] at hst;rw [hJ] at k2';apply gS;refine gR rfl ?_;refine gO rfl rfl (kLT rfl rfl) rfl ?_;apply gE;apply gS;refine gC (b := true) rfl ?_;refine gD ?_;apply gS;refine Go.block noJ_ok ?_;apply gS;refine gR rfl ?_;iterate 2 refine gP ?_
    apply gE;apply gS;refine gR rfl ?_;refine gP ?_;refine gO rfl rfl (fa99_0 rfl) rfl ?_;refine gO rfl rfl (aOp_indexAddrArr (i := i) Try.underlying97 sz3 rfl rfl (Nat.ble_eq_true_of_le (by omega))) rfl ?_;refine gO rfl rfl (ld3 rfl f1 hgi) rfl ?_;refine gP ?_;refine gO rfl rfl (kLT rfl rfl) rfl ?_;iterate 4 refine gP ?_
    refine GoR.call rfl rfl (aOp_invoke rfl rfl (k1 _ _ _)) (k2' _ e0) ?_ np;rintro _ h5 ⟨q, x5⟩;cases q;refine ⟨_, rfl, ?_⟩;replace f1 := f1.ext x5;replace e0 := e0.trans x5;refine gP ?_;apply gE;refine gC (b := true) rfl ?_;refine Go.drawnE plan103_1 ?_;iterate 2 refine gQ rfl rfl rfl rfl ?_
    refine gQ rfl rfl (fa99_0 rfl) rfl ?_;refine gQ rfl rfl (aOp_indexAddrArr (i := i) Try.underlying97 sz3 rfl rfl (Nat.ble_eq_true_of_le (by omega))) rfl ?_;refine gQ rfl rfl (ld3 rfl f1 hgi) rfl ?_;iterate 2 refine gQ rfl rfl rfl rfl ?_
    refine GoE.end rfl ?_;refine Go.inBlock noJ_ok ?_;refine gR rfl ?_;refine gO rfl rfl (aA rfl rfl) rfl ?_;refine gP ?_;apply gE;exact again (m - 1) (i + 1) _ _ (by omega) ⟨rfl, rfl, rfl, by rw [hst]; rfl, by rw [hst]; rfl, rfl, rfl, trivial⟩ ⟨by omega, e0, f1⟩
   | false =>
    rw [if_neg (fun q => by rw [hJ] at q; exact absurd q.2 (by decide))] at hst;rw [hJ] at k2';apply gS;refine gR rfl ?_;refine gO rfl rfl (kLT rfl rfl) rfl ?_;apply gE;apply gS;refine gC (b := true) rfl ?_;refine gD ?_;apply gS;refine Go.block noJ_ok ?_;apply gS;refine gR rfl ?_;iterate 2 refine gP ?_
    apply gE;apply gS;refine gR rfl ?_;refine gP ?_;refine gO rfl rfl (fa99_0 rfl) rfl ?_;refine gO rfl rfl (aOp_indexAddrArr (i := i) Try.underlying97 sz3 rfl rfl (Nat.ble_eq_true_of_le (by omega))) rfl ?_;refine gO rfl rfl (ld3 rfl f1 hgi) rfl ?_;refine gP ?_;refine gO rfl rfl (kLT rfl rfl) rfl ?_;iterate 4 refine gP ?_
    refine GoR.call rfl rfl (aOp_invoke rfl rfl (k1 _ _ _)) (k2' _ e0) ?_ np;rintro _ h5 ⟨q, x5⟩;cases q;refine ⟨_, rfl, ?_⟩;replace f1 := f1.ext x5;replace e0 := e0.trans x5;refine gP ?_;apply gE;refine gC (b := false) rfl ?_;refine gD ?_;refine Go.inBlock noJ_ok ?_;refine gR rfl ?_;refine gO rfl rfl (aA rfl rfl) rfl ?_;refine gP ?_;apply gE;exact again (m - 1) (i + 1) _ _ (by omega) ⟨rfl, rfl, rfl, by rw [hst]; rfl, by rw [hst]; rfl, rfl, rfl, trivial⟩ ⟨by omega, e0, f1⟩
  ·rw [if_neg (fun q => c1 q.1)] at hst;apply gS;refine gR rfl ?_;refine gO rfl rfl (kLT rfl rfl) rfl ?_;apply gE;apply gS;refine gC (b := true) rfl ?_;refine gD ?_;apply gS;refine Go.block noJ_ok ?_;apply gS;refine gR rfl ?_;iterate 2 refine gP ?_
   apply gE;apply gS;refine gR rfl ?_;refine gP ?_;refine gO rfl rfl (fa99_0 rfl) rfl ?_;refine gO rfl rfl (aOp_indexAddrArr (i := i) Try.underlying97 sz3 rfl rfl (Nat.ble_eq_true_of_le (by omega))) rfl ?_;refine gO rfl rfl (ld3 rfl f1 hgi) rfl ?_;refine gP ?_;refine gO rfl rfl (kLF rfl rfl) rfl ?_;refine gP ?_;iterate 4 refine GoR.skip rfl rfl rfl ?_
   refine gP ?_;apply gE;refine gC (b := false) rfl ?_;refine gD ?_;refine Go.inBlock noJ_ok ?_;refine gR rfl ?_;refine gO rfl rfl (aA rfl rfl) rfl ?_;refine gP ?_;apply gE;exact again (m - 1) (i + 1) _ _ (by omega) ⟨rfl, rfl, rfl, by rw [hst]; rfl, by rw [hst]; rfl, rfl, rfl, trivial⟩ ⟨by omega, e0, f1⟩
 ·rw [show i = D.bs.length by omega];apply gS;refine gR rfl ?_;refine gO rfl rfl (kLF rfl rfl) rfl ?_;apply gE;apply gS;refine gC (b := false) rfl ?_;refine gD ?_;apply gS;refine gR rfl ?_;iterate 2 refine gP ?_
  apply gE;exact gW Try.func103 rfl rfl ⟨rfl, e0⟩
end Go.Proofs.Ytkhiagdmbajimaa

namespace Go.Proofs.Ytkhiagdmbajimaa
open Go Go.AbsE
set_option linter.unusedSimpArgs false
set_option maxRecDepth 100000
set_option maxHeartbeats 0
set_option linter.unusedVariables false
noncomputable def ops91a : Array Oper := ((drawnOps Try.f91)[0]?).getD #[]
theorem befs91a : befs0 ops91a = [0, 1, 3, 7, 0, 16, 63, 0, 255] := by kernel_rfl
theorem size91a : ops91a.size = 9 := by kernel_rfl
theorem pl91a_3_7 : planX ops91a [0, 1, 3, 7, 0, 16, 63, 15, 255] [0, 1, 2, 4, 5, 3, 6, 7, 8] = some (mkPlan ops91a.toList [(0, 0, true, false), (1, 1, true, false), (2, 3, true, false), (4, 0, true, false), (5, 16, true, false), (3, 7, false, false), (6, 63, true, false), (7, 15, false, false), (8, 255, false, false)]) := by kernel_rfl
theorem pl91a_7_3 : planX ops91a [0, 1, 3, 135, 0, 16, 191, 0, 255] [0, 1, 2, 4, 5, 7, 3, 6, 8] = some (mkPlan ops91a.toList [(0, 0, true, false), (1, 1, true, false), (2, 3, true, false), (4, 0, true, false), (5, 16, true, false), (7, 0, false, false), (3, 135, false, false), (6, 191, true, false), (8, 255, false, false)]) := by kernel_rfl
theorem alts91a {P : Program} {c : FC} {k : List AItem} {id : Nat} {t : Tr AVal} {h : AH} {Q : AM → Prop}
  (g3_7 : ∀ pl, planX ops91a [0, 1, 3, 7, 0, 16, 63, 15, 255] [0, 1, 2, 4, 5, 3, 6, 7, 8] = some pl → GoE P c k Q ops91a pl (eraseT ops91a.toList t) [] t h)
  (g7_3 : ∀ pl, planX ops91a [0, 1, 3, 135, 0, 16, 191, 0, 255] [0, 1, 2, 4, 5, 7, 3, 6, 8] = some pl → GoE P c k Q ops91a pl (eraseT ops91a.toList t) [] t h) :
  Go P c (.code (.region id ops91a true) :: k) t h Q := by
 refine Go.drawnX pl91a_7_3 fun s hv => ?_
 have hb := fun i k hi hk => VB.before hv befs91a i k (by rw [size91a]; exact hi) hk
 have h1_0 := hb 1 0 (by decide) (by decide)
 have h2_0 := hb 2 0 (by decide) (by decide)
 have h2_1 := hb 2 1 (by decide) (by decide)
 have h3_0 := hb 3 0 (by decide) (by decide)
 have h3_1 := hb 3 1 (by decide) (by decide)
 have h3_2 := hb 3 2 (by decide) (by decide)
 have h6_0 := hb 6 0 (by decide) (by decide)
 have h6_1 := hb 6 1 (by decide) (by decide)
 have h6_2 := hb 6 2 (by decide) (by decide)
 have h6_3 := hb 6 3 (by decide) (by decide)
 have d7_3 := VB.apart hv befs91a 7 3 (by rw [size91a]; decide) (by decide)
 by_cases q7_3 : s.idxOf 7 < s.idxOf 3
 ·refine ⟨_, _, _, pl91a_7_3, VB.alt hv befs91a size91a [(7, 3), (7, 6)] (by kernel_rfl) ?_, g7_3 _ pl91a_7_3⟩
  intro e he
  simp only [List.mem_cons, List.not_mem_nil, or_false] at he
  rcases he with rfl | rfl <;> dsimp only <;> omega
 ·refine ⟨_, _, _, pl91a_3_7, VB.alt hv befs91a size91a [(0, 7), (1, 7), (2, 7), (3, 7)] (by kernel_rfl) ?_, g3_7 _ pl91a_3_7⟩
  intro e he
  simp only [List.mem_cons, List.not_mem_nil, or_false] at he
  rcases he with rfl | rfl | rfl | rfl <;> dsimp only <;> omega
noncomputable def ops70a : Array Oper := ((drawnOps Try.f70)[0]?).getD #[]
theorem befs70a : befs0 ops70a = [0, 0, 2, 6, 0, 31, 0, 127] := by kernel_rfl
theorem size70a : ops70a.size = 8 := by kernel_rfl
theorem pl70a_2_5_6 : planX ops70a [0, 0, 2, 6, 0, 31, 63, 127] [0, 1, 4, 2, 3, 5, 6, 7] = some (mkPlan ops70a.toList [(0, 0, true, false), (1, 0, true, false), (4, 0, true, false), (2, 2, false, false), (3, 6, true, false), (5, 31, false, false), (6, 63, false, false), (7, 127, false, false)]) := by kernel_rfl
theorem pl70a_2_6_5 : planX ops70a [0, 0, 2, 6, 0, 95, 6, 127] [0, 1, 4, 2, 3, 6, 5, 7] = some (mkPlan ops70a.toList [(0, 0, true, false), (1, 0, true, false), (4, 0, true, false), (2, 2, false, false), (3, 6, true, false), (6, 6, false, false), (5, 95, false, false), (7, 127, false, false)]) := by kernel_rfl
theorem pl70a_6_2_5 : planX ops70a [0, 0, 66, 70, 0, 95, 0, 127] [0, 1, 4, 6, 2, 3, 5, 7] = some (mkPlan ops70a.toList [(0, 0, true, false), (1, 0, true, false), (4, 0, true, false), (6, 0, false, false), (2, 66, false, false), (3, 70, true, false), (5, 95, false, false), (7, 127, false, false)]) := by kernel_rfl
theorem alts70a {P : Program} {c : FC} {k : List AItem} {id : Nat} {t : Tr AVal} {h : AH} {Q : AM → Prop}
  (g2_5_6 : ∀ pl, planX ops70a [0, 0, 2, 6, 0, 31, 63, 127] [0, 1, 4, 2, 3, 5, 6, 7] = some pl → GoE P c k Q ops70a pl (eraseT ops70a.toList t) [] t h)
  (g2_6_5 : ∀ pl, planX ops70a [0, 0, 2, 6, 0, 95, 6, 127] [0, 1, 4, 2, 3, 6, 5, 7] = some pl → GoE P c k Q ops70a pl (eraseT ops70a.toList t) [] t h)
  (g6_2_5 : ∀ pl, planX ops70a [0, 0, 66, 70, 0, 95, 0, 127] [0, 1, 4, 6, 2, 3, 5, 7] = some pl → GoE P c k Q ops70a pl (eraseT ops70a.toList t) [] t h) :
  Go P c (.code (.region id ops70a true) :: k) t h Q := by
 refine Go.drawnX pl70a_6_2_5 fun s hv => ?_
 have hb := fun i k hi hk => VB.before hv befs70a i k (by rw [size70a]; exact hi) hk
 have h2_1 := hb 2 1 (by decide) (by decide)
 have h3_1 := hb 3 1 (by decide) (by decide)
 have h3_2 := hb 3 2 (by decide) (by decide)
 have h5_0 := hb 5 0 (by decide) (by decide)
 have h5_1 := hb 5 1 (by decide) (by decide)
 have h5_2 := hb 5 2 (by decide) (by decide)
 have h5_3 := hb 5 3 (by decide) (by decide)
 have h5_4 := hb 5 4 (by decide) (by decide)
 have d6_2 := VB.apart hv befs70a 6 2 (by rw [size70a]; decide) (by decide)
 have d6_5 := VB.apart hv befs70a 6 5 (by rw [size70a]; decide) (by decide)
 by_cases q6_2 : s.idxOf 6 < s.idxOf 2
 ·refine ⟨_, _, _, pl70a_6_2_5, VB.alt hv befs70a size70a [(6, 2), (6, 3), (6, 5)] (by kernel_rfl) ?_, g6_2_5 _ pl70a_6_2_5⟩
  intro e he
  simp only [List.mem_cons, List.not_mem_nil, or_false] at he
  rcases he with rfl | rfl | rfl <;> dsimp only <;> omega
 ·by_cases q6_5 : s.idxOf 6 < s.idxOf 5
  ·refine ⟨_, _, _, pl70a_2_6_5, VB.alt hv befs70a size70a [(6, 5), (1, 6), (2, 6)] (by kernel_rfl) ?_, g2_6_5 _ pl70a_2_6_5⟩
   intro e he
   simp only [List.mem_cons, List.not_mem_nil, or_false] at he
   rcases he with rfl | rfl | rfl <;> dsimp only <;> omega
  ·refine ⟨_, _, _, pl70a_2_5_6, VB.alt hv befs70a size70a [(0, 6), (1, 6), (2, 6), (3, 6), (4, 6), (5, 6)] (by kernel_rfl) ?_, g2_5_6 _ pl70a_2_5_6⟩
   intro e he
   simp only [List.mem_cons, List.not_mem_nil, or_false] at he
   rcases he with rfl | rfl | rfl | rfl | rfl | rfl <;> dsimp only <;> omega
end Go.Proofs.Ytkhiagdmbajimaa

set_option linter.unusedSimpArgs false
namespace Go.AbsE
open Go
section
variable {P : Program}
structure TakesN (P : Program) (base : Nat) (y : AVal) (items : List (List AVal)) (J E : Nat → AH → (Nat → Prop) → Prop) : Prop where
 ltJ : ∀ {k h F b}, J k h F → F b → b < h.next
 keepJ : ∀ {k h F h'}, J k h F → h.next ≤ h'.next → (∀ b, b < h.next → (b < base ∨ F b) → h'.get b = h.get b) → J k h' F
 ltE : ∀ {k h F b}, E k h F → F b → b < h.next
 keepE : ∀ {k h F h'}, E k h F → h.next ≤ h'.next → (∀ b, b < h.next → (b < base ∨ F b) → h'.get b = h.get b) → E k h' F
 take : ∀ {k item h F}, items[k]? = some item → J k h F → ∃ x, callY P y item h = some x ∧ (∀ v h', x ≠ .val v h') ∧
  Does P x (fun en h' => ExtF F h h' ∧ ∃ F', (∀ b, F' b → F b ∨ h.next ≤ b) ∧ ((en = .ret (.bool true) ∧ J (k + 1) h' F') ∨ (en = .ret (.bool false) ∧ E k h' F')))
theorem TakesN.ext {base : Nat} {y : AVal} {items : List (List AVal)} {J E : Nat → AH → (Nat → Prop) → Prop} (T : TakesN P base y items J E) {k : Nat} {h h' : AH} {F : Nat → Prop} (j : J k h F) (e : Ext h h') : J k h' F := T.keepJ j e.1 fun b hb _ => e.2 b hb
theorem TakesN.keep {base : Nat} {y : AVal} {items : List (List AVal)} {J E : Nat → AH → (Nat → Prop) → Prop} (T : TakesN P base y items J E) {k : Nat} {h h' : AH} {F : Nat → Prop} (j : J k h F) (hn : h.next ≤ h'.next) (he : ∀ b, b < h.next → (b < base ∨ F b) → h'.get b = h.get b) : J k h' F := T.keepJ j hn he
theorem TakesN.shift {base : Nat} {y : AVal} {items sub : List (List AVal)} {J E : Nat → AH → (Nat → Prop) → Prop} (T : TakesN P base y items J E) (o : Nat) (hs : ∀ (n : Nat) v, sub[n]? = some v → items[o + n]? = some v) :
  TakesN P base y sub (fun n => J (o + n)) (fun n => E (o + n)) where
 ltJ := fun j => T.ltJ j
 keepJ := fun j => T.keepJ j
 ltE := fun j => T.ltE j
 keepE := fun j => T.keepE j
 take := fun h j => T.take (hs _ _ h) j
def IterN (P : Program) (g : FuncId) (first cap : List AVal) (items : List (List AVal)) (A : AH → Prop) : Prop :=
 ∀ (y : AVal) (base : Nat) (J E : Nat → AH → (Nat → Prop) → Prop) (h : AH) (F : Nat → Prop), y.cells = [y] → scalars [y] = true → (∀ h', ExtF F h h' → A h') → base ≤ h.next → TakesN P base y items J E → J 0 h F → Runs P g (first ++ [y] ++ cap) h (IterFR F J E items.length h)
theorem IterN.mono {g : FuncId} {first cap : List AVal} {items : List (List AVal)} {A A' : AH → Prop} (k : IterN P g first cap items A) (hA : ∀ h, A' h → A h) : IterN P g first cap items A' :=
 fun y base J E h F hyc hys hA' => k y base J E h F hyc hys fun h' x => hA h' (hA' h' x)
theorem Go.rangeN {fn n : Nat} {ds : List ADef} {dk : Bool} {rst : List AFr} {k : List AItem} {Q : AM → Prop} {t : Tr AVal} {h : AH} {x : Operand} {params : Array Tmp} {assign body : Code} {g : FuncId} {gf fnr : Func} {first cap : List AVal}
  {items : List (List AVal)} {A : AH → Prop} (F0 : Nat → Prop) (Inv : Nat → AH → (Nat → Prop) → Prop) (Fin : Code → AH → (Nat → Prop) → Prop)
  (hx : ev t x = some (.func (.func g) first cap)) (hg : aFunc P g = some gf) (hfn : P.funcs[fn]? = some fnr) (it : IterN P g first cap items A)
  (hA : ∀ h', ExtF F0 h h' → A h') (hI : Inv 0 h F0)
  (lI : ∀ k hh F b, Inv k hh F → F b → b < hh.next) (lF : ∀ c hh F b, Fin c hh F → F b → b < hh.next)
  (kI : ∀ k h1 h2 F, Inv k h1 F → h1.next ≤ h2.next → (∀ b, b < h1.next → (b < h.next ∨ F b) → h2.get b = h1.get b) → Inv k h2 F)
  (kF : ∀ c h1 h2 F, Fin c h1 F → h1.next ≤ h2.next → (∀ b, b < h1.next → (b < h.next ∨ F b) → h2.get b = h1.get b) → Fin c h2 F)
  (bd : ∀ (j : Nat) item, items[j]? = some item → ∃ t1, putArgs t n params.toList item = some t1 ∧ ∀ (hh : AH) (F : Nat → Prop) (lb : Nat) (r0 : ALoop) (fr : AFr) (rest : List AFr) (Q' : AM → Prop), Inv j hh F → ExtF F0 h hh → (∀ b, F b → F0 b ∨ h.next ≤ b) → ¬ F lb → h.next ≤ lb → Has hh lb (.loop r0) → r0.state = .ready →
   (∀ tt h' F', Inv (j + 1) h' F' → (∀ b, F' b → F b ∨ hh.next ≤ b) → ExtF (fun b => F b ∨ b = lb) hh h' → Has h' lb (.loop { r0 with state := .busy }) → Go P ⟨fn, n, [], false, some lb, fr :: rest⟩ [] tt h' Q') →
   (∀ c tt h' kk F', (c = .ret ∨ ∃ id, c = .exit id ∧ exitA id kk = none) → Fin c h' F' → (∀ b, F' b → F b ∨ hh.next ≤ b) → ExtF (fun b => F b ∨ b = lb) hh h' → Has h' lb (.loop { r0 with state := .busy }) → Go P ⟨fn, n, [], false, some lb, fr :: rest⟩ (.code c :: kk) tt h' Q') →
   Go P ⟨fn, n, [], false, some lb, fr :: rest⟩ [.code assign, .beginRound, .code body] t1 hh Q')
  (nx : ∀ d h3 F, ExtF F0 h h3 → (∀ b, F b → F0 b ∨ h.next ≤ b) → ¬ F d → h.next ≤ d → Has h3 d (.deferred (some [])) → Inv items.length h3 F → Go P ⟨fn, n, .collected d :: ds, dk, none, rst⟩ k t h3 Q)
  (fx : ∀ c d h3 F, ExtF F0 h h3 → (∀ b, F b → F0 b ∨ h.next ≤ b) → ¬ F d → h.next ≤ d → Has h3 d (.deferred (some [])) → Fin c h3 F → Go P ⟨fn, n, .collected d :: ds, dk, none, rst⟩ (.code c :: k) t h3 Q) :
  Go P ⟨fn, n, ds, dk, none, rst⟩ (.code (.rangeFunc x params assign body) :: k) t h Q := by
 refine Go.rangeFunc hx hg fun d lb h2 hd hlb e2 fd fl => ?_
 obtain ⟨r0, hr0, fl⟩ : ∃ r0 : ALoop, r0 = _ ∧ Has h2 lb (.loop r0) := ⟨_, rfl, fl⟩
 have n2 := e2.1
 have nl := fl.1
 have nd := fd.1
 have hF0 : ∀ b, F0 b → b < h.next := fun b q => lI _ _ _ _ hI q
 let Agree : AH → Prop := fun hh => h2.next ≤ hh.next ∧ ∀ b, b < h2.next → ¬ F0 b → b ≠ lb → hh.get b = h2.get b
 let Sub : (Nat → Prop) → Prop := fun F => ∀ b, F b → F0 b ∨ h2.next ≤ b
 let J : Nat → AH → (Nat → Prop) → Prop := fun j hh G => ∃ F, (∀ b, G b ↔ (F b ∨ b = lb)) ∧ Sub F ∧ Inv j hh F ∧ Agree hh ∧ Has hh lb (.loop r0)
 let E : Nat → AH → (Nat → Prop) → Prop := fun j hh G => ∃ F, (∀ b, G b ↔ (F b ∨ b = lb)) ∧ Sub F ∧ ∃ c, Fin c hh F ∧ Agree hh ∧ Has hh lb (.loop { r0 with state := .done, pending := some c })
 have hsub : ∀ {hh}, Agree hh → ExtF F0 h hh := fun {hh} a => ⟨by have := a.1; omega, fun b hb hn => by rw [a.2 b (by omega) hn (by omega), e2.2 b hb]⟩
 have hd' : ∀ {hh}, Agree hh → Has hh d (.deferred (some [])) := fun {hh} a => ⟨by have := a.1; omega, by rw [a.2 d nd (fun q => by have := hF0 d q; omega) (by omega)]; exact fd.2⟩
 have agU : ∀ {h1 h3 : AH} {o : ABlk}, Agree h1 → Upd h1 lb o h3 → Agree h3 := fun a u => ⟨by rw [u.1]; exact a.1, fun b hb h1 h2 => by rw [u.2.2 b h2]; exact a.2 b hb h1 h2⟩
 have low : ∀ {F}, Sub F → ∀ b, F b → F0 b ∨ h.next ≤ b := fun s b q => (s b q).elim .inl fun q => .inr (by omega)
 have nlb : ∀ {F}, Sub F → ¬ F lb := fun s q => (s lb q).elim (fun q => by have := hF0 _ q; omega) fun q => by omega
 have nd' : ∀ {F}, Sub F → ¬ F d := fun s q => (s d q).elim (fun q => by have := hF0 _ q; omega) fun q => by omega
 have tk : TakesN P h2.next (.yield lb) items J E := by
  refine ⟨?_, ?_, ?_, ?_, ?_⟩
  ·rintro j hh G b ⟨F, hG, s, i, a, f⟩ q
   rcases (hG b).1 q with q | rfl
   ·exact lI _ _ _ _ i q
   ·exact f.1
  ·rintro j hh G h' ⟨F, hG, s, i, a, f⟩ hn he
   have := a.1
   refine ⟨F, hG, s, kI _ _ _ _ i hn fun b hb q => he b hb (q.elim (fun q => .inl (by omega)) fun q => .inr ((hG b).2 (.inl q))), ⟨by omega, fun b hb h1 h2' => by rw [he b (by omega) (.inl hb)]; exact a.2 b hb h1 h2'⟩, ⟨by have := f.1; omega, by rw [he lb f.1 (.inr ((hG lb).2 (.inr rfl)))]; exact f.2⟩⟩
  ·rintro j hh G b ⟨F, hG, s, c, i, a, f⟩ q
   rcases (hG b).1 q with q | rfl
   ·exact lF _ _ _ _ i q
   ·exact f.1
  ·rintro j hh G h' ⟨F, hG, s, c, i, a, f⟩ hn he
   have := a.1
   refine ⟨F, hG, s, c, kF _ _ _ _ i hn fun b hb q => he b hb (q.elim (fun q => .inl (by omega)) fun q => .inr ((hG b).2 (.inl q))), ⟨by omega, fun b hb h1 h2' => by rw [he b (by omega) (.inl hb)]; exact a.2 b hb h1 h2'⟩, ⟨by have := f.1; omega, by rw [he lb f.1 (.inr ((hG lb).2 (.inr rfl)))]; exact f.2⟩⟩
  ·rintro j item hh G hit ⟨F, hG, s, i, a, f⟩
   obtain ⟨t1, p1, p2⟩ := bd j item hit
   refine ⟨_, rfl, (fun _ _ q => by cases q), ?_⟩
   subst hr0
   refine Does.round f p1 hfn fun fr rest Q' hr hpn => ?_
   have hGx : ∀ {h'}, ExtF (fun b => F b ∨ b = lb) hh h' → ExtF G hh h' := fun x' => ⟨x'.1, fun b hb hn => x'.2 b hb fun q => hn ((hG b).2 q)⟩
   have hlt2 : h2.next ≤ hh.next := a.1
   have ag : ∀ {h'}, ExtF (fun b => F b ∨ b = lb) hh h' → Agree h' := fun x' => ⟨by have := a.1; have := x'.1; omega, fun b hb h1 h2' => by
    rw [x'.2 b (by have := a.1; omega) (fun q => q.elim (fun q => (s b q).elim h1 fun q => by omega) h2')]
    exact a.2 b hb h1 h2'⟩
   have sub' : ∀ {F' : Nat → Prop}, (∀ b, F' b → F b ∨ hh.next ≤ b) → Sub F' := fun q b hb => (q b hb).elim (s b) fun q => .inr (by omega)
   have upx : ∀ {h' h''} {o : ABlk}, ExtF (fun b => F b ∨ b = lb) hh h' → Upd h' lb o h'' → ExtF (fun b => F b ∨ b = lb) hh h'' := fun x' u => ⟨by rw [u.1]; exact x'.1, fun b hb hn => by rw [u.2.2 b (fun q => hn (.inr q))]; exact x'.2 b hb hn⟩
   have own : ∀ {F' : Nat → Prop}, (∀ b, F' b → F b ∨ hh.next ≤ b) → ∀ b, (F' b ∨ b = lb) → G b ∨ hh.next ≤ b := fun q b z => z.elim (fun z => (q b z).elim (fun z => .inl ((hG b).2 (.inl z))) .inr) fun z => .inl ((hG b).2 (.inr z))
   refine p2 hh F lb _ fr rest Q' i (hsub a) (low s) (nlb s) (by omega) f rfl ?_ ?_
   ·intro tt h' F' i' so x' f'
    refine Go.roundEnd f' fun h'' u => ?_
    refine hr (.bool true) h'' ⟨hGx (upx x' u), fun b => F' b ∨ b = lb, own so, .inl ⟨rfl, F', fun b => Iff.rfl, sub' so, kI _ _ _ _ i' (by rw [u.1]; exact Nat.le_refl _) (fun b hb q => u.2.2 b (fun z => by subst z; exact q.elim (fun q => by omega) (nlb (sub' so)))), agU (ag x') u, u.has f'⟩⟩
   ·intro c tt h' kk F' hc i' so x' f'
    have fin : ∀ h'', Upd h' lb (.loop { state := .done, pending := some c, fn := fn, n := n, tmps := t, params := params.toList, assign := assign, body := body, defers := d }) h'' → ∃ fr', fr.finish (.bool false) = some fr' ∧ Reach P ⟨fr' :: rest, h''⟩ Q' := by
     intro h'' u
     exact hr (.bool false) h'' ⟨hGx (upx x' u), fun b => F' b ∨ b = lb, own so, .inr ⟨rfl, F', fun b => Iff.rfl, sub' so, c, kF _ _ _ _ i' (by rw [u.1]; exact Nat.le_refl _) (fun b hb q => u.2.2 b (fun z => by subst z; exact q.elim (fun q => by omega) (nlb (sub' so)))), agU (ag x') u, u.has f'⟩⟩
    rcases hc with rfl | ⟨id, rfl, hk⟩
    ·exact Go.roundRet f' fin
    ·exact Go.roundExit f' hk fin
 have ag2 : Agree h2 := ⟨Nat.le_refl _, fun _ _ _ _ => rfl⟩
 have s0 : Sub F0 := fun b q => .inl q
 have i2 : Inv 0 h2 F0 := kI _ _ _ _ hI n2 (fun b hb _ => e2.2 b hb)
 refine ⟨IterFR (fun b => F0 b ∨ b = lb) J E items.length h2, it (.yield lb) h2.next J E h2 (fun b => F0 b ∨ b = lb) rfl rfl (fun h' x => hA h' ⟨by have := x.1; omega, fun b hb hn => by rw [x.2 b (by omega) (fun q => q.elim hn (fun q => by omega)), e2.2 b hb]⟩) (Nat.le_refl _) tk ⟨F0, fun b => Iff.rfl, s0, i2, ag2, fl⟩, (fun chain h' q => by cases q.1), ?_⟩
 rintro v h' ⟨q, x', G, hGG, j | ⟨kk, hk, j⟩⟩
 ·obtain ⟨F, hG, s, i, a, f⟩ := j
  refine ⟨r0, f, by rw [hr0]; exact (fun q => by cases q), fun h3 u => ?_⟩
  have hp : r0.pending = none := by rw [hr0]
  rw [hp]
  exact nx d h3 F (hsub (agU a u)) (low s) (nd' s) (by omega) (hd' (agU a u)) (kI _ _ _ _ i (by rw [u.1]; exact Nat.le_refl _) (fun b hb q => u.2.2 b (fun z => by subst z; exact q.elim (fun q => by omega) (nlb s))))
 ·obtain ⟨F, hG, s, c, i, a, f⟩ := j
  refine ⟨_, f, (fun q => by cases q), fun h3 u => ?_⟩
  exact fx c d h3 F (hsub (agU a u)) (low s) (nd' s) (by omega) (hd' (agU a u)) (kF _ _ _ _ i (by rw [u.1]; exact Nat.le_refl _) (fun b hb q => u.2.2 b (fun z => by subst z; exact q.elim (fun q => by omega) (nlb s))))
end
end Go.AbsE

namespace Go.Proofs.Ytkhiagdmbajimaa
open Go Go.AbsE
set_option linter.unusedSimpArgs false
set_option maxRecDepth 100000
set_option maxHeartbeats 0
set_option linter.unusedVariables false
theorem fill1 {d : AVal} (h : d.cells = [d]) : aFillA (fun i => [(0,1)][i]?) (AVal.agg [AVal.nilslice]).cells [(0, d)] = some [d] := by
 unfold aFillA
 simp only [List.getElem?_cons_zero, h]
 rfl
theorem fill2 {x b : AVal} (hx : x.cells = [x]) (h : b.cells = [b]) : aFillA (fun i => [(0,1),(1,1)][i]?) (AVal.agg [AVal.nilslice, .nilslice]).cells [(0, x), (1, b)] = some [x, b] := by
 unfold aFillA
 simp only [List.getElem?_cons_zero, hx]
 show (match splice [AVal.nilslice, .nilslice] 0 [x] with | some cs => _ | none => none) = _
 unfold aFillA
 simp [splice, h]
 rfl
theorem repl_ints : ∀ n : Nat, repl [AVal.int .i64 0] n = i64s (List.replicate n 0)
 | 0 => rfl
 | n + 1 => by
  show [AVal.int .i64 0] ++ repl [AVal.int .i64 0] n = _
  rw [repl_ints n]
  rfl
def ints (l : List Nat) : List Int := l.map Int.ofNat
def upC (c : List Nat) (i : Nat) : List Int := ints (c.take i) ++ List.replicate (c.length - i) 0
theorem upC_zero (c : List Nat) : upC c 0 = List.replicate c.length 0 := by unfold upC ints; simp
theorem upC_all (c : List Nat) : upC c c.length = ints c := by unfold upC; simp [ints]
theorem upC_len {c : List Nat} {i : Nat} (hi : i ≤ c.length) : (upC c i).length = c.length := by unfold upC ints; simp; omega
theorem upC_set {c : List Nat} {i x : Nat} (hx : c[i]? = some x) : (upC c i).set i (x : Int) = upC c (i + 1) := by
 have hl := (List.getElem?_eq_some_iff.1 hx).1
 unfold upC ints
 rw [List.take_add_one, hx, Option.toList_some, List.map_append]
 have h1 : (List.map Int.ofNat (c.take i)).length = i := by rw [List.length_map, List.length_take]; omega
 rw [List.set_append_right _ _ (by omega), h1, Nat.sub_self, show c.length - i = (c.length - (i + 1)) + 1 by omega, List.replicate_succ, List.set_cons_zero, List.append_assoc]
 rfl
theorem splice_int {l : List Int} {i : Nat} (hi : i < l.length) (v : Int) : splice (i64s l) (0 + i * 1) (AVal.int .i64 v).cells = some (i64s (l.set i v)) := by
 rw [Nat.zero_add, Nat.mul_one]
 show splice _ _ [_] = _
 rw [splice_at (by rw [i64s_len]; exact hi)]
 unfold i64s
 rw [← List.map_set]
theorem dugOf_ok {b d r s : AVal} {h : AH} {D : DrainV} (A : DrainAt h D b d r s) : Runs Try.prog 80 [.agg (dC b d r s)] h (fun en h' => en = .ret (.agg [d]) ∧ Ext h h') := by
 have hsm := A.ds.same
 have hcl := A.ds.scal
 unfold dC
 have e0 : Ext h h := Ext.refl _
 refine Runs.intro aFunc80 rfl rfl rfl rfl fun rest => ?_;apply gS;refine gR rfl ?_;refine GoR.box rfl rfl rfl rfl rfl rfl fun h0 x0 f0 => ?_;have := e0.1;replace e0 := e0.trans x0;have := f0.1;refine GoR.alloc rfl rfl rfl zt104 rfl rfl fun h1 x1 f1 => ?_;have := e0.1;have := f0.1;replace f0 := f0.ext x1;replace e0 := e0.trans x1;have := f1.1;apply gE;apply gS;refine gR rfl ?_;refine gO rfl rfl (fa71_1 rfl) rfl ?_;refine gO rfl rfl (ld26 rfl f0 rfl) rfl ?_;refine gO rfl rfl (aOp_build (ps := [(0, d)]) (cs := [d]) zt104 hu104 pl104 rfl (fill1 hcl.2)) rfl ?_;refine GoR.store rfl rfl rfl rfl rfl rfl f1 rfl sz104 rfl hcl.1 rfl fun h2 u2 => ?_;replace f1 := u2.has f1;replace e0 := e0.upd u2 (by omega);apply gE;exact gV (ret_end (aResult_of Try.func80 rfl (aResults_cell rfl f1 (inCells_agg ag104 sz104 rfl))) ⟨rfl, e0⟩)
theorem scal2 {x y : AVal} (h1 : scalars [x] = true) (h2 : scalars [y] = true) : scalars [x, y] = true := by
 unfold scalars at *
 revert h1
 cases scalar x with
 | true => intro _; exact h2
 | false => intro h1; cases h1
structure CrsAt (h : AH) (lo : Nat) (c : List Nat) (t : AVal) : Prop where
 blk : ∃ bt, t = .slice bt 0 c.length c.length ∧ lo ≤ bt ∧ Has h bt (.cells .plain (i64s (ints c)) 3)
theorem CrsAt.ext {h h' : AH} {lo : Nat} {c : List Nat} {t : AVal} (k : CrsAt h lo c t) (e : Ext h h') : CrsAt h' lo c t := ⟨by
 obtain ⟨bt, k1, k2, k3⟩ := k.blk
 exact ⟨bt, k1, k2, k3.ext e⟩⟩
theorem CrsAt.sl {h : AH} {lo : Nat} {c : List Nat} {t : AVal} (k : CrsAt h lo c t) : SliceOf h 1 t ((ints c).map fun x => [AVal.int .i64 x]) := by
 obtain ⟨bt, rfl, k2, k3⟩ := k.blk
 exact lit_slice (by unfold ints; simp) k3
theorem course_ok {D : DrainV} (O : D.Ok) {b d r s iv : AVal} {J : Nat → Nat → Bool} {l : List Int} (hl : l.length = D.bs.length) {h : AH} (A : DrainAt h D b d r s) (JI : JoinI iv J h) :
  Runs Try.prog 91 [.agg (dC b d r s), iv, .agg (i64s (lv5 l))] h (fun en h' => ∃ t, en = .ret (.agg [t, b]) ∧ Ext h h' ∧ CrsAt h' h.next ((List.range D.bs.length).map fun a => lowV (J a) l D.bs.length a) t) := by
 have hnb := O.nb
 have hl1 := A.bs.len
 rw [List.length_map] at hl1
 have hsm := A.same
 have hsm2 := JI.same
 have hsm3 := A.bs.same
 have hlen := lv5_len (l := l) (by omega)
 have hlw := fun h' e (a : Nat) ha => lowest_ok O (b := b) (d := d) (r := r) (s := s) (iv := iv) (J := J) hl (a := a) ha (h := h') (A.ext e) (JI.ext e)
 obtain ⟨n, hn⟩ : ∃ n, D.bs.length = n := ⟨_, rfl⟩
 obtain ⟨c, hc⟩ : ∃ c, ((List.range D.bs.length).map fun a => lowV (J a) l D.bs.length a) = c := ⟨_, rfl⟩
 have hcl : c.length = n := by rw [← hc, ← hn]; simp
 have hca : ∀ i, i < n → c[i]? = some (lowV (J i) l D.bs.length i) := fun i hi => by
  rw [← hc, List.getElem?_map, List.getElem?_range (by omega)]
  rfl
 rw [hc];rw [hn] at hl1 hnb hlw hca
 have hz := repl_ints n
 unfold dC at *
 have hbs := A.bs.scal
 have hsc : ∀ bt, scalars [.slice bt 0 n n, b] = true := fun bt => scal2 rfl hbs.1
 have hu0 := upC_zero c
 rw [hcl] at hu0
 have e0 : Ext h h := Ext.refl _
 refine Runs.intro aFunc91 rfl rfl rfl rfl fun rest => ?_;apply gS;refine gR rfl ?_;refine GoR.box rfl rfl rfl rfl rfl rfl fun h0 x0 f0 => ?_;have := e0.1;replace e0 := e0.trans x0;have := f0.1;refine GoR.box rfl rfl rfl rfl rfl rfl fun h1 x1 f1 => ?_;have := e0.1;have := f0.1;replace f0 := f0.ext x1;replace e0 := e0.trans x1;have := f1.1;refine GoR.alloc rfl rfl rfl zt79 rfl rfl fun h2 x2 f2 => ?_;have := e0.1;have := f1.1;have := f0.1;replace f1 := f1.ext x2;replace f0 := f0.ext x2;replace e0 := e0.trans x2;have := f2.1;apply gE;refine Go.seq noJ_ok (Go.join (fun bb : Nat × Nat => [(1, iv), (3, .ptr h.next 0), (5, .ptr h0.next 0), (6, .ptr h1.next 0), (7, .ptr bb.2 0)]) (fun bb h' => Ext h h' ∧ h2.next ≤ bb.1 ∧ h2.next ≤ bb.2 ∧ bb.1 ≠ bb.2 ∧ Has h' h.next (.cells .plain [b, d, r, s] 71) ∧ Has h' h0.next (.cells .plain (i64s (lv5 l)) 99) ∧ Has h' h1.next (.cells .plain [.nilslice, .nilslice] 79) ∧ Has h' bb.2 (.cells .plain [.slice bb.1 0 n n, b] 79) ∧ Has h' bb.1 (.cells .plain (i64s (upC c 0)) 3)) ?_ ?_)
 ·intro k' done
  refine alts91a ?_ ?_
  ·intro pl hpl
   rw [pl91a_3_7] at hpl;cases hpl
   have hs4 : sameA (.agg [.slice h2.next 0 n n, b]) (.agg [.slice h2.next 0 n n, b]) = true := by simp [sameA, sameAs, A.bs.same]
   refine gQ rfl rfl (fa71_0 rfl) rfl ?_;refine gQ rfl rfl (ld25 rfl f0 rfl) rfl ?_;refine gQ rfl rfl (aOp_lenSlice Try.underlying25 rfl hl1) rfl ?_;refine gQ rfl rfl (fa71_0 rfl) rfl ?_;refine gQ rfl rfl (ld25 rfl f0 rfl) rfl ?_;refine GoE.makeSl  rfl rfl Try.underlying47 rfl rfl sz3 by3 zt3 rfl (Nat.ble_eq_true_of_le (by omega)) (dK 7 5 (dK 7 4 (dD 7 2 (dD 7 1 (dD 7 0 rfl))))) rfl fun h3 x3 f3 => ?_;have := e0.1;have := f2.1;have := f1.1;have := f0.1;replace f2 := f2.ext x3;replace f1 := f1.ext x3;replace f0 := f0.ext x3;replace e0 := e0.trans x3;have := f3.1;refine ⟨(rck (h2 := h3) rfl (ld25 rfl f0 rfl) (rck (h2 := h3) rfl (fa71_0 rfl) recheck_nil)), ?_⟩;refine gQ rfl rfl (aOp_build (ps := [(0, .slice h2.next 0 n n), (1, b)]) (cs := [.slice h2.next 0 n n, b]) zt79 hu79 pl79 rfl (fill2 rfl hbs.2)) rfl ?_;refine GoE.alloc rfl rfl zt79 (dK 15 6 (dK 15 5 (dK 15 4 rfl))) rfl rfl fun h4 x4 f4 => ?_;have := e0.1;have := f3.1;have := f2.1;have := f1.1;have := f0.1;replace f3 := f3.ext x4;replace f2 := f2.ext x4;replace f1 := f1.ext x4;replace f0 := f0.ext x4;replace e0 := e0.trans x4;have := f4.1;refine ⟨(rck (h2 := h4) rfl (aOp_build (ps := [(0, .slice h2.next 0 n n), (1, b)]) (cs := [.slice h2.next 0 n n, b]) zt79 hu79 pl79 rfl (fill2 rfl hbs.2)) (rck (h2 := h4) rfl (ld25 rfl f0 rfl) (rck (h2 := h4) rfl (fa71_0 rfl) recheck_nil))), ?_⟩;refine GoE.store rfl rfl rfl rfl (dD 255 6 (dD 255 5 (dD 255 4 rfl))) rfl rfl f4 rfl sz79 rfl (hsc _) rfl fun h5 u5 => ?_;replace f4 := u5.has f4;replace f3 := f3.upd u5 (by omega);replace f2 := f2.upd u5 (by omega);replace f1 := f1.upd u5 (by omega);replace f0 := f0.upd u5 (by omega);replace e0 := e0.upd u5 (by omega);refine ⟨recheck_nil, ?_⟩;refine GoE.end rfl ?_;exact done (h2.next, h3.next) _ _ ⟨rfl, rfl, rfl, rfl, rfl, trivial⟩ ⟨e0, Nat.le_refl _, by dsimp only; omega, by dsimp only; omega, f0, f1, f2, f4, by rw [hu0]; dsimp only; rw [← hz]; exact f3⟩
  ·intro pl hpl
   rw [pl91a_7_3] at hpl;cases hpl;refine gQ rfl rfl (fa71_0 rfl) rfl ?_;refine gQ rfl rfl (ld25 rfl f0 rfl) rfl ?_;refine gQ rfl rfl (aOp_lenSlice Try.underlying25 rfl hl1) rfl ?_;refine gQ rfl rfl (fa71_0 rfl) rfl ?_;refine gQ rfl rfl (ld25 rfl f0 rfl) rfl ?_;refine GoE.alloc rfl rfl zt79 (dK 0 5 (dK 0 4 (dK 0 2 (dK 0 1 (dK 0 0 rfl))))) rfl rfl fun h3 x3 f3 => ?_;have := e0.1;have := f2.1;have := f1.1;have := f0.1;replace f2 := f2.ext x3;replace f1 := f1.ext x3;replace f0 := f0.ext x3;replace e0 := e0.trans x3;have := f3.1;refine ⟨(rck (h2 := h3) rfl (ld25 rfl f0 rfl) (rck (h2 := h3) rfl (fa71_0 rfl) (rck (h2 := h3) rfl (aOp_lenSlice Try.underlying25 rfl hl1) (rck (h2 := h3) rfl (ld25 rfl f0 rfl) (rck (h2 := h3) rfl (fa71_0 rfl) recheck_nil))))), ?_⟩;refine GoE.makeSl  rfl rfl Try.underlying47 rfl rfl sz3 by3 zt3 rfl (Nat.ble_eq_true_of_le (by omega)) (dK 135 5 (dK 135 4 (dD 135 2 (dD 135 1 (dD 135 0 rfl))))) rfl fun h4 x4 f4 => ?_;have := e0.1;have := f3.1;have := f2.1;have := f1.1;have := f0.1;replace f3 := f3.ext x4;replace f2 := f2.ext x4;replace f1 := f1.ext x4;replace f0 := f0.ext x4;replace e0 := e0.trans x4;have := f4.1;refine ⟨(rck (h2 := h4) rfl (ld25 rfl f0 rfl) (rck (h2 := h4) rfl (fa71_0 rfl) recheck_nil)), ?_⟩;refine gQ rfl rfl (aOp_build (ps := [(0, .slice h3.next 0 n n), (1, b)]) (cs := [.slice h3.next 0 n n, b]) zt79 hu79 pl79 rfl (fill2 rfl hbs.2)) rfl ?_;refine GoE.store rfl rfl rfl rfl (dD 255 6 (dD 255 5 (dD 255 4 rfl))) rfl rfl f3 rfl sz79 rfl (hsc _) rfl fun h5 u5 => ?_;replace f4 := f4.upd u5 (by omega);replace f3 := u5.has f3;replace f2 := f2.upd u5 (by omega);replace f1 := f1.upd u5 (by omega);replace f0 := f0.upd u5 (by omega);replace e0 := e0.upd u5 (by omega);refine ⟨recheck_nil, ?_⟩;refine GoE.end rfl ?_;exact done (h3.next, h2.next) _ _ ⟨rfl, rfl, rfl, rfl, rfl, trivial⟩ ⟨e0, by dsimp only; omega, Nat.le_refl _, by dsimp only; omega, f0, f1, f2, f3, by rw [hu0]; dsimp only; rw [← hz]; exact f4⟩
 ·clear e0 f0 f1 f2;rintro ⟨bt, b7⟩ h9 ⟨e0, hbt, hb7, hne, f0, f1, f2, f7, f8⟩
  dsimp only at hbt hb7 hne f7 f8
  have hb3 : h.next < h0.next := by assumption
  have hb4 : h0.next < h1.next := by assumption
  have hb5 : h1.next < h2.next := by assumption
  iterate 2 apply gS
  refine gR rfl ?_;refine gO rfl rfl (fa71_0 rfl) rfl ?_;refine gO rfl rfl (ld25 rfl f0 rfl) rfl ?_;refine gO rfl rfl (aOp_lenSlice Try.underlying25 rfl hl1) rfl ?_;refine gP ?_;apply gE;refine Go.block noJ_ok ?_
  refine Go.loopKeep (fun i : Nat => [(1, iv), (3, .ptr h.next 0), (5, .ptr h0.next 0), (6, .ptr h1.next 0), (7, .ptr b7 0), (18, .int .i64 n), (19, .int .i64 (i : Nat))])
   (fun m i h' => m + i = n ∧ Ext h h' ∧ Has h' h.next (.cells .plain [b, d, r, s] 71) ∧ Has h' h0.next (.cells .plain (i64s (lv5 l)) 99) ∧ Has h' h1.next (.cells .plain [.nilslice, .nilslice] 79) ∧ Has h' b7 (.cells .plain [.slice bt 0 n n, b] 79) ∧ Has h' bt (.cells .plain (i64s (upC c i)) 3)) (n := n) 0 ⟨rfl, rfl, rfl, rfl, rfl, rfl, rfl, trivial⟩ ⟨rfl, e0, f0, f1, f2, f7, f8⟩ ?_
  clear e0 f0 f1 f2 f7 f8;rintro m i h14 ⟨hm, e0, f0, f1, f2, f7, f8⟩ again
  have hn0 := f0.1
  have hn1 := f1.1
  have hn2 := f2.1
  have hn7 := f7.1
  have hn8 := f8.1
  have hn9 := e0.1
  by_cases hi : i < n
  ·have hci := hca i hi
   have hset := upC_set hci
   have hsp := splice_int (l := upC c i) (i := i) (by rw [upC_len (by omega)]; omega) ((lowV (J i) l n i : Nat) : Int)
   rw [hset] at hsp
   have hq1 : aSlElems (.slice bt 0 n n) = some (bt, 0, n) := rfl
   have hlwi := fun h' e => hlw h' e i hi
   apply gS;refine gR rfl ?_;refine gO rfl rfl (kLT rfl rfl) rfl ?_;apply gE;apply gS;refine gC (b := true) rfl ?_;refine gD ?_;apply gS;refine Go.block noJ_ok ?_;apply gS;refine gR rfl ?_;iterate 2 refine gP ?_
   apply gE;refine Go.drawnE plan91_1 ?_;refine gQ rfl rfl (fa79_0 rfl) rfl ?_;refine gQ rfl rfl (ld47 rfl f7 rfl) rfl ?_;refine gQ rfl rfl rfl rfl ?_;refine gQ rfl rfl (ld71 rfl f0 rfl) rfl ?_;refine gQ rfl rfl rfl rfl ?_;refine gQ rfl rfl (ld99 rfl f1 (slice_all (by rw [i64s_len, hlen]))) rfl ?_;refine gQ rfl rfl rfl rfl ?_;refine GoE.call rfl rfl (aCF aFunc103 rfl) (hlwi _ e0) (dD 120 6 (dD 120 5 (dD 120 4 (dD 120 3 (dK 120 2 (dK 120 1 (dK 120 0 rfl))))))) ?_ np;rintro v15 h15 ⟨q, x15⟩;cases q;replace f0 := f0.ext x15;replace f1 := f1.ext x15;replace f2 := f2.ext x15;replace f7 := f7.ext x15;replace f8 := f8.ext x15;replace e0 := e0.trans x15;refine ⟨(rck (h2 := h15) rfl (rfl) (rck (h2 := h15) rfl (ld47 rfl f7 rfl) (rck (h2 := h15) rfl (fa79_0 rfl) recheck_nil))), _, rfl, ?_⟩;refine gQ rfl rfl (aOp_indexAddr (i := i) Try.underlying47 sz3 rfl hq1 rfl (Nat.ble_eq_true_of_le hi)) rfl ?_;refine GoE.store rfl rfl rfl rfl (dD 511 8 (dD 511 2 (dD 511 1 (dD 511 0 rfl)))) rfl rfl f8 rfl sz3 rfl rfl hsp fun h16 u16 => ?_;replace f0 := f0.upd u16 (by omega);replace f1 := f1.upd u16 (by omega);replace f2 := f2.upd u16 (by omega);replace f7 := f7.upd u16 (by omega);replace f8 := u16.has f8;replace e0 := e0.upd u16 (by omega);refine ⟨recheck_nil, ?_⟩;refine GoE.end rfl ?_;refine Go.inBlock noJ_ok ?_;refine gR rfl ?_;refine gO rfl rfl (aA rfl rfl) rfl ?_;refine gP ?_;apply gE;exact again (m - 1) (i + 1) _ _ (by omega) ⟨rfl, rfl, rfl, rfl, rfl, rfl, rfl, trivial⟩ ⟨by omega, e0, f0, f1, f2, f7, f8⟩
  ·rw [show i = c.length by omega, upC_all] at f8;apply gS;refine gR rfl ?_;refine gO rfl rfl (kLF rfl rfl) rfl ?_;apply gE;apply gS;refine gC (b := false) rfl ?_;refine gD ?_;apply gS;refine gR rfl ?_;refine gO rfl rfl (ld79 rfl f7 rfl) rfl ?_;refine GoR.store rfl rfl rfl rfl rfl rfl f2 rfl sz79 rfl (hsc bt) rfl fun h15 u15 => ?_;replace f2 := u15.has f2;replace f8 := f8.upd u15 (by omega);replace e0 := e0.upd u15 (by omega);apply gE;exact gV (ret_end (aResult_of Try.func91 rfl (aResults_cell rfl f2 (inCells_agg ag79 sz79 rfl))) ⟨_, rfl, e0, ⟨bt, by rw [hcl], by omega, f8⟩⟩)
end Go.Proofs.Ytkhiagdmbajimaa

namespace Go.Proofs.Ytkhiagdmbajimaa
open Go Go.AbsE
set_option linter.unusedSimpArgs false
set_option maxRecDepth 100000
set_option maxHeartbeats 0
set_option linter.unusedVariables false
def curL (bs : List BkV) (l : List Int) (i : Nat) : List Int := (bs.take i).map (fun b => b.ll) ++ l.drop i
theorem curL_len {bs : List BkV} {l : List Int} (h : l.length = bs.length) {i : Nat} (hi : i ≤ bs.length) : (curL bs l i).length = bs.length := by unfold curL; simp; omega
theorem curL_at {bs : List BkV} {l : List Int} (h : l.length = bs.length) {i : Nat} (hi : i < bs.length) : lv (curL bs l i) i = lv l i := by
 unfold lv curL
 have h1 : (List.map (fun b : BkV => b.ll) (bs.take i)).length = i := by simp; omega
 rw [List.getElem?_append_right (by omega), h1, Nat.sub_self, List.getElem?_drop, Nat.add_zero]
theorem curL_set {bs : List BkV} {l : List Int} (h : l.length = bs.length) {i : Nat} {b : BkV} (hb : bs[i]? = some b) (v : Int) : (curL bs l i).set i v = (bs.take i).map (fun b => b.ll) ++ v :: l.drop (i + 1) := by
 have hi := (List.getElem?_eq_some_iff.1 hb).1
 unfold curL
 have h1 : (List.map (fun b : BkV => b.ll) (bs.take i)).length = i := by simp; omega
 rw [List.set_append_right _ _ (by omega), h1, Nat.sub_self, List.drop_eq_getElem_cons (by omega), List.set_cons_zero]
theorem curL_next {bs : List BkV} {l : List Int} (h : l.length = bs.length) {i : Nat} {b : BkV} (hb : bs[i]? = some b) : (curL bs l i).set i b.ll = curL bs l (i + 1) := by
 rw [curL_set h hb]
 unfold curL
 rw [List.take_add_one, hb, Option.toList_some, List.map_append, List.append_assoc]
 rfl
def Left (bs : List BkV) (l : List Int) (i : Nat) : Prop := nextL bs l = (nextL (bs.drop i) (l.drop i)).map fun t => (bs.take i).map (fun b => b.ll) ++ t
theorem left_zero (bs : List BkV) (l : List Int) : Left bs l 0 := by
 unfold Left
 cases q : nextL bs l with
 | none => simp [q]
 | some t => simp [q]
theorem left_up {bs : List BkV} {l : List Int} (h : l.length = bs.length) {i : Nat} {b : BkV} (hb : bs[i]? = some b) (k : Left bs l i) (hx : lv l i < b.lh) : nextL bs l = some ((curL bs l i).set i (lv l i + 1)) := by
 have hi := (List.getElem?_eq_some_iff.1 hb)
 have hi1 := hi.1
 have hl : l.drop i = lv l i :: l.drop (i + 1) := by
  rw [List.drop_eq_getElem_cons (by omega)]
  unfold lv
  rw [List.getElem?_eq_getElem (by omega)]
  rfl
 unfold Left at k
 rw [k, curL_set h hb, List.drop_eq_getElem_cons hi.1, hi.2, hl]
 show Option.map _ (if lv l i < b.lh then _ else _) = _
 rw [if_pos hx]
 rfl
theorem left_next {bs : List BkV} {l : List Int} (h : l.length = bs.length) {i : Nat} {b : BkV} (hb : bs[i]? = some b) (k : Left bs l i) (hx : ¬ lv l i < b.lh) : Left bs l (i + 1) := by
 have hi := (List.getElem?_eq_some_iff.1 hb)
 have hi1 := hi.1
 have hl : l.drop i = lv l i :: l.drop (i + 1) := by
  rw [List.drop_eq_getElem_cons (by omega)]
  unfold lv
  rw [List.getElem?_eq_getElem (by omega)]
  rfl
 unfold Left at k ⊢
 rw [k, List.drop_eq_getElem_cons hi.1, hi.2, hl, List.take_add_one, hb, Option.toList_some, List.map_append]
 show Option.map _ (if lv l i < b.lh then _ else _) = _
 rw [if_neg hx]
 cases nextL (bs.drop (i + 1)) (l.drop (i + 1)) with
 | none => rfl
 | some t => simp
theorem left_end {bs : List BkV} {l : List Int} (h : l.length = bs.length) (k : Left bs l bs.length) : nextL bs l = none := by
 unfold Left at k
 rw [k, List.drop_length]
 rfl
theorem lv5_set {l : List Int} {i : Nat} (hi : i < l.length) (v : Int) : (lv5 l).set i v = lv5 (l.set i v) := by
 unfold lv5
 rw [List.set_append_left _ _ hi, List.length_set]
theorem raise_ok {D : DrainV} (O : D.Ok) {b d r s : AVal} {l : List Int} (hl : l ∈ levsV D.bs) {g h : AH} (A : DrainAt g D b d r s) (e9 : Ext g h) {bl : Nat} (hbl : g.next ≤ bl) (f9 : Has h bl (.cells .plain (i64s (lv5 l)) 99)) :
  Runs Try.prog 102 [.agg (dC b d r s), .ptr bl 0] h (fun en h' => ExtF (fun b => b = bl) h h' ∧ ∃ m, Has h' bl (.cells .plain (i64s m) 99) ∧ ((en = .ret (.bool true) ∧ nextL D.bs l = some (m.take D.bs.length) ∧ m = lv5 (m.take D.bs.length)) ∨ (en = .ret (.bool false) ∧ nextL D.bs l = none))) := by
 have hnb := O.nb
 have hl1 := A.bs.len
 rw [List.length_map] at hl1
 have hll := levs_len hl
 have y0 : ExtF (fun b => b = bl) h h := ExtF.of (Ext.refl _)
 have hsm := A.same
 have hn9 := e9.1
 have hf9 := f9.1
 unfold dC at *
 refine Runs.intro aFunc102 rfl rfl rfl rfl fun rest => ?_;apply gS;refine gR rfl ?_;refine GoR.box rfl rfl rfl rfl rfl rfl fun h10 x10 f10 => ?_;have := e9.1;have := f9.1;replace f9 := f9.ext x10;replace e9 := e9.trans x10;replace y0 := y0.ext x10;have := f10.1;refine gP ?_;apply gE;iterate 2 apply gS
 refine gR rfl ?_;refine gO rfl rfl (fa71_0 rfl) rfl ?_;refine gO rfl rfl (ld25 rfl f10 rfl) rfl ?_;refine gO rfl rfl (aOp_lenSlice Try.underlying25 rfl hl1) rfl ?_;refine gP ?_;apply gE;refine Go.block noJ_ok ?_
 refine Go.loopKeep (fun i : Nat => [(1, .ptr bl 0), (2, .ptr h.next 0), (8, b), (9, .int .i64 D.bs.length), (10, .int .i64 (i : Nat))])
  (fun m i h' => m + i = D.bs.length ∧ Ext g h' ∧ ExtF (fun b => b = bl) h h' ∧ h.next ≤ h'.next ∧ Has h' bl (.cells .plain (i64s (lv5 (curL D.bs l i))) 99) ∧ Left D.bs l i) (n := D.bs.length) 0 ⟨rfl, rfl, rfl, rfl, rfl, trivial⟩ ⟨rfl, e9, y0, by omega, f9, left_zero _ _⟩ ?_
 try clear f0
 try clear e0
 clear e9 y0 f9;rintro m i h4 ⟨hm, e9, y0, hn4, f9, hleft⟩ again
 have hf9' := f9.1
 by_cases hi : i < D.bs.length
 ·obtain ⟨x, hx⟩ : ∃ x, D.bs[i]? = some x := ⟨D.bs[i], by simp [hi]⟩
  have hmem := List.mem_of_getElem? hx
  have hxo := (O.b x hmem).1
  have hli := levs_in O hl hi
  obtain ⟨bq, off, q1, q2⟩ := A.bs.at (i := i) (l := BkV.cells x) (by rw [List.getElem?_map, hx]; rfl)
  rw [List.length_map] at q1
  have hcl := curL_len hll (i := i) (by omega)
  have hgi : (i64s (lv5 (curL D.bs l i)))[0 + i * 1]? = some (.int .i64 (lv l i)) := by
   have := i64s_at (lv5_at (l := curL D.bs l i) (i := i) (by omega))
   rwa [curL_at hll hi] at this
  have hs5 := lv5_len (l := curL D.bs l i) (by omega)
  have hsp := fun v => splice_int (l := lv5 (curL D.bs l i)) (i := i) (by omega) v
  have hsv := fun v => lv5_set (l := curL D.bs l i) (i := i) (by omega) v
  unfold BkV.cells at q2
  by_cases c1 : lv l i < x.lh
  ·have hup := left_up hll hx hleft c1
   have hsp1 := hsp (lv l i + 1)
   rw [hsv] at hsp1
   obtain ⟨l', hl'⟩ : ∃ l', (curL D.bs l i).set i (lv l i + 1) = l' := ⟨_, rfl⟩
   rw [hl'] at hup hsp1
   have hll' : l'.length = D.bs.length := by rw [← hl', List.length_set, hcl]
   have htk : (lv5 l').take D.bs.length = l' := by
    unfold lv5
    rw [← hll', List.take_left']
    rfl
   apply gS;refine gR rfl ?_;refine gO rfl rfl (kLT rfl rfl) rfl ?_;apply gE;apply gS;refine gC (b := true) rfl ?_;refine gD ?_;apply gS;refine Go.block noJ_ok ?_;apply gS;refine gR rfl ?_;refine gP ?_;refine gO rfl rfl (aOp_indexAddr (i := i) Try.underlying25 sz60 rfl q1 rfl (Nat.ble_eq_true_of_le hi)) rfl ?_;refine gO rfl rfl (aOp_loadE ag60 sz60 rfl (q2.ext e9)) rfl ?_;refine GoR.alloc rfl rfl rfl zt60 rfl rfl fun h11 x11 f11 => ?_;have := e9.1;have := f9.1;replace f9 := f9.ext x11;replace y0 := y0.ext x11;have := f11.1;refine gP ?_;refine GoR.store rfl rfl rfl rfl rfl rfl f11 rfl sz60 rfl rfl rfl fun h12 u12 => ?_;replace f11 := u12.has f11;replace f9 := f9.upd u12 (by omega);replace y0 := y0.upd u12 (.inr (by omega));apply gE;iterate 2 apply gS
   refine Go.drawnE plan102_0 ?_;iterate 3 refine gQ rfl rfl rfl rfl ?_
   refine gQ rfl rfl (fa99_0 rfl) rfl ?_;refine gQ rfl rfl (aOp_indexAddrArr (i := i) Try.underlying97 sz3 rfl rfl (Nat.ble_eq_true_of_le (by omega))) rfl ?_;refine gQ rfl rfl (ld3 rfl f9 hgi) rfl ?_;refine gQ rfl rfl (fa60_0 rfl) rfl ?_;refine gQ rfl rfl (fa35_1 rfl) rfl ?_;refine gQ rfl rfl (ld3 rfl f11 rfl) rfl ?_;refine gQ rfl rfl (kLT rfl rfl) rfl ?_;refine GoE.end rfl ?_;refine gC (b := true) rfl ?_;apply gS;refine Go.drawnE plan102_1 ?_;iterate 3 refine gQ rfl rfl rfl rfl ?_
   refine gQ rfl rfl (fa99_0 rfl) rfl ?_;refine gQ rfl rfl (aOp_indexAddrArr (i := i) Try.underlying97 sz3 rfl rfl (Nat.ble_eq_true_of_le (by omega))) rfl ?_;refine gQ rfl rfl (ld3 rfl f9 hgi) rfl ?_;refine gQ rfl rfl (aA rfl rfl) rfl ?_;refine gQ rfl rfl rfl rfl ?_;refine gQ rfl rfl (fa99_0 rfl) rfl ?_;refine gQ rfl rfl (aOp_indexAddrArr (i := i) Try.underlying97 sz3 rfl rfl (Nat.ble_eq_true_of_le (by omega))) rfl ?_;refine GoE.store rfl rfl rfl rfl (dD 1023 9 (dD 1023 8 (dD 1023 7 (dD 1023 6 (dD 1023 5 (dD 1023 4 (dD 1023 3 (dD 1023 2 (dD 1023 1 (dD 1023 0 rfl)))))))))) rfl rfl f9 rfl sz3 rfl rfl hsp1 fun h13 u13 => ?_;replace f9 := u13.has f9;replace y0 := y0.upd u13 (.inl rfl);refine ⟨recheck_nil, ?_⟩;refine GoE.end rfl ?_;apply gS;refine gR rfl ?_;refine gP ?_;apply gE;exact gV (ret_end (aResult_of Try.func102 rfl rfl) ⟨y0, lv5 l', f9, .inl ⟨rfl, by rw [htk]; exact hup, by rw [htk]⟩⟩)
  ·have hnx := left_next hll hx hleft c1
   have hsp1 := hsp x.ll
   rw [hsv, curL_next hll hx] at hsp1;apply gS;refine gR rfl ?_;refine gO rfl rfl (kLT rfl rfl) rfl ?_;apply gE;apply gS;refine gC (b := true) rfl ?_;refine gD ?_;apply gS;refine Go.block noJ_ok ?_;apply gS;refine gR rfl ?_;refine gP ?_;refine gO rfl rfl (aOp_indexAddr (i := i) Try.underlying25 sz60 rfl q1 rfl (Nat.ble_eq_true_of_le hi)) rfl ?_;refine gO rfl rfl (aOp_loadE ag60 sz60 rfl (q2.ext e9)) rfl ?_;refine GoR.alloc rfl rfl rfl zt60 rfl rfl fun h11 x11 f11 => ?_;have := e9.1;have := f9.1;replace f9 := f9.ext x11;replace e9 := e9.trans x11;replace y0 := y0.ext x11;have := f11.1;refine gP ?_;refine GoR.store rfl rfl rfl rfl rfl rfl f11 rfl sz60 rfl rfl rfl fun h12 u12 => ?_;replace f11 := u12.has f11;replace f9 := f9.upd u12 (by omega);replace e9 := e9.upd u12 (by omega);replace y0 := y0.upd u12 (.inr (by omega));apply gE;iterate 2 apply gS
   refine Go.drawnE plan102_0 ?_;iterate 3 refine gQ rfl rfl rfl rfl ?_
   refine gQ rfl rfl (fa99_0 rfl) rfl ?_;refine gQ rfl rfl (aOp_indexAddrArr (i := i) Try.underlying97 sz3 rfl rfl (Nat.ble_eq_true_of_le (by omega))) rfl ?_;refine gQ rfl rfl (ld3 rfl f9 hgi) rfl ?_;refine gQ rfl rfl (fa60_0 rfl) rfl ?_;refine gQ rfl rfl (fa35_1 rfl) rfl ?_;refine gQ rfl rfl (ld3 rfl f11 rfl) rfl ?_;refine gQ rfl rfl (kLF rfl rfl) rfl ?_;refine GoE.end rfl ?_;refine gC (b := false) rfl ?_;refine gD ?_;refine Go.drawnE plan102_2 ?_;iterate 2 refine gQ rfl rfl rfl rfl ?_
   refine gQ rfl rfl (fa60_0 rfl) rfl ?_;refine gQ rfl rfl (fa35_0 rfl) rfl ?_;refine gQ rfl rfl (ld3 rfl f11 rfl) rfl ?_;refine gQ rfl rfl rfl rfl ?_;refine gQ rfl rfl (fa99_0 rfl) rfl ?_;refine gQ rfl rfl (aOp_indexAddrArr (i := i) Try.underlying97 sz3 rfl rfl (Nat.ble_eq_true_of_le (by omega))) rfl ?_;refine GoE.store rfl rfl rfl rfl (dD 255 7 (dD 255 6 (dD 255 5 (dD 255 4 (dD 255 3 (dD 255 2 (dD 255 1 (dD 255 0 rfl)))))))) rfl rfl f9 rfl sz3 rfl rfl hsp1 fun h13 u13 => ?_;replace f9 := u13.has f9;replace e9 := e9.upd u13 (by omega);replace y0 := y0.upd u13 (.inl rfl);refine ⟨recheck_nil, ?_⟩;refine GoE.end rfl ?_;refine Go.inBlock noJ_ok ?_;refine gR rfl ?_;refine gO rfl rfl (aA rfl rfl) rfl ?_;refine gP ?_;apply gE;exact again (m - 1) (i + 1) _ _ (by omega) ⟨rfl, rfl, rfl, rfl, rfl, trivial⟩ ⟨by omega, e9, y0, y0.1, f9, hnx⟩
 ·have hii : i = D.bs.length := by omega
  subst hii
  have hno := left_end hll hleft
  apply gS;refine gR rfl ?_;refine gO rfl rfl (kLF rfl rfl) rfl ?_;apply gE;apply gS;refine gC (b := false) rfl ?_;refine gD ?_;apply gS;refine gR rfl ?_;refine gP ?_;apply gE;exact gV (ret_end (aResult_of Try.func102 rfl rfl) ⟨y0, _, f9, .inr ⟨rfl, hno⟩⟩)
end Go.Proofs.Ytkhiagdmbajimaa

namespace Go.Proofs.Ytkhiagdmbajimaa
open Go Go.AbsE
set_option linter.unusedSimpArgs false
set_option maxRecDepth 100000
set_option maxHeartbeats 0
set_option linter.unusedVariables false
theorem own_next {F G G' : Nat → Prop} {h h1 : AH} (a : ∀ b, G' b → G b ∨ h1.next ≤ b) (c : ∀ b, G b → F b ∨ h.next ≤ b) (hn : h.next ≤ h1.next) : ∀ b, G' b → F b ∨ h.next ≤ b := fun b q => (a b q).elim (c b) fun q => .inr (by omega)
def levI (D : DrainV) : List (List AVal) := (levsV D.bs).map fun l => [.agg (i64s (lv5 l))]
def upLo (bs : List BkV) (i : Nat) : List Int := (bs.take i).map (fun b => b.ll) ++ List.replicate (5 - i) 0
theorem upLo_len {bs : List BkV} (h : bs.length ≤ 5) {i : Nat} (hi : i ≤ bs.length) : (upLo bs i).length = 5 := by unfold upLo; simp; omega
theorem upLo_set {bs : List BkV} (h : bs.length ≤ 5) {i : Nat} {b : BkV} (hb : bs[i]? = some b) : (upLo bs i).set i b.ll = upLo bs (i + 1) := by
 have hi := (List.getElem?_eq_some_iff.1 hb)
 have hi1 := hi.1
 unfold upLo
 have h1 : (List.map (fun b : BkV => b.ll) (bs.take i)).length = i := by simp; omega
 rw [List.set_append_right _ _ (by omega), h1, Nat.sub_self, show 5 - i = (5 - (i + 1)) + 1 by omega, List.replicate_succ, List.set_cons_zero, List.take_add_one, hb, Option.toList_some, List.map_append, List.append_assoc]
 rfl
theorem upLo_all (bs : List BkV) : upLo bs bs.length = lv5 (bs.map fun b => b.ll) := by unfold upLo lv5; simp
theorem levels_it {D : DrainV} (O : D.Ok) {b d r s : AVal} {g : AH} (A : DrainAt g D b d r s) (bb : Nat) : IterN Try.prog 101 [] [.ptr bb 0] (levI D) (fun h => Has h bb (.cells .plain [b, d, r, s] 71) ∧ Ext g h) := by
 intro y base J E h F hyc hys hA hbase T j0
 show Runs Try.prog 101 [y, .ptr bb 0] h _
 have hlen : (levI D).length = (levsV D.bs).length := by unfold levI; simp
 rw [hlen]
 have hat : ∀ {k : Nat} {l}, (levsV D.bs)[k]? = some l → (levI D)[k]? = some [.agg (i64s (lv5 l))] := fun hk => by
  unfold levI
  rw [List.getElem?_map, hk]
  rfl
 have hnb := O.nb
 have hl1 := A.bs.len
 rw [List.length_map] at hl1
 have hlo : ∀ b, b ∈ D.bs → b.ll ≤ b.lh := fun b hb => (O.b b hb).1.1
 have hsm := A.same
 unfold dC at hsm
 have e8 : Ext h h := Ext.refl _
 obtain ⟨f8, e9⟩ := hA h (ExtF.of e8)
 have hn9 := e9.1
 obtain ⟨LT, hLT⟩ := levs_first hlo
 obtain ⟨N, hN⟩ : ∃ N, (levsV D.bs).length = N := ⟨_, rfl⟩
 have hN1 : 1 ≤ N := by rw [← hN, hLT, List.length_cons]; omega
 rw [hN];refine Runs.intro aFunc101 rfl rfl rfl rfl fun rest => ?_;apply gS;refine gR rfl ?_;refine GoR.alloc rfl rfl rfl zt99 rfl rfl fun h9 x9 f9 => ?_;have := e8.1;have := e9.1;have := f8.1;replace f8 := f8.ext x9;replace e8 := e8.trans x9;replace e9 := e9.trans x9;have := f9.1;apply gE;iterate 2 apply gS
 refine gR rfl ?_;refine gO rfl rfl (fa71_0 rfl) rfl ?_;refine gO rfl rfl (ld25 rfl f8 rfl) rfl ?_;refine gO rfl rfl (aOp_lenSlice Try.underlying25 rfl hl1) rfl ?_;refine gP ?_;apply gE;refine Go.block noJ_ok ?_
 have hb0 := f9.1
 refine Go.loopKeep (fun i : Nat => [(0, y), (1, .ptr bb 0), (3, .ptr h.next 0), (7, b), (8, .int .i64 D.bs.length), (9, .int .i64 (i : Nat))])
  (fun m i h' => m + i = D.bs.length ∧ Ext h h' ∧ Ext g h' ∧ h.next < h'.next ∧ Has h' bb (.cells .plain [b, d, r, s] 71) ∧ Has h' h.next (.cells .plain (i64s (upLo D.bs i)) 99)) (n := D.bs.length) 0 ⟨rfl, rfl, rfl, rfl, rfl, rfl, trivial⟩ ⟨rfl, e8, e9, hb0, f8, f9⟩ ?_
 clear e8 e9 f8 f9;rintro m i h4 ⟨hm, e8, e9, hb4, f8, f9⟩ again
 by_cases hi : i < D.bs.length
 ·obtain ⟨x, hx⟩ : ∃ x, D.bs[i]? = some x := ⟨D.bs[i], by simp [hi]⟩
  obtain ⟨bq, off, q1, q2⟩ := A.bs.at (i := i) (l := BkV.cells x) (by rw [List.getElem?_map, hx]; rfl)
  rw [List.length_map] at q1
  have hul := upLo_len (bs := D.bs) (by omega) (i := i) (by omega)
  have hsp := splice_int (l := upLo D.bs i) (i := i) (by omega) x.ll
  rw [upLo_set (by omega) hx] at hsp
  unfold BkV.cells at q2
  apply gS;refine gR rfl ?_;refine gO rfl rfl (kLT rfl rfl) rfl ?_;apply gE;apply gS;refine gC (b := true) rfl ?_;refine gD ?_;apply gS;refine Go.block noJ_ok ?_;apply gS;refine gR rfl ?_;refine gP ?_;refine gO rfl rfl (aOp_indexAddr (i := i) Try.underlying25 sz60 rfl q1 rfl (Nat.ble_eq_true_of_le hi)) rfl ?_;refine gO rfl rfl (aOp_loadE ag60 sz60 rfl (q2.ext e9)) rfl ?_;refine GoR.alloc rfl rfl rfl zt60 rfl rfl fun h10 x10 f10 => ?_;have := e8.1;have := e9.1;have := f8.1;have := f9.1;replace f8 := f8.ext x10;replace f9 := f9.ext x10;replace e8 := e8.trans x10;replace e9 := e9.trans x10;have := f10.1;refine gP ?_;refine GoR.store rfl rfl rfl rfl rfl rfl f10 rfl sz60 rfl rfl rfl fun h11 u11 => ?_;replace f10 := u11.has f10;replace f8 := f8.upd u11 (by omega);replace f9 := f9.upd u11 (by omega);replace e8 := e8.upd u11 (by omega);replace e9 := e9.upd u11 (by omega);apply gE;refine gR rfl ?_;refine gP ?_;refine gO rfl rfl (fa60_0 rfl) rfl ?_;refine gO rfl rfl (fa35_0 rfl) rfl ?_;refine gO rfl rfl (ld3 rfl f10 rfl) rfl ?_;refine gO rfl rfl (fa99_0 rfl) rfl ?_;refine gO rfl rfl (aOp_indexAddrArr (i := i) Try.underlying97 sz3 rfl rfl (Nat.ble_eq_true_of_le (by omega))) rfl ?_;refine GoR.store rfl rfl rfl rfl rfl rfl f9 rfl sz3 rfl rfl hsp fun h12 u12 => ?_;replace f8 := f8.upd u12 (by omega);replace f9 := u12.has f9;replace e8 := e8.upd u12 (by omega);replace e9 := e9.upd u12 (by omega);apply gE;refine Go.inBlock noJ_ok ?_;refine gR rfl ?_;refine gO rfl rfl (aA rfl rfl) rfl ?_;refine gP ?_;apply gE;exact again (m - 1) (i + 1) _ _ (by omega) ⟨rfl, rfl, rfl, rfl, rfl, rfl, trivial⟩ ⟨by omega, e8, e9, f9.1, f8, f9⟩
 ·rw [show i = D.bs.length by omega, upLo_all] at f9;clear again;apply gS;refine gR rfl ?_;refine gO rfl rfl (kLF rfl rfl) rfl ?_;apply gE;apply gS;refine gC (b := false) rfl ?_;refine gD ?_;refine Go.block noJ_ok ?_
  have hk0 : (levsV D.bs)[0]? = some (D.bs.map fun b => b.ll) := by rw [hLT]; rfl
  refine Go.loopKeep (fun a' : Nat × (Nat → Prop) => [(0, y), (1, .ptr bb 0), (3, .ptr h.next 0)]) (fun m a' h' => m + a'.1 = N ∧ a'.1 < N ∧ h.next < h'.next ∧ ExtF F h h' ∧ (∀ b, a'.2 b → F b ∨ h.next ≤ b) ∧ ¬ a'.2 h.next ∧ J a'.1 h' a'.2 ∧ Has h' h.next (.cells .plain (i64s (lv5 (((levsV D.bs)[a'.1]?).getD []))) 99)) (n := N) (0, F) ⟨rfl, rfl, rfl, trivial⟩ ⟨rfl, hN1, hb4, ExtF.of e8, fun b q => .inl q, fun q => Nat.lt_irrefl _ (T.ltJ j0 q), T.ext j0 e8, by rw [hk0]; exact f9⟩ ?_;clear e8 e9 f8 f9;rintro m ⟨k, G⟩ h1 ⟨hm, hk, hb1, x1, hG, hnG, j1, f9⟩ again
  dsimp only at hm hk hG hnG j1 f9 ⊢
  obtain ⟨l, hl⟩ : ∃ l, (levsV D.bs)[k]? = some l := ⟨(levsV D.bs)[k]'(by omega), by simp [hN, hk]⟩
  have hmem := List.mem_of_getElem? hl
  have hll := levs_len hmem
  rw [hl, Option.getD_some] at f9
  obtain ⟨f8, e9⟩ := hA h1 x1
  obtain ⟨ax, a1, a2, a3⟩ := T.take (hat hl) j1
  have hl5 := lv5_len (l := l) (by omega)
  have hx1 := x1.1
  have hnx := levs_next hlo hl
  iterate 2 apply gS
  refine gR rfl ?_;refine gP ?_;refine gO rfl rfl (ld99 rfl f9 (slice_all (by rw [i64s_len, hl5]))) rfl ?_;refine GoR.does rfl rfl (aOp_callY rfl rfl a1) a2 a3 ?_ (by rintro _ _ ⟨_, _, _, ⟨q, _⟩ | ⟨q, _⟩⟩ <;> cases q);rintro v h6 ⟨x6, G', hG', ⟨q, j6⟩ | ⟨q, e6⟩⟩
  ·cases q;refine ⟨_, rfl, ?_⟩
   have y6 := x1.trans hG x6
   have hG2 := own_next hG' hG hx1
   have hnG' : ¬ G' h.next := fun q => (hG' _ q).elim hnG (fun q => by omega)
   replace f9 := f9.extF x6 hnG;clear f8 e9
   obtain ⟨f8, e9⟩ := hA h6 y6
   have hx6 := x6.1
   have hra := fun h' e f => raise_ok O hmem (g := g) (h := h') A e (bl := h.next) hn9 f
   unfold dC at hra
   refine gP ?_;refine gO rfl rfl (ld71 rfl f8 rfl) rfl ?_;refine GoR.call rfl rfl (aCF aFunc102 rfl) (hra _ e9 f9) ?_ (by rintro _ _ ⟨_, _, _, ⟨q, _⟩ | ⟨q, _⟩⟩ <;> cases q);rintro v h7 ⟨x7, m', f7, hw⟩
   have y7 := y6.trans (fun b q => .inr (by have : b = h.next := q; omega)) x7
   have j7 := T.keep j6 x7.1 fun b hb q => x7.2 b hb fun z => by
    have z : b = h.next := z
    subst z;exact q.elim (fun q => by omega) hnG'
   have hx7 := x7.1
   clear f8 e9 f9 x6 x7 j6 y6
   rcases hw with ⟨q, n1, n2⟩ | ⟨q, n1⟩
   ·cases q;refine ⟨_, rfl, ?_⟩;rw [n1] at hnx
    have hk1 : k + 1 < N := by
     have := (List.getElem?_eq_some_iff.1 hnx.symm).1
     omega
    refine gP ?_;apply gE;refine gC (b := true) rfl ?_;refine gD ?_;refine Go.block noJ_ok ?_;refine gD ?_;refine Go.inBlock noJ_ok ?_;exact again (m - 1) (k + 1, G') _ _ (by omega) ⟨rfl, rfl, rfl, trivial⟩ ⟨by dsimp only; omega, hk1, by omega, y7, hG2, hnG', j7, by dsimp only; rw [← hnx, Option.getD_some, ← n2]; exact f7⟩
   ·cases q;refine ⟨_, rfl, ?_⟩;rw [n1] at hnx
    have hk1 : k + 1 = N := by
     have := List.getElem?_eq_none_iff.1 hnx.symm
     omega
    rw [hk1] at j7;refine gP ?_;apply gE;refine gC (b := false) rfl ?_;refine gD ?_;exact Go.endL (FLeft.ret (v := .tuple []) (aResult_of Try.func101 rfl rfl) ⟨rfl, y7, G', hG2, .inl j7⟩)
  ·cases q;refine ⟨_, rfl, ?_⟩;clear f8 e9 f9;refine gP ?_;iterate 2 refine GoR.skip rfl rfl rfl ?_
   refine gP ?_;apply gE;refine gC (b := false) rfl ?_;refine gD ?_;exact Go.endL (FLeft.ret (v := .tuple []) (aResult_of Try.func101 rfl rfl) ⟨rfl, x1.trans hG x6, G', own_next hG' hG hx1, .inr ⟨k, by omega, e6⟩⟩)
theorem levels_ok {D : DrainV} {b d r s : AVal} {h : AH} (A : DrainAt h D b d r s) : Runs Try.prog 90 [.agg (dC b d r s)] h (fun en h' => ∃ bb, en = .ret (.func (.func 101) [] [.ptr bb 0]) ∧ Ext h h' ∧ h.next ≤ bb ∧ Has h' bb (.cells .plain [b, d, r, s] 71)) := by
 have hsm := A.same
 unfold dC at *
 have e0 : Ext h h := Ext.refl _
 refine Runs.intro aFunc90 rfl rfl rfl rfl fun rest => ?_;apply gS;refine gR rfl ?_;refine GoR.box rfl rfl rfl rfl rfl rfl fun h0 x0 f0 => ?_;replace e0 := e0.trans x0;refine gP ?_;apply gE;apply gS;refine gR rfl ?_;iterate 2 refine gP ?_
 apply gE;exact gV (ret_end (aResult_of Try.func90 rfl rfl) ⟨_, rfl, e0, Nat.le_refl _, f0⟩)
end Go.Proofs.Ytkhiagdmbajimaa

set_option linter.unusedSimpArgs false
namespace Go.AbsE
open Go
section
variable {P : Program}
theorem FLeft.collects {f n : Nat} {ds : List ADef} {dk : Bool} {rd : Option Nat} {rest : List AFr} {t : Tr AVal} {Q : AM → Prop} {mode : AMode} (hm : mode ≠ .run) : ∀ {bs : List Nat} {h : AH}, bs.Nodup → (∀ b, b ∈ bs → Has h b (.deferred (some []))) →
  (∀ h', h'.next = h.next → (∀ b, b ∉ bs → h'.get b = h.get b) → FLeft P ⟨f, n, ds, dk, rd, rest⟩ mode t h' Q) → FLeft P ⟨f, n, bs.map .collected ++ ds, dk, rd, rest⟩ mode t h Q
 | [], h, _, _, g => g h rfl fun _ _ => rfl
 | b :: bs, h, nd, hb, g => by
  have nd' := List.nodup_cons.1 nd
  refine FLeft.collected hm (hb b List.mem_cons_self) fun h1 u => ?_
  refine FLeft.collects hm nd'.2 (fun b' hb' => (hb b' (List.mem_cons_of_mem _ hb')).upd u (fun z => nd'.1 (z ▸ hb'))) fun h' e1 e2 => ?_
  exact g h' (e1.trans u.1) fun b' hb' => by
   rw [e2 b' (fun z => hb' (List.mem_cons_of_mem _ z)), u.2.2 b' (fun z => hb' (z ▸ List.mem_cons_self))]
theorem Go.retCs {fn n : Nat} {bs : List Nat} {rst : List AFr} {k : List AItem} {t : Tr AVal} {h : AH} {R : AEnd → AH → Prop} {v : AVal} (nd : bs.Nodup) (hd : ∀ b, b ∈ bs → Has h b (.deferred (some [])))
  (hv : ∀ h', h'.next = h.next → (∀ b, b ∉ bs → h'.get b = h.get b) → aResult P h' fn t = some v ∧ R (.ret v) h') : Go P ⟨fn, n, bs.map .collected, false, none, rst⟩ (.code .ret :: k) t h (Post P fn rst R) := by
 rw [← List.append_nil (bs.map ADef.collected)]
 exact Go.retL (FLeft.collects (fun q => by cases q) nd hd fun h' a b => FLeft.ret (hv h' a b).1 (hv h' a b).2)
structure Coll (h : AH) (lo : Nat) (bs : List Nat) : Prop where
 nd : bs.Nodup
 hs : ∀ b, b ∈ bs → lo ≤ b ∧ Has h b (.deferred (some []))
theorem Coll.nil {h : AH} {lo : Nat} : Coll h lo [] := ⟨List.nodup_nil, fun b q => by cases q⟩
theorem Coll.keep {h h' : AH} {lo : Nat} {bs : List Nat} (k : Coll h lo bs) (n : h.next ≤ h'.next) (e : ∀ b, lo ≤ b → b < h.next → b ∈ bs → h'.get b = h.get b) : Coll h' lo bs :=
 ⟨k.nd, fun b q => ⟨(k.hs b q).1, (k.hs b q).2.keep n (e b (k.hs b q).1 (k.hs b q).2.1 q)⟩⟩
theorem Coll.ext {h h' : AH} {lo : Nat} {bs : List Nat} (k : Coll h lo bs) (e : Ext h h') : Coll h' lo bs := k.keep e.1 fun b _ hb _ => e.2 b hb
theorem Coll.cons {h : AH} {lo d : Nat} {bs : List Nat} (k : Coll h lo bs) (hl : lo ≤ d) (hd : Has h d (.deferred (some []))) (hn : d ∉ bs) : Coll h lo (d :: bs) :=
 ⟨List.nodup_cons.2 ⟨hn, k.nd⟩, fun b q => by
  rcases List.mem_cons.1 q with rfl | q
  ·exact ⟨hl, hd⟩
  ·exact k.hs b q⟩
end
end Go.AbsE
