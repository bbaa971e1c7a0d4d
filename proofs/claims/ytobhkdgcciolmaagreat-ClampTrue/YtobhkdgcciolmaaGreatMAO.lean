import Derived.Test.YtobhkdgcciolmaaGreatMAN
import Derived.Test.YtobhkdgcciolmaaGreatMAI
namespace Go.Proofs.YtobhkdgcciolmaaGreat
open Go Go.AbsE
set_option linter.unusedSimpArgs false
set_option maxRecDepth 100000
set_option maxHeartbeats 0
set_option linter.unusedVariables false
theorem evs_scal : ∀ L : List EV, scalars (L.map evC) = true
 | [] => rfl
 | x :: L => by
  have h2 := evs_scal L
  show cond (scalar (evC x)) (scalars (L.map evC)) false = true
  have : scalar (evC x) = true := by
   unfold evC
   split <;> rfl
  rw [this, h2]
  rfl
theorem flat_one {α β : Type} (f : α → β) : ∀ l : List α, (l.flatMap fun x => [f x]) = l.map f
 | [] => rfl
 | x :: l => by rw [List.flatMap_cons, flat_one f l]; rfl
theorem ap_take {α : Type} (L Z : List α) {i : Nat} (hi : i ≤ L.length) : (L ++ Z).take i = L.take i := List.take_append_of_le_length hi
theorem ap_drop {α : Type} (L Z : List α) {i : Nat} (hi : i ≤ L.length) : (L ++ Z).drop i = L.drop i ++ Z := List.drop_append_of_le_length hi
theorem vl_src {h : AH} {b n off len cap : Nat} {g : Kd} {el : TypeId} (L Z : List AVal) (f : Has h b (.cells g (L ++ Z) el)) {i : Nat} (hi : i + n ≤ L.length) (ho : off = i * 1) : srcCells h 1 n (.slice b off len cap) = some ((L.drop i).take n) := by
 subst ho
 show AbsE.loadCells h b (i * 1) (n * 1) = _
 unfold AbsE.loadCells
 rw [f.2]
 show slice? (L ++ Z) (i * 1) (n * 1) = _
 rw [Nat.mul_one, Nat.mul_one]
 unfold slice?
 rw [ap_drop L Z (by omega), ap_take _ _ (by rw [List.length_drop]; omega)]
 have : ((L.drop i).take n).length = n := by rw [List.length_take, List.length_drop]; omega
 dsimp only
 rw [this]
 simp
theorem vl_move (L Z : List AVal) {i : Nat} (hi : i < L.length) : ∃ Z', splice (L ++ Z) (i * 1) (L.drop (i + 1)) = some (L.eraseIdx i ++ Z') ∧ Z'.length = Z.length + 1 := by
 refine ⟨(L ++ Z).drop (i * 1 + (L.drop (i + 1)).length), ?_, ?_⟩
 ·rw [splice_eq (by rw [List.length_append, List.length_drop]; omega), Nat.mul_one, ap_take L Z (by omega), List.eraseIdx_eq_take_drop_succ]
 ·rw [List.length_drop, List.length_append, List.length_drop]
  omega
theorem vl_put (L Z : List AVal) {m : Nat} (hL : L.length = m) {new : List AVal} (hn : new.length ≤ Z.length) : splice (L ++ Z) (m * 1) new = some (L ++ (new ++ Z.drop new.length)) := by
 subst hL;rw [splice_eq (by rw [List.length_append]; omega), Nat.mul_one, ap_take L Z (Nat.le_refl _), List.take_length, List.append_assoc, List.drop_append, List.drop_eq_nil_of_le (by omega), List.nil_append]
 congr 4
 omega
theorem delete131_ok {b n N i : Nat} (L Z : List AVal) (hsc : scalars L = true) (hscd : ∀ k, scalars (L.drop k) = true) (hL : L.length = n) (hi : i < n) (hN : n ≤ N) (hN5 : N ≤ 100) (hZ : Z.length = (N - n) * 1) (h : AH) (f : Has h b (.cells .plain (L ++ Z) 138)) :
  Runs Tryz.prog 131 [.slice b 0 n N, .int .i64 (i : Nat), .int .i64 ((i : Nat) + 1)] h (fun en h' => en = .ret (.slice b 0 (n - 1) N) ∧ ExtF (fun c => c = b) h h' ∧ ∃ Z', Z'.length = (N - (n - 1)) * 1 ∧ Has h' b (.cells .plain (L.eraseIdx i ++ Z') 138)) := by
 have y0 : ExtF (fun c => c = b) h h := ExtF.of (Ext.refl _)
 have hfb := f.1
 obtain ⟨Z1, m1, m2⟩ := vl_move L Z (i := i) (by omega)
 by_cases hlast : i + 1 ≠ N
 ·have e0 : Ext h h := Ext.refl _
  refine Runs.intro aFunc131 rfl rfl rfl rfl fun rest => ?_;apply gS;refine gR rfl ?_;refine gP ?_;apply gE;apply gS;refine gR rfl ?_;iterate 4 refine gP ?_
  refine gO rfl rfl (aOp_lenSlice Tryz.underlying72 rfl (n := n) rfl) rfl ?_;refine gO rfl rfl (aOp_slice3 (l := i) (hh := i + 1) (m := n) Tryz.underlying72 sz138 rfl rfl rfl rfl (by omega) (by omega) (by omega) (by omega)) rfl ?_;apply gE;iterate 2 apply gS
  refine gR rfl ?_;iterate 2 refine gP ?_
  refine gO rfl rfl (kEF rfl rfl) rfl ?_;apply gE;refine gC (b := false) rfl ?_;refine gD ?_;apply gS;refine gR rfl ?_;refine gP ?_;refine gO rfl rfl (aOp_lenSlice Tryz.underlying72 rfl (n := n) rfl) rfl ?_;refine gP ?_;apply gE;apply gS;refine Go.drawnE plan131_0 ?_;iterate 2 refine gQ rfl rfl rfl rfl ?_
  refine gQ rfl rfl (aOp_slice Tryz.underlying72 sz138 rfl rfl rfl (cut_hi (i := i) (by omega)) hN (by omega)) rfl ?_;iterate 2 refine gQ rfl rfl rfl rfl ?_
  refine gQ rfl rfl (aOp_slice Tryz.underlying72 sz138 rfl rfl rfl (cut_lo (i := i + 1) (by omega)) hN hlast) rfl ?_;refine GoE.appendIn rfl rfl Tryz.underlying72 Tryz.underlying72 sz138 by138 zt138 rfl rfl rfl rfl (n := n - (i + 1)) (m := n - 1) (new := L.drop (i + 1)) rfl (by rw [vl_src L Z f (i := i + 1) (n := n - (i + 1)) (by omega) (by omega), List.take_of_length_le (by rw [List.length_drop]; omega)]) (by omega) (by omega) (by omega) f rfl (hscd _) (by rw [Nat.zero_add, Nat.sub_zero]; exact m1) (dD 63 5 (dD 63 4 (dD 63 3 (dD 63 2 (dD 63 1 (dD 63 0 rfl)))))) rfl rfl fun h1 u1 => ?_;refine ⟨recheck_nil, ?_⟩;replace f := u1.has f;replace y0 := y0.upd u1 (.inl rfl);refine gQ rfl rfl rfl rfl ?_;refine GoE.end rfl ?_;apply gS;refine gR rfl ?_;iterate 2 refine gP ?_
  refine gO rfl rfl (aOp_lenSlice Tryz.underlying72 rfl (n := n - 1) rfl) rfl ?_;refine gP ?_;refine gO rfl rfl (aOp_slice Tryz.underlying72 sz138 rfl rfl rfl (cut_both (l := n - 1) (hh := n) (by omega) (by omega)) (by omega) (by omega)) rfl ?_;refine GoR.clear rfl rfl Tryz.underlying72 zt138 rfl (by omega) f rfl (by rw [show n - (n - 1) = 1 by omega]; rfl) (by rw [Nat.zero_add, show n - (n - 1) = 1 by omega]; exact vl_put _ _ (by rw [List.length_eraseIdx_of_lt (by omega)]; omega) (new := [AVal.nilIface]) (by rw [m2]; show 1 ≤ _; omega)) fun h2 u2 => ?_;replace f := u2.has f;replace y0 := y0.upd u2 (.inl rfl);apply gE;apply gS;refine gR rfl ?_;iterate 2 refine gP ?_
  apply gE;exact gV (ret_end (aResult_of Tryz.func131 rfl rfl) ⟨rfl, y0, _, (by rw [List.length_append, List.length_drop, m2, hZ]; show 1 + (_ - 1) = _; omega), f⟩)
 ·have hlast : i + 1 = N := by omega
  subst hlast
  have e0 : Ext h h := Ext.refl _
  refine Runs.intro aFunc131 rfl rfl rfl rfl fun rest => ?_;apply gS;refine gR rfl ?_;refine gP ?_;apply gE;apply gS;refine gR rfl ?_;iterate 4 refine gP ?_
  refine gO rfl rfl (aOp_lenSlice Tryz.underlying72 rfl (n := n) rfl) rfl ?_;refine gO rfl rfl (aOp_slice3 (l := i) (hh := i + 1) (m := n) Tryz.underlying72 sz138 rfl rfl rfl rfl (by omega) (by omega) (by omega) (by omega)) rfl ?_;apply gE;iterate 2 apply gS
  refine gR rfl ?_;iterate 2 refine gP ?_
  refine gO rfl rfl (kEF rfl rfl) rfl ?_;apply gE;refine gC (b := false) rfl ?_;refine gD ?_;apply gS;refine gR rfl ?_;refine gP ?_;refine gO rfl rfl (aOp_lenSlice Tryz.underlying72 rfl (n := n) rfl) rfl ?_;refine gP ?_;apply gE;apply gS;refine Go.drawnE plan131_0 ?_;iterate 2 refine gQ rfl rfl rfl rfl ?_
  refine gQ rfl rfl (aOp_slice Tryz.underlying72 sz138 rfl rfl rfl (cut_hi (i := i) (by omega)) hN (by omega)) rfl ?_;iterate 2 refine gQ rfl rfl rfl rfl ?_
  refine gQ rfl rfl (aOp_sliceAll Tryz.underlying72 sz138 rfl rfl rfl (cut_lo (i := i + 1) (by omega)) hN) rfl ?_;refine GoE.appendIn rfl rfl Tryz.underlying72 Tryz.underlying72 sz138 by138 zt138 rfl rfl rfl rfl (n := n - (i + 1)) (m := n - 1) (new := L.drop (i + 1)) rfl (by rw [vl_src L Z f (i := 0) (n := n - (i + 1)) (by omega) (by omega), show n - (i + 1) = 0 by omega, List.take_zero, List.drop_eq_nil_of_le (by omega)]) (by omega) (by omega) (by omega) f rfl (hscd _) (by rw [Nat.zero_add, Nat.sub_zero]; exact m1) (dD 63 5 (dD 63 4 (dD 63 3 (dD 63 2 (dD 63 1 (dD 63 0 rfl)))))) rfl rfl fun h1 u1 => ?_;refine ⟨recheck_nil, ?_⟩;replace f := u1.has f;replace y0 := y0.upd u1 (.inl rfl);refine gQ rfl rfl rfl rfl ?_;refine GoE.end rfl ?_;apply gS;refine gR rfl ?_;iterate 2 refine gP ?_
  refine gO rfl rfl (aOp_lenSlice Tryz.underlying72 rfl (n := n - 1) rfl) rfl ?_;refine gP ?_;refine gO rfl rfl (aOp_slice Tryz.underlying72 sz138 rfl rfl rfl (cut_both (l := n - 1) (hh := n) (by omega) (by omega)) (by omega) (by omega)) rfl ?_;refine GoR.clear rfl rfl Tryz.underlying72 zt138 rfl (by omega) f rfl (by rw [show n - (n - 1) = 1 by omega]; rfl) (by rw [Nat.zero_add, show n - (n - 1) = 1 by omega]; exact vl_put _ _ (by rw [List.length_eraseIdx_of_lt (by omega)]; omega) (new := [AVal.nilIface]) (by rw [m2]; show 1 ≤ _; omega)) fun h2 u2 => ?_;replace f := u2.has f;replace y0 := y0.upd u2 (.inl rfl);apply gE;apply gS;refine gR rfl ?_;iterate 2 refine gP ?_
  apply gE;exact gV (ret_end (aResult_of Tryz.func131 rfl rfl) ⟨rfl, y0, _, (by rw [List.length_append, List.length_drop, m2, hZ]; show 1 + (_ - 1) = _; omega), f⟩)
theorem dropV_mem {out : Nat} : ∀ {k : Nat} {L : List EV} {x : EV}, x ∈ dropV out k L → x ∈ L
 | _, [], _, h => h
 | k, y :: L, x, h => by
  unfold dropV at h
  split at h
  ·exact List.mem_cons_of_mem _ (dropV_mem h)
  ·rcases List.mem_cons.1 h with rfl | h
   ·exact List.mem_cons_self
   ·exact List.mem_cons_of_mem _ (dropV_mem h)
theorem dropV_sub {out : Nat} : ∀ {k : Nat} {L : List EV}, (dropV out k L).Sublist L
 | _, [] => List.Sublist.refl _
 | k, y :: L => by
  unfold dropV
  split
  ·exact (dropV_sub).cons _
  ·exact (dropV_sub).cons_cons _
theorem dropV_len {out : Nat} {k : Nat} {L : List EV} : (dropV out k L).length ≤ L.length := dropV_sub.length_le
def woAt (out : Nat) (L : List EV) (r : Nat) : List EV := L.take r ++ dropV out r (L.drop r)
theorem woAt_len (out : Nat) (L : List EV) {r : Nat} (hr : r ≤ L.length) : r ≤ (woAt out L r).length ∧ (woAt out L r).length ≤ L.length := by
 have := dropV_len (out := out) (k := r) (L := L.drop r)
 rw [List.length_drop] at this
 unfold woAt
 rw [List.length_append, List.length_take, Nat.min_eq_left hr]
 omega
theorem woAt_succ (out : Nat) (L : List EV) {i : Nat} (hi : i < L.length) : woAt out L i = if out.testBit i then (woAt out L (i + 1)).eraseIdx i else woAt out L (i + 1) := by
 have hd : L.drop i = L[i] :: L.drop (i + 1) := List.drop_eq_getElem_cons hi
 have ht : L.take (i + 1) = L.take i ++ [L[i]] := by rw [List.take_add_one]; simp [hi]
 have hl : (L.take i).length = i := by rw [List.length_take]; omega
 unfold woAt
 rw [hd, ht]
 cases h : out.testBit i with
 | true =>
  rw [if_pos rfl]
  conv => lhs; unfold dropV
  rw [h, if_pos rfl, List.append_assoc, List.eraseIdx_append_of_length_le (by omega), hl, Nat.sub_self]
  rfl
 | false =>
  rw [if_neg (by decide)]
  conv => lhs; unfold dropV
  rw [h, if_neg (by decide), List.append_assoc]
  rfl
theorem flat_map1 (L : List EV) : (L.map fun e => [evC e]).flatten = L.map evC := by
 rw [← List.flatMap_def, flat_one]
theorem map_erase (L : List EV) (i : Nat) : (L.map evC).eraseIdx i = (L.eraseIdx i).map evC := by
 rw [List.eraseIdx_eq_take_drop_succ, List.eraseIdx_eq_take_drop_succ, List.map_append, List.map_take, List.map_drop]
theorem slice_map {h : AH} {b n cap : Nat} {g : Kd} {el : TypeId} {L : List EV} {Z : List AVal} (hn : L.length = n) (f : Has h b (.cells g (L.map evC ++ Z) el)) : SliceOf h 1 (.slice b 0 n cap) (L.map fun e => [evC e]) := by
 subst hn;refine SliceOf.mk' (by rfl) (by rfl) f (by rw [List.length_map]) fun i l hl => ?_;rw [List.getElem?_map] at hl
 cases q : L[i]? with
 | none => rw [q] at hl; cases hl
 | some e =>
  rw [q] at hl;cases hl
  have hlt := (List.getElem?_eq_some_iff.1 q).1
  unfold slice?
  rw [ap_drop _ _ (by rw [List.length_map]; omega)]
  have hd : (L.map evC).drop (0 + i * 1) = evC e :: (L.map evC).drop (i + 1) := by
   rw [Nat.zero_add, Nat.mul_one];exact drop_cons (by rw [List.getElem?_map, q]; rfl)
  rw [hd]
  rfl
theorem without_ok {C : ClampV} (O : C.Ok) {gp ge : AVal} {out : Nat} (hout : out < 2 ^ 62) {h : AH} (A : YardAt h C gp ge) :
  Runs Tryz.prog 110 [.agg (C.cells gp ge), .int .i64 (out : Nat)] h (fun en h' => ∃ s, en = .ret (.agg (C.cells gp s)) ∧ Ext h h' ∧ YardAt h' (C.drop out) gp s) := by
 have hne := O.ne
 have hE := A.esl
 have hlE := hE.len
 rw [List.length_map] at hlE
 obtain ⟨N, hN⟩ : ∃ N, C.es.length = N := ⟨_, rfl⟩
 rw [hN] at hlE hne
 have hgs := A.psl.scal
 have e0 : Ext h h := Ext.refl _
 refine Runs.intro aFunc110 rfl rfl rfl rfl fun rest => ?_;apply gS;refine gR rfl ?_;refine GoR.box rfl rfl rfl rfl rfl rfl fun h0 x0 f0 => ?_;have := e0.1;replace e0 := e0.trans x0;have := f0.1;refine GoR.alloc rfl rfl rfl zt74 rfl rfl fun h1 x1 f1 => ?_;have := e0.1;have := f0.1;replace f0 := f0.ext x1;replace e0 := e0.trans x1;have := f1.1;apply gE;apply gS;refine gR rfl ?_;refine gO rfl rfl (fa74_2 rfl) rfl ?_;refine gO rfl rfl (ld72 rfl f0 rfl) rfl ?_;refine gO rfl rfl (aOp_lenSlice Tryz.underlying72 rfl (by assumption)) rfl ?_;refine GoR.makeSl rfl rfl rfl Tryz.underlying72 rfl rfl sz138 by138 zt138 rfl (Nat.ble_eq_true_of_le (by omega)) rfl rfl fun h2 x2 f2 => ?_;have := e0.1;have := f1.1;have := f0.1;replace f1 := f1.ext x2;replace f0 := f0.ext x2;replace e0 := e0.trans x2;have := f2.1;refine gP ?_;apply gE;apply gS;refine gR rfl ?_;refine gP ?_;refine gO rfl rfl (fa74_2 rfl) rfl ?_;refine gO rfl rfl (ld72 rfl f0 rfl) rfl ?_
 have hsrc := (hE.ext e0).src
 rw [List.length_map, hN, flat_map1] at hsrc;refine GoR.copyIn rfl rfl Tryz.underlying72 sz138 rfl rfl hlE (Nat.min_self N) hsrc f2 rfl (evs_scal _) (splice_whole (by rw [List.length_map, hN]; show (repl _ N).length = _; rw [repl_eq]; simp; show N * 1 = N; omega)) rfl fun h9 u9 => ?_
 have hb2 := f2.1
 have hb1 := f1.1
 have hb0 := f0.1
 replace f2 := u9.has f2;replace f0 := f0.upd u9 (by omega);replace f1 := f1.upd u9 (by omega);replace e0 := e0.upd u9 (by omega);apply gE;iterate 2 apply gS
 refine gR rfl ?_;refine gP ?_;refine gO rfl rfl (aOp_lenSlice Tryz.underlying72 rfl (n := N) rfl) rfl ?_;refine gO rfl rfl (aS rfl rfl) rfl ?_;refine gP ?_;apply gE;refine Go.block noJ_ok ?_
 have hw0 : woAt out C.es N = C.es := by
  unfold woAt
  rw [← hN, List.take_length, List.drop_length]
  simp [dropV]
 have hbn : h.next < h0.next := by omega
 have hbn2 : h0.next < h1.next := by omega
 refine Go.loopKeep (fun r : Nat => [(1, .int .i64 (out : Nat)), (2, .ptr h.next 0), (4, .ptr h0.next 0), (5, .slice h1.next 0 (woAt out C.es r).length N), (6, .int .i64 ((r : Nat) - 1))])
  (fun m r h' => m = r ∧ r ≤ N ∧ Ext h h' ∧ Has h' h.next (.cells .plain (C.cells gp ge) 74) ∧ Has h' h0.next (.cells .plain [.nilslice, .int .i64 0, .int .i64 0, .nilslice] 74) ∧ ∃ Z : List AVal, Z.length = (N - (woAt out C.es r).length) * 1 ∧ Has h' h1.next (.cells .plain ((woAt out C.es r).map evC ++ Z) 138))
  (n := N) N ⟨rfl, rfl, rfl, by rw [hw0, hN]; rfl, rfl, trivial⟩ ⟨rfl, Nat.le_refl _, e0, f0, f1, [], by rw [hw0, hN]; simp, by rw [hw0, List.append_nil]; exact f2⟩ ?_
 clear e0 f0 f1 f2;rintro m r hh ⟨rfl, hr, e0, f0, f1, Z, hZ, f2⟩ again
 have hx0 := e0.1
 have hb2 := f2.1
 have hb1 := f1.1
 have hb0 := f0.1
 by_cases hr0 : m = 0
 ·subst hr0
  have hws : woAt out C.es 0 = dropV out 0 C.es := by unfold woAt; simp
  rw [hws] at f2 ⊢
  have hsc2 : scalars [gp, .int .i64 C.pl, .int .i64 C.ph, .slice h1.next 0 (dropV out 0 C.es).length N] = true := by
   have h1' : cond (scalar gp) (scalars []) false = true := hgs.1
   show cond (scalar gp) (scalars [.int .i64 C.pl, .int .i64 C.ph, .slice h1.next 0 (dropV out 0 C.es).length N]) false = true
   cases q : scalar gp with
   | true => rfl
   | false => rw [q] at h1'; cases h1'
  iterate 2 apply gS
  refine gR rfl ?_;refine gP ?_;refine gO rfl rfl (kNF rfl rfl) rfl ?_;apply gE;refine gC (b := false) rfl ?_;refine gD ?_;apply gS;refine gR rfl ?_;refine gP ?_;refine gO rfl rfl (fa74_2 rfl) rfl ?_;refine GoR.store rfl rfl rfl rfl rfl rfl f0 rfl sz72 rfl rfl rfl fun h10 u10 => ?_;replace f0 := u10.has f0;replace f1 := f1.upd u10 (by omega);replace f2 := f2.upd u10 (by omega);replace e0 := e0.upd u10 (by omega);apply gE;apply gS;refine gR rfl ?_;refine gO rfl rfl (ld74 rfl f0 rfl) rfl ?_;refine GoR.store rfl rfl rfl rfl rfl rfl f1 rfl sz74 rfl hsc2 rfl fun h11 u11 => ?_;replace f1 := u11.has f1;replace f2 := f2.upd u11 (by omega);replace e0 := e0.upd u11 (by omega);apply gE
  have hres : YardAt h11 (C.drop out) gp (.slice h1.next 0 (dropV out 0 C.es).length N) := ⟨A.psl.ext e0, slice_map rfl f2⟩
  exact gV (ret_end (aResult_of Tryz.func110 rfl (aResults_cell rfl f1 (inCells_agg ag74 sz74 rfl))) ⟨_, rfl, e0, hres⟩)
 ·obtain ⟨i, rfl⟩ : ∃ i, m = i + 1 := ⟨m - 1, by omega⟩
  have hv : ((i + 1 : Nat) : Int) - 1 = (i : Nat) := by omega
  rw [hv]
  have hwl := woAt_len out C.es (r := i + 1) (by omega)
  have hsucc := woAt_succ out C.es (i := i) (by omega)
  rw [hN] at hwl
  have hfn := f2.1
  cases hb : out.testBit i with
  | false =>
   rw [hb, if_neg (by decide)] at hsucc
   have hin := fun h => in_ok (s := out) (i := i) (by omega) (h := h)
   rw [hb] at hin;iterate 2 apply gS
   refine gR rfl ?_;refine gP ?_;refine gO rfl rfl (kNT rfl rfl) rfl ?_;apply gE;refine gC (b := true) rfl ?_;refine gD ?_;apply gS;refine Go.block noJ_ok ?_;apply gS;refine gR rfl ?_;iterate 2 refine gP ?_
   refine GoR.call rfl rfl (aCF aFunc99 rfl) (hin _) ?_ np;rintro v10 h10 ⟨q, x10⟩;cases q;refine ⟨_, rfl, ?_⟩;replace f0 := f0.ext x10;replace f1 := f1.ext x10;replace f2 := f2.ext x10;replace e0 := e0.trans x10;apply gE;refine gC (b := false) rfl ?_;refine gD ?_;refine Go.inBlock noJ_ok ?_;refine gR rfl ?_;refine gP ?_;refine gO rfl rfl (aS rfl rfl) rfl ?_;refine gP ?_;apply gE;exact again i i _ _ (by omega) ⟨rfl, rfl, rfl, by rw [hsucc]; rfl, rfl, trivial⟩ ⟨rfl, by omega, e0, f0, f1, Z, by rw [hsucc]; exact hZ, by rw [hsucc]; exact f2⟩
  | true =>
   rw [hb, if_pos rfl] at hsucc
   have hin := fun h => in_ok (s := out) (i := i) (by omega) (h := h)
   rw [hb] at hin
   have hdel := fun (h9 : AH) f => delete131_ok (b := h1.next) (n := (woAt out C.es (i + 1)).length) (N := N) (i := i) ((woAt out C.es (i + 1)).map evC) Z (evs_scal _) (fun k => by rw [← List.map_drop]; exact evs_scal _) (by rw [List.length_map]) (by omega) (by omega) (by omega) hZ h9 f
   rw [map_erase, ← hsucc] at hdel
   have hwi : (woAt out C.es i).length = (woAt out C.es (i + 1)).length - 1 := by rw [hsucc, List.length_eraseIdx_of_lt (by omega)]
   rw [← hwi] at hdel
   iterate 2 apply gS
   refine gR rfl ?_;refine gP ?_;refine gO rfl rfl (kNT rfl rfl) rfl ?_;apply gE;refine gC (b := true) rfl ?_;refine gD ?_;apply gS;refine Go.block noJ_ok ?_;apply gS;refine gR rfl ?_;iterate 2 refine gP ?_
   refine GoR.call rfl rfl (aCF aFunc99 rfl) (hin _) ?_ np;rintro v10 h10 ⟨q, x10⟩;cases q;refine ⟨_, rfl, ?_⟩;replace f0 := f0.ext x10;replace f1 := f1.ext x10;replace f2 := f2.ext x10;replace e0 := e0.trans x10;apply gE;refine gC (b := true) rfl ?_;refine gR rfl ?_;iterate 3 refine gP ?_
   refine gO rfl rfl (aA rfl rfl) rfl ?_;refine GoR.call rfl rfl (aCF aFunc131 rfl) (hdel _ f2) ?_ np;rintro v19 h19 ⟨q, y9, Z', hZ', f9⟩;cases q;refine ⟨_, rfl, ?_⟩
   have e9 := y9.low e0 (fun b q => by have : b = h1.next := q; omega)
   have hx := y9.1
   replace f0 := f0.extF y9 (by omega);replace f1 := f1.extF y9 (by omega);clear e0 f2;refine gP ?_;apply gE;refine Go.inBlock noJ_ok ?_;refine gR rfl ?_;refine gP ?_;refine gO rfl rfl (aS rfl rfl) rfl ?_;refine gP ?_;apply gE;exact again i i _ _ (by omega) ⟨rfl, rfl, rfl, rfl, rfl, trivial⟩ ⟨rfl, by omega, e9, f0, f1, Z', hZ', f9⟩
def popc (n : Nat) : Nat := ((List.range 10).filter fun i => n.testBit i).length
def pop1 (n : Nat) : Nat := (n / 2 ^ 1 &&& 6148914691236517205) + (n &&& 6148914691236517205)
def pop2 (a : Nat) : Nat := (a / 2 ^ 2 &&& 3689348814741910323) + (a &&& 3689348814741910323)
def pop3 (b : Nat) : Nat := (b / 2 ^ 4 + b) &&& 1085102592571150095
def pop4 (k c : Nat) : Nat := c + c / 2 ^ k
theorem pop_all : ((List.range 1024).all fun n => (pop4 32 (pop4 16 (pop4 8 (pop3 (pop2 (pop1 n))))) &&& 127) == popc n) = true := by decide +kernel
theorem ones140_ok {n : Nat} (hn : n < 1024) {h : AH} : Runs Tryz.prog 140 [.int .u64 (n : Nat)] h (fun en h' => en = .ret (.int .i64 (popc n : Nat)) ∧ Ext h h') := by
 have hp := List.all_eq_true.1 pop_all n (List.mem_range.2 hn)
 simp only [beq_iff_eq] at hp
 have k1 : n / 2 ^ 1 &&& 6148914691236517205 ≤ n / 2 ^ 1 := Nat.and_le_left
 have k2 : n &&& 6148914691236517205 ≤ n := Nat.and_le_left
 obtain ⟨a, ha⟩ : ∃ a, pop1 n = a := ⟨_, rfl⟩
 have ka : a ≤ 2048 := by rw [← ha]; unfold pop1; omega
 have k3 : a / 2 ^ 2 &&& 3689348814741910323 ≤ a / 2 ^ 2 := Nat.and_le_left
 have k4 : a &&& 3689348814741910323 ≤ a := Nat.and_le_left
 obtain ⟨b, hb⟩ : ∃ b, pop2 a = b := ⟨_, rfl⟩
 have kb : b ≤ 4096 := by rw [← hb]; unfold pop2; omega
 have k5 : (b / 2 ^ 4 + b) &&& 1085102592571150095 ≤ b / 2 ^ 4 + b := Nat.and_le_left
 obtain ⟨c, hc⟩ : ∃ c, pop3 b = c := ⟨_, rfl⟩
 have kc : c ≤ 8192 := by rw [← hc]; unfold pop3; omega
 obtain ⟨d, hd⟩ : ∃ d, pop4 8 c = d := ⟨_, rfl⟩
 have kd : d ≤ 16384 := by rw [← hd]; unfold pop4; omega
 obtain ⟨e, he⟩ : ∃ e, pop4 16 d = e := ⟨_, rfl⟩
 have ke : e ≤ 32768 := by rw [← he]; unfold pop4; omega
 obtain ⟨f, hf⟩ : ∃ f, pop4 32 e = f := ⟨_, rfl⟩
 have kf : f ≤ 65536 := by rw [← hf]; unfold pop4; omega
 rw [ha, hb, hc, hd, he, hf] at hp
 have e0 : Ext h h := Ext.refl _
 refine Runs.intro aFunc140 rfl rfl rfl rfl fun rest => ?_;apply gS;refine gR rfl ?_;refine gP ?_;apply gE;apply gS;refine gR rfl ?_;refine gP ?_;refine gO rfl rfl (aOp_shrU rfl rfl (by decide) rfl) rfl ?_;refine gO rfl rfl (aOp_andU (a := n / 2 ^ 1) rfl rfl (by omega) (by decide) rfl) rfl ?_;refine gP ?_;refine gO rfl rfl (aOp_andU (a := n) rfl rfl (by omega) (by decide) rfl) rfl ?_;refine gO rfl rfl (aOp_addU (a := n / 2 ^ 1 &&& 6148914691236517205) (b := n &&& 6148914691236517205) rfl rfl (by omega) ha) rfl ?_;refine gP ?_;apply gE;apply gS;refine gR rfl ?_;refine gP ?_;refine gO rfl rfl (aOp_shrU rfl rfl (by decide) rfl) rfl ?_;refine gO rfl rfl (aOp_andU (a := a / 2 ^ 2) rfl rfl (by omega) (by decide) rfl) rfl ?_;refine gP ?_;refine gO rfl rfl (aOp_andU (a := a) rfl rfl (by omega) (by decide) rfl) rfl ?_;refine gO rfl rfl (aOp_addU (a := a / 2 ^ 2 &&& 3689348814741910323) (b := a &&& 3689348814741910323) rfl rfl (by omega) hb) rfl ?_;refine gP ?_;apply gE;apply gS;refine gR rfl ?_;refine gP ?_;refine gO rfl rfl (aOp_shrU rfl rfl (by decide) rfl) rfl ?_;refine gP ?_;refine gO rfl rfl (aOp_addU (a := b / 2 ^ 4) (b := b) rfl rfl (by omega) rfl) rfl ?_;refine gO rfl rfl (aOp_andU (a := b / 2 ^ 4 + b) rfl rfl (by omega) (by decide) hc) rfl ?_;refine gP ?_;apply gE;apply gS;refine gR rfl ?_;iterate 2 refine gP ?_
 refine gO rfl rfl (aOp_shrU rfl rfl (by decide) rfl) rfl ?_;refine gO rfl rfl (aOp_addU (a := c) (b := c / 2 ^ 8) rfl rfl (by omega) hd) rfl ?_;refine gP ?_;apply gE;apply gS;refine gR rfl ?_;iterate 2 refine gP ?_
 refine gO rfl rfl (aOp_shrU rfl rfl (by decide) rfl) rfl ?_;refine gO rfl rfl (aOp_addU (a := d) (b := d / 2 ^ 16) rfl rfl (by omega) he) rfl ?_;refine gP ?_;apply gE;apply gS;refine gR rfl ?_;iterate 2 refine gP ?_
 refine gO rfl rfl (aOp_shrU rfl rfl (by decide) rfl) rfl ?_;refine gO rfl rfl (aOp_addU (a := e) (b := e / 2 ^ 32) rfl rfl (by omega) hf) rfl ?_;refine gP ?_;apply gE;apply gS;refine gR rfl ?_;refine gP ?_;refine gO rfl rfl (aOp_convUI (w := f) rfl Tryz.underlying167 Tryz.underlying3 (by omega)) rfl ?_;refine gO rfl rfl (aOp_andNat (a := f) rfl rfl (by omega) (by decide) hp) rfl ?_;refine gP ?_;apply gE;exact gW Tryz.func140 rfl rfl ⟨rfl, e0⟩
theorem ones130_ok {n : Nat} (hn : n < 1024) {h : AH} : Runs Tryz.prog 130 [.int .u64 (n : Nat)] h (fun en h' => en = .ret (.int .i64 (popc n : Nat)) ∧ Ext h h') := by
 have e0 : Ext h h := Ext.refl _
 refine Runs.intro aFunc130 rfl rfl rfl rfl fun rest => ?_;apply gS;refine gR rfl ?_;refine gP ?_;apply gE;apply gS;refine gC (b := false) rfl ?_;refine gD ?_;apply gS;refine gR rfl ?_;refine gP ?_;refine GoR.call rfl rfl (aCF aFunc140 rfl) (ones140_ok hn) ?_ np;rintro v0 h0 ⟨q, x0⟩;cases q;refine ⟨_, rfl, ?_⟩;replace e0 := e0.trans x0;refine gP ?_;apply gE;exact gW Tryz.func130 rfl rfl ⟨rfl, e0⟩
def goodS (of m s : Nat) : Bool := decide (andNot s of = 0) && decide (popc s = m)
def subB (of m k : Nat) : List Nat := (List.range k).filter (goodS of m)
def subA (of m : Nat) : List Nat := (List.range m).flatMap fun j => subB of j (of + 1)
def subs (of : Nat) : List Nat := subA of (popc of + 1)
theorem filter_at {p : Nat → Bool} {N k : Nat} (hk : k < N) (hp : p k = true) : ((List.range N).filter p)[((List.range k).filter p).length]? = some k := by
 have h1 : List.range N = List.range k ++ (k :: (List.range (N - (k + 1))).map (· + (k + 1))) := by
  have : N = k + (1 + (N - (k + 1))) := by omega
  conv => lhs; rw [this, List.range_add, List.range_add]
  simp only [List.map_append, List.map_map]
  congr 1
  simp only [List.range_one, List.map_cons, List.map_nil, List.cons_append, List.nil_append, Nat.add_zero]
  congr 1
  refine List.map_congr_left fun x _ => ?_
  simp only [Function.comp_apply]
  omega
 rw [h1, List.filter_append, List.getElem?_append_right (Nat.le_refl _), Nat.sub_self, List.filter_cons, if_pos hp]
 rfl
theorem filter_succ (p : Nat → Bool) (k : Nat) : ((List.range (k + 1)).filter p).length = ((List.range k).filter p).length + (if p k then 1 else 0) := by
 rw [List.range_succ, List.filter_append, List.length_append, List.filter_cons]
 cases p k <;> simp
theorem subA_succ (of m : Nat) : (subA of (m + 1)).length = (subA of m).length + (subB of m (of + 1)).length := fm_succ _ _
theorem subB_succ (of m k : Nat) : (subB of m (k + 1)).length = (subB of m k).length + (if goodS of m k then 1 else 0) := filter_succ _ _
theorem subs_at {of m k M : Nat} (hm : m < M) (hk : k < of + 1) (hg : goodS of m k = true) : (subA of M)[(subA of m).length + (subB of m k).length]? = some k := fm_at hm (filter_at hk hg)
theorem popc_le (n : Nat) : popc n ≤ 10 := by
 unfold popc
 have := List.length_filter_le (fun i => n.testBit i) (List.range 10)
 rw [List.length_range] at this;exact this
theorem subs1_it {of : Nat} (hof : of < 1024) (bo : Nat) : IterV Tryz.prog 129 [] [.ptr bo 0] ((subs of).map fun s => AVal.int .i64 (s : Nat)) (fun h => Has h bo (.cells .plain [.int .i64 (of : Nat)] 3)) := by
 intro y base J E h F hyc hys hA hbase T j0
 show Runs Tryz.prog 129 [y, .ptr bo 0] h _
 rw [List.length_map]
 obtain ⟨M, hM⟩ : ∃ M, popc of + 1 = M := ⟨_, rfl⟩
 have hM11 : M ≤ 11 := by have := popc_le of; omega
 unfold subs at T ⊢
 rw [hM] at T ⊢
 have hat : ∀ {m k : Nat}, m < M → k < of + 1 → goodS of m k = true → _ := fun a b c => subs_at (of := of) a b c
 have e0 : Ext h h := Ext.refl _
 have f0 : Has h bo (.cells .plain [.int .i64 (of : Nat)] 3) := hA h (ExtF.of e0)
 have hbo := f0.1
 have hpof : popc of = M - 1 := by omega
 refine Runs.intro aFunc129 rfl rfl rfl rfl fun rest => ?_;apply gS;refine gR rfl ?_;refine gO rfl rfl (ld3 rfl f0 rfl) rfl ?_;refine gO rfl rfl (aOp_convU64 rfl Tryz.underlying3 Tryz.underlying148 (by omega)) rfl ?_;refine GoR.call rfl rfl (aCF aFunc130 rfl) (ones130_ok hof) ?_ np;rintro v1 h1 ⟨q, x1⟩;cases q;refine ⟨_, rfl, ?_⟩;replace f0 := f0.ext x1;replace e0 := e0.trans x1;refine gO rfl rfl (aA rfl rfl) rfl ?_;refine gP ?_;apply gE;refine Go.block noJ_ok ?_;refine Go.loopKeep (fun a : Nat × (Nat → Prop) => [(0, y), (1, .ptr bo 0), (8, .int .i64 (M : Nat)), (9, .int .i64 (a.1 : Nat))]) (fun q a h' => q + a.1 = M ∧ ExtF F h h' ∧ (∀ b, a.2 b → F b ∨ h.next ≤ b) ∧ J (subA of a.1).length h' a.2) (n := M) (0, F) ⟨rfl, rfl, (by show _ = some (AVal.int .i64 (M : Nat)); rw [← hM]; rfl), rfl, trivial⟩ ⟨by simp, ExtF.of e0, fun b q => .inl q, T.ext j0 e0⟩ ?_;clear e0 f0;rintro q ⟨m, G⟩ h1 ⟨hq, x1, hG, j1⟩ again
 dsimp only at hq hG j1 ⊢
 have f0 : Has h1 bo (.cells .plain [.int .i64 (of : Nat)] 3) := hA h1 x1
 have e0 : Ext h1 h1 := Ext.refl _
 have hx1 := x1.1
 by_cases hm : m < M
 ·apply gS;refine gR rfl ?_;refine gO rfl rfl (kLT rfl rfl) rfl ?_;apply gE;apply gS;refine gC (b := true) rfl ?_;refine gD ?_;apply gS;refine Go.block noJ_ok ?_;apply gS;refine gR rfl ?_;iterate 2 refine gP ?_
  apply gE;apply gS;refine gR rfl ?_;refine gO rfl rfl (ld3 rfl f0 rfl) rfl ?_;refine gO rfl rfl (aA rfl rfl) rfl ?_;refine gP ?_;apply gE;refine Go.block noJ_ok ?_;refine Go.loopKeep (fun a : Nat × (Nat → Prop) => [(0, y), (1, .ptr bo 0), (3, .int .i64 (m : Nat)), (8, .int .i64 (M : Nat)), (9, .int .i64 (m : Nat)), (13, .int .i64 ((of : Int) + 1)), (14, .int .i64 (a.1 : Nat))]) (fun q a h' => q + a.1 = of + 1 ∧ ExtF F h h' ∧ (∀ b, a.2 b → F b ∨ h.next ≤ b) ∧ J ((subA of m).length + (subB of m a.1).length) h' a.2) (n := of + 1) (0, G) ⟨rfl, rfl, rfl, rfl, rfl, rfl, rfl, trivial⟩ ⟨by simp, x1, hG, by simpa [subB] using j1⟩ ?_;clear e0 f0 j1 x1 hG hx1;rintro q2 ⟨k, G⟩ h2 ⟨hq2, x1, hG, j1⟩ again2
  dsimp only at hq2 hG j1 ⊢
  have f0 : Has h2 bo (.cells .plain [.int .i64 (of : Nat)] 3) := hA h2 x1
  have e0 : Ext h2 h2 := Ext.refl _
  have hx1 := x1.1
  by_cases hk : k < of + 1
  ·have hsb := subB_succ of m k
   have hk10 : k < 1024 := by omega
   have hpk := popc_le k
   by_cases c1 : andNot k of = 0
   ·have d1 : decide (((andNot k of : Nat) : Int) = 0) = true := decide_eq_true (by omega)
    by_cases c2 : popc k = m
    ·have hg : goodS of m k = true := by unfold goodS; rw [decide_eq_true c1, decide_eq_true c2]; rfl
     rw [hg, if_pos rfl] at hsb
     have hit := hat hm hk hg
     have hlt := (List.getElem?_eq_some_iff.1 hit).1
     have d2 : decide (((popc k : Nat) : Int) = (m : Nat)) = true := decide_eq_true (by omega)
     apply gS;refine gR rfl ?_;refine gO rfl rfl (kLT rfl rfl) rfl ?_;apply gE;apply gS;refine gC (b := true) rfl ?_;refine gD ?_;apply gS;refine Go.block noJ_ok ?_;apply gS;refine gR rfl ?_;iterate 2 refine gP ?_
     apply gE;apply gS;refine gR rfl ?_;refine gP ?_;refine gO rfl rfl (ld3 rfl f0 rfl) rfl ?_;refine gO rfl rfl (aOp_andNot rfl rfl (by omega) rfl) rfl ?_;refine gO rfl rfl (aOp_eql rfl rfl d1) rfl ?_;iterate 2 refine gP ?_
     refine gO rfl rfl (aOp_convU64 rfl Tryz.underlying3 Tryz.underlying148 (by omega)) rfl ?_;refine GoR.call rfl rfl (aCF aFunc130 rfl) (ones130_ok hk10) ?_ np;rintro v3 h3 ⟨q, x3⟩;cases q;refine ⟨_, rfl, ?_⟩;replace e0 := e0.trans x3;refine gP ?_;refine gO rfl rfl (aOp_eql rfl rfl d2) rfl ?_;iterate 4 refine gP ?_
     obtain ⟨ax, a1, a2, a3⟩ := T.take (by rw [List.getElem?_map, hit]; rfl) (T.ext j1 e0)
     have hx3 := e0.1
     refine GoR.does rfl rfl (aOp_callY rfl rfl a1) a2 a3 ?_ (by rintro _ _ ⟨_, _, _, ⟨q, _⟩ | ⟨q, _⟩⟩ <;> cases q);rintro v h6 ⟨x6, G', hG', ⟨q, j6⟩ | ⟨q, e6⟩⟩
     ·cases q;refine ⟨_, rfl, ?_⟩
      have y6 := (x1.ext e0).trans hG x6
      clear f0 e0;iterate 2 refine gP ?_
      apply gE;refine gC (b := false) rfl ?_;refine gD ?_;refine Go.inBlock noJ_ok ?_;refine gR rfl ?_;refine gO rfl rfl (aA rfl rfl) rfl ?_;refine gP ?_;apply gE;exact again2 (q2 - 1) (k + 1, G') _ _ (by omega) ⟨rfl, rfl, rfl, rfl, rfl, rfl, rfl, trivial⟩ ⟨by dsimp only; omega, y6, own_next hG' hG (by omega), by dsimp only; rw [hsb]; exact j6⟩
     ·cases q;refine ⟨_, rfl, ?_⟩
      have y6 := (x1.ext e0).trans hG x6
      clear f0 e0;iterate 2 refine gP ?_
      apply gE;refine gC (b := true) rfl ?_;exact gV (ret_end (aResult_of Tryz.func129 rfl rfl) ⟨rfl, y6, G', own_next hG' hG (by omega), .inr ⟨_, hlt, e6⟩⟩)
    ·have hg : goodS of m k = false := by unfold goodS; rw [decide_eq_true c1, decide_eq_false c2]; rfl
     rw [hg, if_neg (by decide), Nat.add_zero] at hsb
     have d2 : decide (((popc k : Nat) : Int) = (m : Nat)) = false := decide_eq_false (by omega)
     apply gS;refine gR rfl ?_;refine gO rfl rfl (kLT rfl rfl) rfl ?_;apply gE;apply gS;refine gC (b := true) rfl ?_;refine gD ?_;apply gS;refine Go.block noJ_ok ?_;apply gS;refine gR rfl ?_;iterate 2 refine gP ?_
     apply gE;apply gS;refine gR rfl ?_;refine gP ?_;refine gO rfl rfl (ld3 rfl f0 rfl) rfl ?_;refine gO rfl rfl (aOp_andNot rfl rfl (by omega) rfl) rfl ?_;refine gO rfl rfl (aOp_eql rfl rfl d1) rfl ?_;iterate 2 refine gP ?_
     refine gO rfl rfl (aOp_convU64 rfl Tryz.underlying3 Tryz.underlying148 (by omega)) rfl ?_;refine GoR.call rfl rfl (aCF aFunc130 rfl) (ones130_ok hk10) ?_ np;rintro v3 h3 ⟨q, x3⟩;cases q;refine ⟨_, rfl, ?_⟩;replace e0 := e0.trans x3;refine gP ?_;refine gO rfl rfl (aOp_eql rfl rfl d2) rfl ?_;iterate 2 refine gP ?_
     iterate 4 refine GoR.skip rfl rfl rfl ?_
     refine gP ?_;apply gE;refine gC (b := false) rfl ?_;refine gD ?_;refine Go.inBlock noJ_ok ?_;refine gR rfl ?_;refine gO rfl rfl (aA rfl rfl) rfl ?_;refine gP ?_;apply gE;exact again2 (q2 - 1) (k + 1, G) _ _ (by omega) ⟨rfl, rfl, rfl, rfl, rfl, rfl, rfl, trivial⟩ ⟨by dsimp only; omega, x1.ext e0, hG, by dsimp only; rw [hsb]; exact T.ext j1 e0⟩
   ·have hg : goodS of m k = false := by unfold goodS; rw [decide_eq_false c1]; rfl
    rw [hg, if_neg (by decide), Nat.add_zero] at hsb
    have d1 : decide (((andNot k of : Nat) : Int) = 0) = false := decide_eq_false (by omega)
    apply gS;refine gR rfl ?_;refine gO rfl rfl (kLT rfl rfl) rfl ?_;apply gE;apply gS;refine gC (b := true) rfl ?_;refine gD ?_;apply gS;refine Go.block noJ_ok ?_;apply gS;refine gR rfl ?_;iterate 2 refine gP ?_
    apply gE;apply gS;refine gR rfl ?_;refine gP ?_;refine gO rfl rfl (ld3 rfl f0 rfl) rfl ?_;refine gO rfl rfl (aOp_andNot rfl rfl (by omega) rfl) rfl ?_;refine gO rfl rfl (aOp_eql rfl rfl d1) rfl ?_;refine gP ?_;iterate 5 refine GoR.skip rfl rfl rfl ?_
    iterate 2 refine gP ?_
    iterate 4 refine GoR.skip rfl rfl rfl ?_
    refine gP ?_;apply gE;refine gC (b := false) rfl ?_;refine gD ?_;refine Go.inBlock noJ_ok ?_;refine gR rfl ?_;refine gO rfl rfl (aA rfl rfl) rfl ?_;refine gP ?_;apply gE;exact again2 (q2 - 1) (k + 1, G) _ _ (by omega) ⟨rfl, rfl, rfl, rfl, rfl, rfl, rfl, trivial⟩ ⟨by dsimp only; omega, x1.ext e0, hG, by dsimp only; rw [hsb]; exact T.ext j1 e0⟩
  ·have hkn : k = of + 1 := by omega
   subst hkn;apply gS;refine gR rfl ?_;refine gO rfl rfl (kLF rfl rfl) rfl ?_;apply gE;apply gS;refine gC (b := false) rfl ?_;refine gD ?_;refine Go.inBlock noJ_ok ?_;refine gR rfl ?_;refine gO rfl rfl (aA rfl rfl) rfl ?_;refine gP ?_;apply gE;exact again (q - 1) (m + 1, G) _ _ (by omega) ⟨rfl, rfl, rfl, rfl, trivial⟩ ⟨by dsimp only; omega, x1, hG, by dsimp only; rw [subA_succ]; exact j1⟩
 ·have hmn : m = M := by omega
  subst hmn;apply gS;refine gR rfl ?_;refine gO rfl rfl (kLF rfl rfl) rfl ?_;apply gE;apply gS;refine gC (b := false) rfl ?_;refine gD ?_;exact Go.endL (FLeft.ret (v := .tuple []) (aResult_of Tryz.func129 rfl rfl) ⟨rfl, x1, G, hG, .inl j1⟩)
theorem subsets_ok {of : Int} {h : AH} : Runs Tryz.prog 105 [.int .i64 of] h (fun en h' => ∃ bo, en = .ret (.func (.func 129) [] [.ptr bo 0]) ∧ Ext h h' ∧ Has h' bo (.cells .plain [.int .i64 of] 3) ∧ Ext h' h') := by
 have e0 : Ext h h := Ext.refl _
 refine Runs.intro aFunc105 rfl rfl rfl rfl fun rest => ?_;apply gS;refine gR rfl ?_;refine GoR.box rfl rfl rfl rfl rfl rfl fun h0 x0 f0 => ?_;replace e0 := e0.trans x0;refine gP ?_;apply gE;apply gS;refine gR rfl ?_;iterate 2 refine gP ?_
 apply gE;exact gV (ret_end (aResult_of Tryz.func105 rfl rfl) ⟨_, rfl, e0, f0, Ext.refl _⟩)
theorem first_ok {g : FuncId} {gf : Func} {first cap : List AVal} {L : List Int} {A : AH → Prop} (hg : aFunc Tryz.prog g = some gf) (it : IterV Tryz.prog g first cap (L.map (.int .i64)) A) {fid : FuncId} {caps : List AVal} {fn : Func} (hfid : aFunc Tryz.prog fid = some fn) (p : Int → Bool) {h : AH} (hA : ∀ h', Ext h h' → A h')
  (hc : ∀ x h', x ∈ L → Ext h h' → Runs Tryz.prog fid ([.int .i64 x] ++ caps) h' (fun en h'' => en = .ret (.bool (p x)) ∧ Ext h' h'')) :
  Runs Tryz.prog 104 [.func (.func g) first cap, .agg [.func (.func fid) [] caps]] h (fun en h' => en = .ret (.tuple [.int .i64 ((L.find? p).getD 0), .bool (L.find? p).isSome]) ∧ Ext h h') := by
 have e0 : Ext h h := Ext.refl _
 refine Runs.intro aFunc104 rfl rfl rfl rfl fun rest => ?_;apply gS;refine gR rfl ?_;refine GoR.box rfl rfl rfl rfl rfl rfl fun h0 x0 f0 => ?_;have := e0.1;replace e0 := e0.trans x0;have := f0.1;refine GoR.alloc rfl rfl rfl zt3 rfl rfl fun h1 x1 f1 => ?_;have := e0.1;have := f0.1;replace f0 := f0.ext x1;replace e0 := e0.trans x1;have := f1.1;refine GoR.alloc rfl rfl rfl zt4 rfl rfl fun h2 x2 f2 => ?_;have := e0.1;have := f1.1;have := f0.1;replace f1 := f1.ext x2;replace f0 := f0.ext x2;replace e0 := e0.trans x2;have := f2.1;apply gE;iterate 2 apply gS
 refine gR rfl ?_;refine gP ?_;apply gE;refine Go.block noJ_ok ?_
 have hb0 := f0.1
 have hb1 := f1.1
 have hb2 := f2.1
 have hx0 := e0.1
 have hn0 : h.next < h0.next := by omega
 have hn1 : h0.next < h1.next := by omega
 have eF : ∀ {hh}, ExtF (fun b => b = h0.next ∨ b = h1.next) h2 hh → Ext h hh := fun x => x.low e0 fun b q => by omega
 refine Go.rangeV (items := L.map (.int .i64)) (A := A) (fun b => b = h0.next ∨ b = h1.next) (fun j hh G => (∀ x, x ∈ L.take j → p x = false) ∧ Has hh h0.next (.cells .plain [.int .i64 0] 3) ∧ Has hh h1.next (.cells .plain [.bool false] 4) ∧ ∀ b, G b ↔ (b = h0.next ∨ b = h1.next))
  (fun c hh G => c = .ret ∧ ∃ x, L.find? p = some x ∧ Has hh h0.next (.cells .plain [.int .i64 x] 3) ∧ Has hh h1.next (.cells .plain [.bool true] 4) ∧ ∀ b, G b ↔ (b = h0.next ∨ b = h1.next))
  rfl hg Tryz.func104 it (fun h' x => hA h' (eF x)) ⟨fun x q => by simp at q, f1, f2, fun b => Iff.rfl⟩ ?_ ?_ ?_ ?_ ?_ ?_ ?_
 ·rintro k hh G b ⟨_, g1, g2, hG⟩ q
  rcases (hG b).1 q with rfl | rfl
  ·exact g1.1
  ·exact g2.1
 ·rintro c hh G b ⟨_, x, _, g1, g2, hG⟩ q
  rcases (hG b).1 q with rfl | rfl
  ·exact g1.1
  ·exact g2.1
 ·rintro k h4 h5 G ⟨q, g1, g2, hG⟩ hn hk;exact ⟨q, g1.keep hn (hk _ g1.1 (.inr ((hG _).2 (.inl rfl)))), g2.keep hn (hk _ g2.1 (.inr ((hG _).2 (.inr rfl)))), hG⟩
 ·rintro c h4 h5 G ⟨q, x, hx, g1, g2, hG⟩ hn hk;exact ⟨q, x, hx, g1.keep hn (hk _ g1.1 (.inr ((hG _).2 (.inl rfl)))), g2.keep hn (hk _ g2.1 (.inr ((hG _).2 (.inr rfl)))), hG⟩
 ·rintro j item hj;refine ⟨_, rfl, ?_⟩;rintro hh G lb r0 fr rest' Q' ⟨hno, g1, g2, hG⟩ x1 hsub hnl hlb fl hready contT contF
  obtain ⟨x, hx, rfl⟩ : ∃ x, L[j]? = some x ∧ AVal.int .i64 x = item := by
   rw [List.getElem?_map] at hj
   cases q : L[j]? with
   | none => rw [q] at hj; cases hj
   | some x => rw [q] at hj; exact ⟨x, rfl, Option.some.inj hj⟩
  have hxm := List.mem_of_getElem? hx
  have hx1 := x1.1
  have hfl := fl.1
  replace f0 := f0.extF x1 (by omega)
  have e8 := eF x1
  have hl0 : h0.next ≠ lb := by omega
  have hl1 : h1.next ≠ lb := by omega
  have y9 : ExtF (fun b => G b ∨ b = lb) hh hh := ExtF.of (Ext.refl _)
  clear e0 f1 f2;refine gR rfl ?_;refine gP ?_;apply gE;refine Go.beginRound fl hready fun h15 u15 => ?_;replace f0 := f0.upd u15 (by omega);replace g1 := g1.upd u15 hl0;replace g2 := g2.upd u15 hl1;replace fl := u15.has fl;replace y9 := y9.upd u15 (.inl (.inr rfl));replace e8 := e8.upd u15 (by omega)
  have hcx := hc x h15 hxm e8
  have hb0' := f0.1
  have hb1' := g1.1
  have hb2' := g2.1
  have hbl' := fl.1
  cases hp : p x with
  | false =>
   rw [hp] at hcx;clear e8
   have e0 : Ext h15 h15 := Ext.refl _
   obtain ⟨f1, hf1⟩ : ∃ f1, f1 = g1 := ⟨_, rfl⟩
   obtain ⟨f2, hf2⟩ : ∃ f2, f2 = g2 := ⟨_, rfl⟩
   clear hf1 hf2 g1 g2;refine Go.block noJ_ok ?_;apply gS;refine gR rfl ?_;refine gO rfl rfl (fa129_0 rfl) rfl ?_;refine gO rfl rfl (ld61 rfl f0 rfl) rfl ?_;refine gP ?_;refine GoR.call rfl rfl (aOp_callVal rfl hfid rfl) (hcx) ?_ np;rintro v16 h16 ⟨q, x16⟩;cases q;refine ⟨_, rfl, ?_⟩;replace f0 := f0.ext x16;replace fl := fl.ext x16;replace f1 := f1.ext x16;replace f2 := f2.ext x16;replace e0 := e0.trans x16;replace y9 := y9.ext x16;apply gE;refine gC (b := false) rfl ?_;refine gD ?_;refine Go.inBlock noJ_ok ?_;exact contT _ _ G ⟨take_no hx hp hno, f1, f2, hG⟩ (fun b q => .inl q) (y9) fl
  | true =>
   rw [hp] at hcx;clear e8
   have e0 : Ext h15 h15 := Ext.refl _
   have hfind : L.find? p = some x := by
    rw [List.find?_eq_some_iff_getElem]
    have hlt := (List.getElem?_eq_some_iff.1 hx).1
    have hv := (List.getElem?_eq_some_iff.1 hx).2
    exact ⟨hp, j, hlt, hv, fun k hk => by rw [hno _ (List.mem_take_iff_getElem.2 ⟨k, by omega, rfl⟩)]; rfl⟩
   obtain ⟨f1, hf1⟩ : ∃ f1, f1 = g1 := ⟨_, rfl⟩
   obtain ⟨f2, hf2⟩ : ∃ f2, f2 = g2 := ⟨_, rfl⟩
   clear hf1 hf2 g1 g2;refine Go.block noJ_ok ?_;apply gS;refine gR rfl ?_;refine gO rfl rfl (fa129_0 rfl) rfl ?_;refine gO rfl rfl (ld61 rfl f0 rfl) rfl ?_;refine gP ?_;refine GoR.call rfl rfl (aOp_callVal rfl hfid rfl) (hcx) ?_ np;rintro v16 h16 ⟨q, x16⟩;cases q;refine ⟨_, rfl, ?_⟩;replace fl := fl.ext x16;replace f1 := f1.ext x16;replace f2 := f2.ext x16;replace y9 := y9.ext x16;apply gE;refine gC (b := true) rfl ?_;apply gS;refine gR rfl ?_;refine gP ?_;refine GoR.store rfl rfl rfl rfl rfl rfl f1 rfl sz3 rfl rfl rfl fun h17 u17 => ?_;replace fl := fl.upd u17 (by omega);replace f1 := u17.has f1;replace f2 := f2.upd u17 (by omega);clear e0;refine GoR.store rfl rfl rfl rfl rfl rfl f2 rfl sz4 rfl rfl rfl fun h18 u18 => ?_;replace fl := fl.upd u18 (by omega);replace f1 := f1.upd u18 (by omega);replace f2 := u18.has f2;apply gE;exact contF _ _ _ _ G (.inl rfl) ⟨rfl, x, hfind, f1, f2, hG⟩ (fun b q => .inl q) ((y9.upd u17 (.inl (.inl ((hG _).2 (.inl rfl))))).upd u18 (.inl (.inl ((hG _).2 (.inr rfl))))) fl
 ·rintro d h30 G x30 hGs hnd hd hdd ⟨hno, g1, g2, hG⟩;rw [List.length_map, List.take_length] at hno
  have hnone : L.find? p = none := List.find?_eq_none.2 fun x hx => by rw [hno x hx]; simp
  rw [hnone]
  have e9 := eF x30
  have hx30 := x30.1
  clear e0 f0 f1 f2
  have d0 : h0.next ≠ d := fun z => hnd ((hG _).2 (.inl z.symm))
  have d1 : h1.next ≠ d := fun z => hnd ((hG _).2 (.inr z.symm))
  refine Go.inBlock noJ_ok ?_;apply gS;refine gR rfl ?_;refine gO rfl rfl (ld3 rfl g1 rfl) rfl ?_;refine GoR.store rfl rfl rfl rfl rfl rfl g1 rfl sz3 rfl rfl rfl fun h31 u31 => ?_;replace hdd := hdd.upd u31 (by omega);replace g1 := u31.has g1;replace g2 := g2.upd u31 (by omega);replace e9 := e9.upd u31 (by omega);refine GoR.store rfl rfl rfl rfl rfl rfl g2 rfl sz4 rfl rfl rfl fun h32 u32 => ?_;replace hdd := hdd.upd u32 (by omega);replace g1 := g1.upd u32 (by omega);replace g2 := u32.has g2;replace e9 := e9.upd u32 (by omega);apply gE;exact Go.retC hdd fun h9 u9 => ⟨aResult_of Tryz.func104 rfl (aResults_c rfl (g1.upd u9 d0) (inCells_one ag3 rfl) (aResults_c rfl (g2.upd u9 d1) (inCells_one ag4 rfl) rfl)), rfl, e9.upd u9 (by omega)⟩
 ·rintro c d h30 G x30 hGs hnd hd hdd ⟨rfl, x, hfind, g1, g2, hG⟩;rw [hfind]
  have e9 := eF x30
  have hx30 := x30.1
  have d0 : h0.next ≠ d := fun z => hnd ((hG _).2 (.inl z.symm))
  have d1 : h1.next ≠ d := fun z => hnd ((hG _).2 (.inr z.symm))
  exact Go.retC hdd fun h9 u9 => ⟨aResult_of Tryz.func104 rfl (aResults_c rfl (g1.upd u9 d0) (inCells_one ag3 rfl) (aResults_c rfl (g2.upd u9 d1) (inCells_one ag4 rfl) rfl)), rfl, e9.upd u9 (by omega)⟩
end Go.Proofs.YtobhkdgcciolmaaGreat

namespace Go.Proofs.YtobhkdgcciolmaaGreat
open Go Go.AbsE
set_option linter.unusedSimpArgs false
set_option maxRecDepth 100000
set_option maxHeartbeats 0
set_option linter.unusedVariables false
def anyS (C : ClampV) (k : Int) (i : Nat) (p : PV) : Bool := p.sizes.any fun f => hasB (C.canI i) (f * k)
def okK (C : ClampV) (k : Int) : Nat → List PV → Bool
 | _, [] => true
 | i, p :: ps => anyS C k i p && okK C k (i + 1) ps
theorem from_ok (C : ClampV) (k : Int) : ∀ (ps : List PV) (i : Nat), (C.from k i ps).isEmpty = !okK C k i ps
 | [], i => rfl
 | p :: ps, i => by
  have ih := from_ok C k ps (i + 1)
  rw [from_cons]
  unfold okK anyS
  cases ho : okK C k (i + 1) ps with
  | false =>
   rw [ho] at ih
   have hn : C.from k (i + 1) ps = [] := by
    cases q : C.from k (i + 1) ps with
    | nil => rfl
    | cons a l => rw [q] at ih; cases ih
   rw [hn, Bool.and_false]
   have : (p.sizes.flatMap fun f => if hasB (C.canI i) (f * k) = true then ([] : List (List Int)).map (f :: ·) else []) = [] := by
    rw [List.flatMap_eq_nil_iff]
    intro f _
    split <;> rfl
   rw [this]
   rfl
  | true =>
   rw [ho] at ih
   obtain ⟨a, l, hal⟩ : ∃ a l, C.from k (i + 1) ps = a :: l := by
    cases q : C.from k (i + 1) ps with
    | nil => rw [q] at ih; cases ih
    | cons a l => exact ⟨a, l, rfl⟩
   rw [hal, Bool.and_true]
   cases hany : p.sizes.any fun f => hasB (C.canI i) (f * k) with
   | true =>
    obtain ⟨f, hf, hh⟩ := List.any_eq_true.1 hany
    have : (f :: a) ∈ (p.sizes.flatMap fun f => if hasB (C.canI i) (f * k) = true then (a :: l).map (f :: ·) else []) := List.mem_flatMap.2 ⟨f, hf, by rw [if_pos hh]; exact List.mem_cons_self⟩
    cases q : (p.sizes.flatMap fun f => if hasB (C.canI i) (f * k) = true then (a :: l).map (f :: ·) else []) with
    | nil => rw [q] at this; cases this
    | cons b m => rfl
   | false =>
    rw [List.any_eq_false] at hany
    have : (p.sizes.flatMap fun f => if hasB (C.canI i) (f * k) = true then (a :: l).map (f :: ·) else []) = [] := by
     rw [List.flatMap_eq_nil_iff]
     intro f hf
     rw [if_neg (hany f hf)]
    rw [this]
    rfl
theorem possible_ok' (C : ClampV) : C.possible = (upto C.pl C.ph).any fun k => okK C k 0 C.ps := by
 unfold ClampV.possible ClampV.builds
 induction upto C.pl C.ph with
 | nil => rfl
 | cons k l ih =>
  have hf := from_ok C k C.ps 0
  rw [List.flatMap_cons, List.any_cons, ← ih]
  cases hk : okK C k 0 C.ps with
  | false =>
   rw [hk] at hf
   cases q : C.from k 0 C.ps with
   | nil => simp
   | cons a l => rw [q] at hf; cases hf
  | true =>
   rw [hk] at hf
   cases q : C.from k 0 C.ps with
   | nil => rw [q] at hf; cases hf
   | cons a l => simp
theorem okK_at {C : ClampV} {k : Int} : ∀ {ps : List PV} {i : Nat}, okK C k i ps = true ↔ ∀ j p, ps[j]? = some p → anyS C k (i + j) p = true
 | [], i => by simp [okK]
 | p :: ps, i => by
  unfold okK
  rw [Bool.and_eq_true, okK_at]
  constructor
  ·rintro ⟨h1, h2⟩ j q hj
   cases j with
   | zero => cases hj; exact h1
   | succ j => have := h2 j q hj; rw [show i + (j + 1) = i + 1 + j by omega]; exact this
  ·intro h
   exact ⟨h 0 p rfl, fun j q hj => by have := h (j + 1) q hj; rw [show i + (j + 1) = i + 1 + j by omega] at this; exact this⟩
theorem possible_ok {C : ClampV} (O : C.Ok) {gp ge : AVal} {h : AH} (A : YardAt h C gp ge) : Runs Tryz.prog 107 [.agg (C.cells gp ge)] h (fun en h' => en = .ret (.bool C.possible) ∧ Ext h h') := by
 have hnp := O.np
 have hkk := O.k
 have hlen := A.psl.len
 rw [List.length_map] at hlen
 have hbe := fun h A => before_ok O (gp := gp) (ge := ge) (h := h) A
 have hsm := A.same
 have hpk : slice? (C.cells gp ge) (0 + 1) 2 = some [.int .i64 C.pl, .int .i64 C.ph] := rfl
 unfold ClampV.cells at hbe hsm hpk ⊢
 have e0 : Ext h h := Ext.refl _
 refine Runs.intro aFunc107 rfl rfl rfl rfl fun rest => ?_;apply gS;refine gR rfl ?_;refine GoR.box rfl rfl rfl rfl rfl rfl fun h0 x0 f0 => ?_;have := e0.1;replace e0 := e0.trans x0;have := f0.1;refine GoR.alloc rfl rfl rfl zt4 rfl rfl fun h1 x1 f1 => ?_;have := e0.1;have := f0.1;replace f0 := f0.ext x1;replace e0 := e0.trans x1;have := f1.1;apply gE;refine Go.scope noJ_ok ?_;apply gS;refine gR rfl ?_;refine gO rfl rfl (ld74 rfl f0 rfl) rfl ?_;refine GoR.call rfl rfl (aCF aFunc119 rfl) (hbe _ (A.ext e0)) ?_ np;rintro v2 h2 ⟨q, x2⟩;cases q;refine ⟨_, rfl, ?_⟩;replace f1 := f1.ext x2;replace f0 := f0.ext x2;replace e0 := e0.trans x2;refine GoR.alloc rfl rfl rfl zt116 rfl rfl fun h3 x3 f3 => ?_;have := e0.1;have := f1.1;have := f0.1;replace f1 := f1.ext x3;replace f0 := f0.ext x3;replace e0 := e0.trans x3;have := f3.1;refine GoR.store rfl rfl rfl rfl rfl rfl f3 rfl sz116 rfl rfl rfl fun h4 u4 => ?_;replace f3 := u4.has f3;replace f1 := f1.upd u4 (by omega);replace f0 := f0.upd u4 (by omega);replace e0 := e0.upd u4 (by omega);apply gE;apply gS;refine Go.label noJ_ok ?_;iterate 2 apply gS
 refine gR rfl ?_;refine gO rfl rfl (fa74_1 rfl) rfl ?_;refine gO rfl rfl (ld71 rfl f0 hpk) rfl ?_;refine gP ?_;apply gE;refine Go.block noJ_ok ?_
 have hb0 := f0.1
 have hb1 := f1.1
 have hb3 := f3.1
 have hx0 := e0.1
 have hn1 : h.next < h0.next := by omega
 have hn2 : h0.next < h2.next := by omega
 have eF : ∀ {hh}, ExtF (fun b => b = h0.next) h4 hh → Ext h hh := fun x => x.low e0 fun b q => by omega
 have hposs := possible_ok' C
 obtain ⟨KS, hKS⟩ : ∃ KS, upto C.pl C.ph = KS := ⟨_, rfl⟩
 rw [hKS] at hposs
 refine Go.rangeN (items := intI KS) (A := fun _ => True) (fun b => b = h0.next)
  (fun j hh G => (∀ x, x ∈ KS.take j → okK C x 0 C.ps = false) ∧ Has hh h0.next (.cells .plain [.bool false] 4) ∧ ∀ b, G b ↔ b = h0.next)
  (fun c hh G => c = .ret ∧ C.possible = true ∧ Has hh h0.next (.cells .plain [.bool true] 4) ∧ ∀ b, G b ↔ b = h0.next)
  rfl aFunc124 Tryz.func107 (by rw [← hKS]; exact each124_it (a := C.pl) (b := C.ph) (by omega) (by omega)) (fun h' x => trivial) ⟨fun x q => by simp at q, f1, fun b => Iff.rfl⟩ ?_ ?_ ?_ ?_ ?_ ?_ ?_
 ·rintro k hh G b ⟨_, f, hG⟩ q
  rw [(hG b).1 q]
  exact f.1
 ·rintro c hh G b ⟨_, _, f, hG⟩ q
  rw [(hG b).1 q]
  exact f.1
 ·rintro k h4 h5 G ⟨q, f, hG⟩ hn hk;exact ⟨q, f.keep hn (hk _ f.1 (.inr ((hG _).2 rfl))), hG⟩
 ·rintro c h4 h5 G ⟨q, z, f, hG⟩ hn hk;exact ⟨q, z, f.keep hn (hk _ f.1 (.inr ((hG _).2 rfl))), hG⟩
 ·rintro j item hj
  obtain ⟨k, hkj, rfl⟩ : ∃ k, KS[j]? = some k ∧ [AVal.int .i64 k] = item := by
   unfold intI at hj
   rw [List.getElem?_map] at hj
   cases q : KS[j]? with
   | none => rw [q] at hj; cases hj
   | some x => rw [q] at hj; exact ⟨x, rfl, Option.some.inj hj⟩
  refine ⟨_, rfl, ?_⟩;rintro hh G lb r0 fr rest' Q' ⟨hno, f1, hG⟩ x1 hsub hnl hlb fl hready contT contF
  have hkm := List.mem_of_getElem? hkj
  have hkr := mem_upto.1 (hKS ▸ hkm)
  have hx1 := x1.1
  have hfl := fl.1
  replace f0 := f0.extF x1 (by omega);replace f3 := f3.extF x1 (by omega)
  have y9 : ExtF (fun b => G b ∨ b = lb) hh hh := ExtF.of (Ext.refl _)
  have e9 : Ext hh hh := Ext.refl _
  clear e0;refine gR rfl ?_;refine GoR.alloc rfl rfl rfl zt3 rfl rfl fun h5 x5 f5 => ?_;have := e9.1;have := f1.1;have := fl.1;have := f0.1;have := f3.1;replace f1 := f1.ext x5;replace fl := fl.ext x5;replace f0 := f0.ext x5;replace f3 := f3.ext x5;replace e9 := e9.trans x5;replace y9 := y9.ext x5;have := f5.1;refine GoR.store rfl rfl rfl rfl rfl rfl f5 rfl sz3 rfl rfl rfl fun h6 u6 => ?_;replace f5 := u6.has f5;replace f1 := f1.upd u6 (by omega);replace fl := fl.upd u6 (by omega);replace f0 := f0.upd u6 (by omega);replace f3 := f3.upd u6 (by omega);replace e9 := e9.upd u6 (by omega);replace y9 := y9.upd u6 (.inr (by omega));apply gE;refine Go.beginRound fl hready fun h15 u15 => ?_;replace f0 := f0.upd u15 (by omega);replace f1 := f1.upd u15 (by omega);replace f3 := f3.upd u15 (by omega);replace f5 := f5.upd u15 (by omega);replace fl := u15.has fl;replace y9 := y9.upd u15 (.inl (.inr rfl))
  have he9 := e9.1
  have hu15 := u15.1
  have GB : YardAt h15 C gp ge := A.ext (eF ⟨by omega, fun b hb hn => by rw [u15.2.2 b (by omega), e9.2 b (by omega), x1.2 b hb hn]⟩)
  clear e9
  have e0 : Ext h15 h15 := Ext.refl _
  refine Go.block noJ_ok ?_;refine Go.scope noJ_ok ?_;apply gS;refine Go.label noJ_ok ?_;iterate 2 apply gS
  refine gR rfl ?_;refine gO rfl rfl (fa74_0 rfl) rfl ?_;refine gO rfl rfl (ld22 rfl f0 rfl) rfl ?_;refine gO rfl rfl (aOp_lenSlice Tryz.underlying22 rfl hlen) rfl ?_;refine gP ?_;apply gE;refine Go.block noJ_ok ?_
  have hb0' := f0.1
  have hb1' := f1.1
  have hb3' := f3.1
  have hb5' := f5.1
  have hbl := fl.1
  have hfalse : ∀ i, i < C.ps.length → ∀ p, C.ps[i]? = some p → anyS C k i p = false → okK C k 0 C.ps = false := fun i hi p hp hz => by
   cases q : okK C k 0 C.ps with
   | false => rfl
   | true =>
    have := okK_at.1 q i p hp
    rw [Nat.zero_add, hz] at this;cases this
  have hnx : ∀ (hz : okK C k 0 C.ps = false), ∀ x, x ∈ KS.take (j + 1) → okK C x 0 C.ps = false := fun hz => take_no hkj hz hno
  refine Go.loopKeep (fun i : Nat => [(1, .ptr h.next 0), (2, .ptr h0.next 0), (3, .ptr h2.next 0), (4, .ptr hh.next 0), (15, gp), (16, .int .i64 C.ps.length), (17, .int .i64 (i : Nat))])
   (fun m i h' => m + i = C.ps.length ∧ (∀ j p, j < i → C.ps[j]? = some p → anyS C k j p = true) ∧ Ext h15 h' ∧ Has h' h2.next (.cells .plain (cellsG C.canG) 116) ∧ Has h' h0.next (.cells .plain [.bool false] 4) ∧ Has h' hh.next (.cells .plain [.int .i64 k] 3) ∧ Has h' lb (.loop { r0 with state := .busy }))
   (n := C.ps.length) 0 ⟨rfl, rfl, rfl, rfl, rfl, rfl, rfl, trivial⟩ ⟨rfl, fun j p q => by omega, e0, f3, f1, f5, fl⟩ ?_
  clear e0 f0 f1 f3 f5 fl;rintro m i hc ⟨hm, hall, e0, f3, f1, f5, fl⟩ again
  have hce := e0.1
  by_cases hi : i < C.ps.length
  ·obtain ⟨p, hp⟩ : ∃ p, C.ps[i]? = some p := ⟨C.ps[i], by simp [hi]⟩
   have hpO := O.p p (List.mem_of_getElem? hp)
   obtain ⟨bq, off, q1, q2⟩ := (GB.ext e0).psl.at (i := i) (l := PV.cells p) (by rw [List.getElem?_map, hp]; rfl)
   rw [List.length_map] at q1
   have hszk := fun h => sizes122_ok (p := p) (h := h)
   unfold PV.cells at q2 hszk
   have e9 : Ext hc hc := Ext.refl _
   apply gS;refine gR rfl ?_;refine gO rfl rfl (kLT rfl rfl) rfl ?_;apply gE;apply gS;refine gC (b := true) rfl ?_;refine gD ?_;apply gS;refine Go.block noJ_ok ?_;apply gS;refine gR rfl ?_;refine gP ?_;refine gO rfl rfl (aOp_indexAddr (i := i) Tryz.underlying22 sz58 rfl q1 rfl (Nat.ble_eq_true_of_le (by omega))) rfl ?_;refine gO rfl rfl (aOp_loadE ag58 sz58 rfl (q2.ext e9)) rfl ?_;refine GoR.alloc rfl rfl rfl zt3 rfl rfl fun h16 x16 f16 => ?_;have := e0.1;have := e9.1;have := f3.1;have := f1.1;have := f5.1;have := fl.1;replace f3 := f3.ext x16;replace f1 := f1.ext x16;replace f5 := f5.ext x16;replace fl := fl.ext x16;replace e0 := e0.trans x16;replace e9 := e9.trans x16;have := f16.1;refine GoR.alloc rfl rfl rfl zt58 rfl rfl fun h17 x17 f17 => ?_;have := e0.1;have := e9.1;have := f16.1;have := f3.1;have := f1.1;have := f5.1;have := fl.1;replace f16 := f16.ext x17;replace f3 := f3.ext x17;replace f1 := f1.ext x17;replace f5 := f5.ext x17;replace fl := fl.ext x17;replace e0 := e0.trans x17;replace e9 := e9.trans x17;have := f17.1;refine GoR.store rfl rfl rfl rfl rfl rfl f16 rfl sz3 rfl rfl rfl fun h18 u18 => ?_;replace f17 := f17.upd u18 (by omega);replace f16 := u18.has f16;replace f3 := f3.upd u18 (by omega);replace f1 := f1.upd u18 (by omega);replace f5 := f5.upd u18 (by omega);replace fl := fl.upd u18 (by omega);replace e0 := e0.upd u18 (by omega);replace e9 := e9.upd u18 (by omega);refine GoR.store rfl rfl rfl rfl rfl rfl f17 rfl sz58 rfl rfl rfl fun h19 u19 => ?_;replace f17 := u19.has f17;replace f16 := f16.upd u19 (by omega);replace f3 := f3.upd u19 (by omega);replace f1 := f1.upd u19 (by omega);replace f5 := f5.upd u19 (by omega);replace fl := fl.upd u19 (by omega);replace e0 := e0.upd u19 (by omega);replace e9 := e9.upd u19 (by omega);apply gE;iterate 2 apply gS
   refine gR rfl ?_;refine gO rfl rfl (ld58 rfl f17 rfl) rfl ?_;refine GoR.call rfl rfl (aCF aFunc122 rfl) (hszk _) ?_ (by rintro _ _ ⟨bz, q, _, hbz, SA⟩; cases q);rintro v20 h20 ⟨bz, q, x20, hbz, SA⟩;cases q;refine ⟨_, rfl, ?_⟩;have := e0.1;have := e9.1;replace f17 := f17.ext x20;replace f16 := f16.ext x20;replace f3 := f3.ext x20;replace f1 := f1.ext x20;replace f5 := f5.ext x20;replace fl := fl.ext x20;replace e0 := e0.trans x20;replace e9 := e9.trans x20;apply gE;refine Go.block noJ_ok ?_
   have hsome : ∀ {x}, ExtF (fun _ => False) h20 x → Ext h20 x := fun y => ⟨y.1, fun b hb => y.2 b hb id⟩
   have hx20 := e0.1
   have hb16 := f16.1
   refine Go.rangeNR (items := intI p.sizes) (A := SizesA p bz) (fun _ => False)
    (fun j hh G => (∀ x, x ∈ p.sizes.take j → hasB (C.canI i) (x * k) = false) ∧ ∀ b, ¬ G b)
    (fun c hh G => (c = .exit 3 ∧ anyS C k i p = true) ∧ ∀ b, ¬ G b) fl rfl aFunc138 Tryz.func107 (sizes138_it hpO bz) (fun h' x => ⟨SA.f.ext (hsome x)⟩) ⟨(by intro x hx; simp at hx), fun b q => q⟩ ?_ ?_ ?_ ?_ ?_ ?_ ?_
   ·rintro k hh G b ⟨_, hG⟩ q;exact absurd q (hG b)
   ·rintro c hh G b ⟨_, hG⟩ q;exact absurd q (hG b)
   ·rintro k h4' h5' G ⟨g, hG⟩ hn hk;exact ⟨g, hG⟩
   ·rintro c h4' h5' G ⟨g, hG⟩ hn hk;exact ⟨g, hG⟩
   ·rintro j2 item hj2
    obtain ⟨f, hf, rfl⟩ : ∃ f, p.sizes[j2]? = some f ∧ [AVal.int .i64 f] = item := by
     unfold intI at hj2
     rw [List.getElem?_map] at hj2
     cases q : p.sizes[j2]? with
     | none => rw [q] at hj2; cases hj2
     | some x => rw [q] at hj2; exact ⟨x, rfl, Option.some.inj hj2⟩
    have hfm := List.mem_of_getElem? hf
    have hfs := sizes_in hpO hfm
    refine ⟨_, rfl, ?_⟩;rintro hh2 G2 lb2 r2 fr2 rest2 Q2 ⟨hno2, hG2⟩ x2 hsub2 hnl2 hlb2 fl2 hready2 contT2 contF2
    have hx2 := x2.1
    have hfl2 := fl2.1
    have ex := hsome x2
    replace f16 := f16.ext ex;replace f3 := f3.ext ex;replace f5 := f5.ext ex
    have y8 : ExtF (fun b => G2 b ∨ b = lb2) hh2 hh2 := ExtF.of (Ext.refl _)
    clear e0 e9 f1 f17 fl y9;refine gR rfl ?_;refine gP ?_;apply gE;refine Go.beginRound fl2 hready2 fun h41 u41 => ?_;replace f16 := f16.upd u41 (by omega);replace f3 := f3.upd u41 (by omega);replace f5 := f5.upd u41 (by omega);replace fl2 := u41.has fl2;replace y8 := y8.upd u41 (.inl (.inr rfl))
    have hca := cellsG_at C.canG (i := i) (by omega)
    have hcv : C.canG i = C.canI i := by unfold ClampV.canG; rw [if_pos hi]
    rw [hcv] at hca
    have hhs := fun h => has_ok (s := C.canI i) (n := f * k) (h := h)
    have hpr := fun h bq (g : Has h bq (.cells .plain [.int .i64 f, .int .i64 k] 3)) => product2_ok (a := f) (c := k) (by omega) (by omega) g
    obtain ⟨cc, hcc⟩ : ∃ cc, cellsG C.canG = cc := ⟨_, rfl⟩
    rw [hcc] at f3 hca
    have e0 : Ext h41 h41 := Ext.refl _
    unfold spC at hca hhs
    cases hhb : hasB (C.canI i) (f * k) with
    | false =>
     rw [hhb] at hhs;refine Go.block noJ_ok ?_;apply gS;refine Go.drawnE plan107_0 ?_;refine gQ rfl rfl (ld3 rfl f16 rfl) rfl ?_;refine gQ rfl rfl (aOp_indexAddrArr (i := i) Tryz.underlying116 sz71 rfl rfl (Nat.ble_eq_true_of_le (by omega))) rfl ?_;refine gQ rfl rfl (ld71 rfl f3 hca) rfl ?_;refine gQ rfl rfl rfl rfl ?_;refine gQ rfl rfl (ld3 rfl f5 rfl) rfl ?_;refine GoE.buildSl rfl rfl (ps := [(0, .int .i64 f), (1, .int .i64 k)]) (cs := [.int .i64 f, .int .i64 k]) Tryz.underlying44 rfl sz3 zt3 rfl rfl rfl (dD 24 4 (dD 24 3 (dK 24 2 (dK 24 1 (dK 24 0 rfl))))) rfl fun h42 x42 f42 => ?_;have := e0.1;have := f16.1;have := f5.1;have := fl2.1;have := f3.1;replace f16 := f16.ext x42;replace f5 := f5.ext x42;replace fl2 := fl2.ext x42;replace f3 := f3.ext x42;replace e0 := e0.trans x42;replace y8 := y8.ext x42;have := f42.1;refine ⟨(rck (h2 := h42) rfl (ld71 rfl f3 hca) (rck (h2 := h42) rfl (aOp_indexAddrArr (i := i) Tryz.underlying116 sz71 rfl rfl (Nat.ble_eq_true_of_le (by omega))) (rck (h2 := h42) rfl (ld3 rfl f16 rfl) recheck_nil))), ?_⟩;refine GoE.call rfl rfl (aCF aFunc128 rfl) (hpr _ _ (by assumption)) (dK 56 2 (dK 56 1 (dK 56 0 rfl))) ?_ np;rintro v43 h43 ⟨q, x43⟩;cases q;replace f42 := f42.ext x43;replace f16 := f16.ext x43;replace f5 := f5.ext x43;replace fl2 := fl2.ext x43;replace f3 := f3.ext x43;replace e0 := e0.trans x43;replace y8 := y8.ext x43;refine ⟨(rck (h2 := h43) rfl (ld71 rfl f3 hca) (rck (h2 := h43) rfl (aOp_indexAddrArr (i := i) Tryz.underlying116 sz71 rfl rfl (Nat.ble_eq_true_of_le (by omega))) (rck (h2 := h43) rfl (ld3 rfl f16 rfl) recheck_nil))), _, rfl, ?_⟩;refine GoE.call rfl rfl (aCF aFunc123 rfl) (hhs _) (dD 127 2 (dD 127 1 (dD 127 0 rfl))) ?_ np;rintro v44 h44 ⟨q, x44⟩;cases q;replace f42 := f42.ext x44;replace f16 := f16.ext x44;replace f5 := f5.ext x44;replace fl2 := fl2.ext x44;replace f3 := f3.ext x44;replace e0 := e0.trans x44;replace y8 := y8.ext x44;refine ⟨recheck_nil, _, rfl, ?_⟩;refine GoE.end rfl ?_;refine gC (b := false) rfl ?_;refine gD ?_;refine Go.inBlock noJ_ok ?_;exact contT2 _ _ G2 ⟨take_no hf hhb hno2, hG2⟩ (fun b q => .inl q) y8 fl2
    | true =>
     rw [hhb] at hhs;refine Go.block noJ_ok ?_;apply gS;refine Go.drawnE plan107_0 ?_;refine gQ rfl rfl (ld3 rfl f16 rfl) rfl ?_;refine gQ rfl rfl (aOp_indexAddrArr (i := i) Tryz.underlying116 sz71 rfl rfl (Nat.ble_eq_true_of_le (by omega))) rfl ?_;refine gQ rfl rfl (ld71 rfl f3 hca) rfl ?_;refine gQ rfl rfl rfl rfl ?_;refine gQ rfl rfl (ld3 rfl f5 rfl) rfl ?_;refine GoE.buildSl rfl rfl (ps := [(0, .int .i64 f), (1, .int .i64 k)]) (cs := [.int .i64 f, .int .i64 k]) Tryz.underlying44 rfl sz3 zt3 rfl rfl rfl (dD 24 4 (dD 24 3 (dK 24 2 (dK 24 1 (dK 24 0 rfl))))) rfl fun h42 x42 f42 => ?_;have := e0.1;have := f16.1;have := f5.1;have := fl2.1;have := f3.1;replace f16 := f16.ext x42;replace f5 := f5.ext x42;replace fl2 := fl2.ext x42;replace f3 := f3.ext x42;replace e0 := e0.trans x42;replace y8 := y8.ext x42;have := f42.1;refine ⟨(rck (h2 := h42) rfl (ld71 rfl f3 hca) (rck (h2 := h42) rfl (aOp_indexAddrArr (i := i) Tryz.underlying116 sz71 rfl rfl (Nat.ble_eq_true_of_le (by omega))) (rck (h2 := h42) rfl (ld3 rfl f16 rfl) recheck_nil))), ?_⟩;refine GoE.call rfl rfl (aCF aFunc128 rfl) (hpr _ _ (by assumption)) (dK 56 2 (dK 56 1 (dK 56 0 rfl))) ?_ np;rintro v43 h43 ⟨q, x43⟩;cases q;replace f16 := f16.ext x43;replace fl2 := fl2.ext x43;replace f3 := f3.ext x43;replace y8 := y8.ext x43;refine ⟨(rck (h2 := h43) rfl (ld71 rfl f3 hca) (rck (h2 := h43) rfl (aOp_indexAddrArr (i := i) Tryz.underlying116 sz71 rfl rfl (Nat.ble_eq_true_of_le (by omega))) (rck (h2 := h43) rfl (ld3 rfl f16 rfl) recheck_nil))), _, rfl, ?_⟩;refine GoE.call rfl rfl (aCF aFunc123 rfl) (hhs _) (dD 127 2 (dD 127 1 (dD 127 0 rfl))) ?_ np;rintro v44 h44 ⟨q, x44⟩;cases q;replace fl2 := fl2.ext x44;replace y8 := y8.ext x44;refine ⟨recheck_nil, _, rfl, ?_⟩;refine GoE.end rfl ?_;refine gC (b := true) rfl ?_;exact contF2 _ _ _ _ G2 (.inr ⟨3, rfl, rfl⟩) ⟨⟨rfl, List.any_eq_true.2 ⟨f, hfm, hhb⟩⟩, hG2⟩ (fun b q => .inl q) y8 fl2
   ·rintro h30 G30 x30 hGs30 ⟨hno2, hG2⟩
    have ex := hsome x30
    rw [intI_len, List.take_length] at hno2
    have hz : anyS C k i p = false := List.any_eq_false.2 fun x hx => by rw [hno2 x hx]; decide
    replace f1 := f1.ext ex;replace fl := fl.ext ex;replace e0 := e0.trans ex;clear e9 f3 f5 f16 f17;refine Go.inBlock noJ_ok ?_;refine gD ?_;exact contT _ _ G ⟨hnx (hfalse i hi p hp hz), f1, hG⟩ (fun b q => .inl q) (y9.ext e0) fl
   ·rintro c h30 G30 x30 hGs30 ⟨⟨rfl, hany⟩, hG2⟩
    have ex := hsome x30
    replace f1 := f1.ext ex;replace f3 := f3.ext ex;replace f5 := f5.ext ex;replace fl := fl.ext ex;replace e0 := e0.trans ex;clear e9 f16 f17;refine gD ?_;refine gR rfl ?_;refine gO rfl rfl (aA rfl rfl) rfl ?_;refine gP ?_;apply gE
    exact again (m - 1) (i + 1) _ _ (by omega) ⟨rfl, rfl, rfl, rfl, rfl, rfl, rfl, trivial⟩ ⟨by omega, fun j q hjq hpj => by
     by_cases z : j = i
     ·subst z; rw [hp] at hpj; cases hpj; exact hany
     ·exact hall j q (by omega) hpj, e0, f3, f1, f5, fl⟩
  ·have hok : okK C k 0 C.ps = true := okK_at.2 fun j p hj => by
    rw [Nat.zero_add];exact hall j p (by have := (List.getElem?_eq_some_iff.1 hj).1; omega) hj
   have hpos : C.possible = true := by rw [hposs]; exact List.any_eq_true.2 ⟨k, hkm, hok⟩
   have z9 := y9.ext e0
   apply gS;refine gR rfl ?_;refine gO rfl rfl (kLF rfl rfl) rfl ?_;apply gE;apply gS;refine gC (b := false) rfl ?_;refine gD ?_;apply gS;refine gR rfl ?_;refine GoR.store rfl rfl rfl rfl rfl rfl f1 rfl sz4 rfl rfl rfl fun h16 u16 => ?_;replace f1 := u16.has f1;replace fl := fl.upd u16 (by omega);clear e0;apply gE;exact contF _ _ _ _ G (.inl rfl) ⟨rfl, hpos, f1, hG⟩ (fun b q => .inl q) (z9.upd u16 (.inl (.inl ((hG _).2 rfl)))) fl
 ·rintro d h30 G x30 hGs hnd hd hdd ⟨hno, f1, hG⟩
  have e9 := eF x30
  have hx30 := x30.1
  have hz : C.possible = false := by
   rw [intI_len, List.take_length] at hno;rw [hposs, List.any_eq_false]
   exact fun x hx => by rw [hno x hx]; decide
  rw [hz]
  have hdn : d ≠ h0.next := fun q => by omega
  clear e0 f0 f3;refine Go.inBlock noJ_ok ?_;apply gS;refine gR rfl ?_;refine GoR.store rfl rfl rfl rfl rfl rfl f1 rfl sz4 rfl rfl rfl fun h31 u31 => ?_;replace hdd := hdd.upd u31 (by omega);replace f1 := u31.has f1;replace e9 := e9.upd u31 (by omega);apply gE;exact Go.retC hdd fun h9 u9 => ⟨aResult_of Tryz.func107 rfl (aResults_cell rfl (f1.upd u9 (fun q => hdn q.symm)) (inCells_one ag4 rfl)), rfl, e9.upd u9 (by omega)⟩
 ·rintro c d h30 G x30 hGs hnd hd hdd ⟨rfl, hz, f1, hG⟩
  have e9 := eF x30
  have hx30 := x30.1
  rw [hz]
  have hdn : d ≠ h0.next := fun q => by omega
  clear e0 f0 f3;exact Go.retC hdd fun h9 u9 => ⟨aResult_of Tryz.func107 rfl (aResults_cell rfl (f1.upd u9 (fun q => hdn q.symm)) (inCells_one ag4 rfl)), rfl, e9.upd u9 (by omega)⟩
end Go.Proofs.YtobhkdgcciolmaaGreat
