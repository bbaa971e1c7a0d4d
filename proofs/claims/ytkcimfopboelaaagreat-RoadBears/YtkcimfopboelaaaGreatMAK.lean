import Derived.Test.YtkcimfopboelaaaGreatMAJ
import Derived.Test.YtkcimfopboelaaaGreatMAH
import Derived.Test.YtkcimfopboelaaaGreatMAG
namespace Go.Proofs.YtkcimfopboelaaaGreat
open Go Go.AbsE
set_option linter.unusedSimpArgs false
set_option maxRecDepth 100000
set_option maxHeartbeats 0
set_option linter.unusedVariables false
theorem grow_len {h : AH} {el : TypeId} {sz lo : Nat} {s : AVal} {n : Nat} {cs : List AVal} (k : Grow h el sz lo s n cs) : lenA s = some n := by
 rcases k.2 with ⟨rfl, rfl⟩ | ⟨_, b, _, rfl, _⟩
 ·rfl
 ·rfl
theorem flatten_at {α : Type} {f : α → List AVal} {sz : Nat} (hf : ∀ p, (f p).length = sz) {l : List α} : ∀ i v, (l.map f)[i]? = some v → slice? (l.flatMap f) (i * sz) sz = some v := fun i v q => flat_slice (f := f) (sz := sz) hf q
theorem grow_slice {α : Type} {f : α → List AVal} {sz : Nat} (hf : ∀ p, (f p).length = sz) {h : AH} {el : TypeId} {lo n : Nat} {s : AVal} {l : List α} (hn : l.length = n) (G : Grow h el sz lo s n (l.flatMap f)) : SliceOf h sz s (l.map f) := by
 subst hn
 exact Grow.sliceOf (L := l.map f) (by rw [List.length_map]; exact G) (flatten_at hf)
theorem take_flat {α β : Type} {L : List α} {i : Nat} {x : α} (f : α → List β) (hx : L[i]? = some x) : (L.take (i + 1)).flatMap f = (L.take i).flatMap f ++ f x := by
 rw [List.take_add_one, hx, Option.toList_some, List.flatMap_append]
 simp
theorem pv_len (p : PV) : (PV.cells p).length = 7 := rfl
theorem ev_len (p : EV) : (EV.cells p).length = 7 := rfl
theorem partsOf_ok {s : AVal} {L : List PV} {h : AH} (hs : SliceOf h 7 s (L.map PV.cells)) (hn : L.length ≤ 100) :
  Runs Tryz.prog 93 [s] h (fun en h' => ∃ r, en = .ret r ∧ Ext h h' ∧ Grow h' 157 7 h.next r L.length (L.flatMap PV.cells)) := by
 have hlen := hs.len
 rw [List.length_map] at hlen
 have e0 : Ext h h := Ext.refl _
 refine Runs.intro aFunc93 rfl rfl rfl rfl fun rest => ?_
 refine Go.seq noJ_ok ?_
 refine Go.region noJ_ok rfl ?_
 refine GoR.op rfl rfl rfl rfl ?_
 refine GoR.end ?_
 refine Go.seq noJ_ok ?_
 refine Go.region noJ_ok rfl ?_
 refine GoR.op rfl rfl rfl rfl ?_
 refine GoR.end ?_
 iterate 2 refine Go.seq noJ_ok ?_
 refine Go.region noJ_ok rfl ?_
 refine GoR.op rfl rfl rfl rfl ?_
 refine GoR.op rfl rfl (aOp_lenSlice Tryz.underlying22 rfl (by assumption)) rfl ?_
 refine GoR.op rfl rfl rfl rfl ?_
 refine GoR.end ?_
 refine Go.block noJ_ok ?_
 refine Go.loopKeep (fun a : Nat × AVal => [(3, a.2), (6, s), (7, .int .i64 L.length), (8, .int .i64 (a.1 : Nat))])
  (fun m a h' => m + a.1 = L.length ∧ Ext h h' ∧ Grow h' 157 7 h.next a.2 a.1 ((L.take a.1).flatMap PV.cells)) (n := L.length) (0, .nilslice) ⟨rfl, rfl, rfl, rfl, trivial⟩ ⟨rfl, e0, Grow.nil _ _ _ _⟩ ?_
 clear e0
 rintro m ⟨i, r⟩ h4 ⟨hm, e0, G⟩ again
 dsimp only at hm G ⊢
 have e9 : Ext h4 h4 := Ext.refl _
 by_cases hi' : i < L.length
 ·obtain ⟨x, hx⟩ : ∃ x, L[i]? = some x := ⟨L[i], by simp [hi']⟩
  obtain ⟨bq, off, q1, q2⟩ := hs.at (i := i) (l := PV.cells x) (by rw [List.getElem?_map, hx]; rfl)
  rw [List.length_map] at q1
  have hnx := take_flat PV.cells hx
  unfold PV.cells at q2
  refine Go.seq noJ_ok ?_
  refine Go.region noJ_ok rfl ?_
  refine GoR.op rfl rfl (aOp_lss rfl rfl (r := true) (decide_eq_true (by omega))) rfl ?_
  refine GoR.end ?_
  refine Go.seq noJ_ok ?_
  refine Go.cond noJ_ok (b := true) rfl ?_
  refine Go.code noJ_ok ?_
  refine Go.seq noJ_ok ?_
  refine Go.block noJ_ok ?_
  refine Go.seq noJ_ok ?_
  refine Go.region noJ_ok rfl ?_
  refine GoR.op rfl rfl (aOp_indexAddr (i := i) Tryz.underlying22 sz58 rfl (by assumption) rfl (Nat.ble_eq_true_of_le (by omega))) rfl ?_
  refine GoR.op rfl rfl (aOp_loadE ag58 sz58 rfl (q2.ext (by assumption))) rfl ?_
  refine GoR.alloc rfl rfl rfl zt58 rfl rfl fun h5 x5 f5 => ?_
  have := e0.1
  have := e9.1
  replace e0 := e0.trans x5
  replace e9 := e9.trans x5
  have := f5.1
  refine GoR.store rfl rfl rfl rfl rfl rfl f5 rfl sz58 rfl rfl rfl fun h6 u6 => ?_
  replace f5 := u6.has f5
  replace e0 := e0.upd u6 (by omega)
  replace e9 := e9.upd u6 (by omega)
  refine GoR.end ?_
  refine Go.region noJ_ok rfl ?_
  refine GoR.op rfl rfl rfl rfl ?_
  refine GoR.op rfl rfl (ld58 rfl f5 rfl) rfl ?_
  refine GoR.buildSl rfl rfl (ps := [(0, .agg x.cells)]) (cs := x.cells) Tryz.underlying74 rfl sz157 zt157 rfl rfl rfl rfl fun h7 x7 f7 => ?_
  have := e0.1
  have := e9.1
  have := f5.1
  replace f5 := f5.ext x7
  replace e0 := e0.trans x7
  replace e9 := e9.trans x7
  have := f7.1
  refine GoR.append1F rfl rfl rfl Tryz.underlying74 Tryz.underlying74 sz157 by157 zt157 rfl rfl rfl rfl f7 rfl rfl (G.ext e9) (by omega) rfl rfl fun s8 h8 y8 g8 => ?_
  have := f7.1
  have := f5.1
  have := e0.1
  have := e9.1
  clear f7
  clear f5
  replace e0 := y8.low e0 (fun b q => by have := (grow_own (G.ext e9) q).1; omega)
  clear e9
  have := y8.1
  refine GoR.op rfl rfl rfl rfl ?_
  refine GoR.end ?_
  refine Go.inBlock noJ_ok ?_
  refine Go.region noJ_ok rfl ?_
  refine GoR.op rfl rfl (aOp_add rfl rfl (by constructor <;> omega) rfl) rfl ?_
  refine GoR.op rfl rfl rfl rfl ?_
  refine GoR.end ?_
  exact again (m - 1) (i + 1, s8) _ _ (by omega) ⟨rfl, rfl, rfl, rfl, trivial⟩ ⟨by dsimp only; omega, e0, by dsimp only; rw [hnx]; exact g8.low (by have := e0.1; omega)⟩
 ·have hin : i = L.length := by omega
  rw [hin, List.take_length] at G
  refine Go.seq noJ_ok ?_
  refine Go.region noJ_ok rfl ?_
  refine GoR.op rfl rfl (aOp_lss rfl rfl (r := false) (decide_eq_false (by omega))) rfl ?_
  refine GoR.end ?_
  refine Go.seq noJ_ok ?_
  refine Go.cond noJ_ok (b := false) rfl ?_
  refine Go.code noJ_ok ?_
  refine Go.seq noJ_ok ?_
  refine Go.region noJ_ok rfl ?_
  iterate 2 refine GoR.op rfl rfl rfl rfl ?_
  refine GoR.end ?_
  exact Go.ret noJ_ok (ret_end (aResult_of Tryz.func93 rfl rfl) ⟨_, rfl, e0, G⟩)
def evC (e : EV) : AVal := if e.kind = 0 then .iface 162 (.agg [.int .i64 e.ll, .int .i64 e.lh]) else if e.kind = 1 then .iface 164 (.agg [.int .i64 e.days]) else .iface 166 (.agg [.int .i64 0, .int .i64 e.part, .int .i64 e.wl, .int .i64 e.wh])
theorem eventsOf_ok {s : AVal} {L : List EV} {h : AH} (hs : SliceOf h 7 s (L.map EV.cells)) (hn : L.length ≤ 100) (hk : ∀ e, e ∈ L → e.kind = 0 ∨ e.kind = 1 ∨ e.kind = 2) :
  Runs Tryz.prog 94 [s] h (fun en h' => ∃ r, en = .ret r ∧ Ext h h' ∧ Grow h' 169 1 h.next r L.length (L.flatMap fun e => [evC e])) := by
 have hlen := hs.len
 rw [List.length_map] at hlen
 have e0 : Ext h h := Ext.refl _
 refine Runs.intro aFunc94 rfl rfl rfl rfl fun rest => ?_
 refine Go.seq noJ_ok ?_
 refine Go.region noJ_ok rfl ?_
 refine GoR.op rfl rfl rfl rfl ?_
 refine GoR.end ?_
 refine Go.seq noJ_ok ?_
 refine Go.region noJ_ok rfl ?_
 refine GoR.op rfl rfl rfl rfl ?_
 refine GoR.end ?_
 iterate 2 refine Go.seq noJ_ok ?_
 refine Go.region noJ_ok rfl ?_
 refine GoR.op rfl rfl rfl rfl ?_
 refine GoR.op rfl rfl (aOp_lenSlice Tryz.underlying23 rfl (by assumption)) rfl ?_
 refine GoR.op rfl rfl rfl rfl ?_
 refine GoR.end ?_
 refine Go.block noJ_ok ?_
 refine Go.loopKeep (fun a : Nat × AVal => [(3, a.2), (6, s), (7, .int .i64 L.length), (8, .int .i64 (a.1 : Nat))])
  (fun m a h' => m + a.1 = L.length ∧ Ext h h' ∧ Grow h' 169 1 h.next a.2 a.1 ((L.take a.1).flatMap fun e => [evC e])) (n := L.length) (0, .nilslice) ⟨rfl, rfl, rfl, rfl, trivial⟩ ⟨rfl, e0, Grow.nil _ _ _ _⟩ ?_
 clear e0
 rintro m ⟨i, r⟩ h4 ⟨hm, e0, G⟩ again
 dsimp only at hm G ⊢
 have e9 : Ext h4 h4 := Ext.refl _
 by_cases hi' : i < L.length
 ·obtain ⟨x, hx⟩ : ∃ x, L[i]? = some x := ⟨L[i], by simp [hi']⟩
  obtain ⟨bq, off, q1, q2⟩ := hs.at (i := i) (l := EV.cells x) (by rw [List.getElem?_map, hx]; rfl)
  rw [List.length_map] at q1
  have hnx := take_flat (fun e => [evC e]) hx
  have hkx := hk x (List.mem_of_getElem? hx)
  unfold EV.cells at q2
  by_cases k0 : x.kind = 0
  ·have hv : evC x = .iface 162 (.agg [.int .i64 x.ll, .int .i64 x.lh]) := if_pos k0
   rw [hv] at hnx
   refine Go.seq noJ_ok ?_
   refine Go.region noJ_ok rfl ?_
   refine GoR.op rfl rfl (aOp_lss rfl rfl (r := true) (decide_eq_true (by omega))) rfl ?_
   refine GoR.end ?_
   refine Go.seq noJ_ok ?_
   refine Go.cond noJ_ok (b := true) rfl ?_
   refine Go.code noJ_ok ?_
   refine Go.seq noJ_ok ?_
   refine Go.block noJ_ok ?_
   refine Go.seq noJ_ok ?_
   refine Go.region noJ_ok rfl ?_
   refine GoR.op rfl rfl (aOp_indexAddr (i := i) Tryz.underlying23 sz62 rfl (by assumption) rfl (Nat.ble_eq_true_of_le (by omega))) rfl ?_
   refine GoR.op rfl rfl (aOp_loadE ag62 sz62 rfl (q2.ext (by assumption))) rfl ?_
   refine GoR.alloc rfl rfl rfl zt62 rfl rfl fun h5 x5 f5 => ?_
   have := e0.1
   have := e9.1
   replace e0 := e0.trans x5
   replace e9 := e9.trans x5
   have := f5.1
   refine GoR.store rfl rfl rfl rfl rfl rfl f5 rfl sz62 rfl rfl rfl fun h6 u6 => ?_
   replace f5 := u6.has f5
   replace e0 := e0.upd u6 (by omega)
   replace e9 := e9.upd u6 (by omega)
   refine GoR.end ?_
   refine Go.seq noJ_ok ?_
   refine Go.region noJ_ok rfl ?_
   refine GoR.op rfl rfl (fa62_0 rfl) rfl ?_
   refine GoR.op rfl rfl (ld3 rfl f5 rfl) rfl ?_
   refine GoR.end ?_
   refine Go.block noJ_ok ?_
   refine Go.seq noJ_ok ?_
   refine Go.region noJ_ok rfl ?_
   refine GoR.op rfl rfl (aOp_eql rfl rfl (r := true) (decide_eq_true (by omega))) rfl ?_
   refine GoR.op rfl rfl rfl rfl ?_
   refine GoR.end ?_
   refine Go.cond noJ_ok (b := true) rfl ?_
   refine Go.region noJ_ok rfl ?_
   refine GoR.op rfl rfl rfl rfl ?_
   refine GoR.op rfl rfl (fa62_1 rfl) rfl ?_
   refine GoR.op rfl rfl (ld29 rfl f5 rfl) rfl ?_
   refine GoR.op rfl rfl (aOp_build zt162 hu162 pl162 rfl rfl) rfl ?_
   refine GoR.op rfl rfl rfl rfl ?_
   refine GoR.buildSl rfl rfl (ps := [(0, .iface 162 (.agg [.int .i64 x.ll, .int .i64 x.lh]))]) (cs := [.iface 162 (.agg [.int .i64 x.ll, .int .i64 x.lh])]) Tryz.underlying75 rfl sz169 zt169 rfl rfl rfl rfl fun h7 x7 f7 => ?_
   have := e0.1
   have := e9.1
   have := f5.1
   replace f5 := f5.ext x7
   replace e0 := e0.trans x7
   replace e9 := e9.trans x7
   have := f7.1
   refine GoR.append1F rfl rfl rfl Tryz.underlying75 Tryz.underlying75 sz169 by169 zt169 rfl rfl rfl rfl f7 rfl rfl (G.ext e9) (by omega) rfl rfl fun s8 h8 y8 g8 => ?_
   have := f7.1
   have := f5.1
   have := e0.1
   have := e9.1
   clear f7
   clear f5
   replace e0 := y8.low e0 (fun b q => by have := (grow_own (G.ext e9) q).1; omega)
   clear e9
   have := y8.1
   refine GoR.op rfl rfl rfl rfl ?_
   refine GoR.end ?_
   iterate 2 refine Go.inBlock noJ_ok ?_
   refine Go.region noJ_ok rfl ?_
   refine GoR.op rfl rfl (aOp_add rfl rfl (by constructor <;> omega) rfl) rfl ?_
   refine GoR.op rfl rfl rfl rfl ?_
   refine GoR.end ?_
   exact again (m - 1) (i + 1, s8) _ _ (by omega) ⟨rfl, rfl, rfl, rfl, trivial⟩ ⟨by dsimp only; omega, e0, by dsimp only; rw [hnx]; exact g8.low (by have := e0.1; omega)⟩
  ·by_cases k1 : x.kind = 1
   ·have hv : evC x = .iface 164 (.agg [.int .i64 x.days]) := by unfold evC; rw [if_neg k0, if_pos k1]
    rw [hv] at hnx
    refine Go.seq noJ_ok ?_
    refine Go.region noJ_ok rfl ?_
    refine GoR.op rfl rfl (aOp_lss rfl rfl (r := true) (decide_eq_true (by omega))) rfl ?_
    refine GoR.end ?_
    refine Go.seq noJ_ok ?_
    refine Go.cond noJ_ok (b := true) rfl ?_
    refine Go.code noJ_ok ?_
    refine Go.seq noJ_ok ?_
    refine Go.block noJ_ok ?_
    refine Go.seq noJ_ok ?_
    refine Go.region noJ_ok rfl ?_
    refine GoR.op rfl rfl (aOp_indexAddr (i := i) Tryz.underlying23 sz62 rfl (by assumption) rfl (Nat.ble_eq_true_of_le (by omega))) rfl ?_
    refine GoR.op rfl rfl (aOp_loadE ag62 sz62 rfl (q2.ext (by assumption))) rfl ?_
    refine GoR.alloc rfl rfl rfl zt62 rfl rfl fun h5 x5 f5 => ?_
    have := e0.1
    have := e9.1
    replace e0 := e0.trans x5
    replace e9 := e9.trans x5
    have := f5.1
    refine GoR.store rfl rfl rfl rfl rfl rfl f5 rfl sz62 rfl rfl rfl fun h6 u6 => ?_
    replace f5 := u6.has f5
    replace e0 := e0.upd u6 (by omega)
    replace e9 := e9.upd u6 (by omega)
    refine GoR.end ?_
    refine Go.seq noJ_ok ?_
    refine Go.region noJ_ok rfl ?_
    refine GoR.op rfl rfl (fa62_0 rfl) rfl ?_
    refine GoR.op rfl rfl (ld3 rfl f5 rfl) rfl ?_
    refine GoR.end ?_
    refine Go.block noJ_ok ?_
    refine Go.seq noJ_ok ?_
    refine Go.region noJ_ok rfl ?_
    refine GoR.op rfl rfl (aOp_eql rfl rfl (r := false) (decide_eq_false (by omega))) rfl ?_
    refine GoR.op rfl rfl rfl rfl ?_
    refine GoR.end ?_
    refine Go.cond noJ_ok (b := false) rfl ?_
    refine Go.seq noJ_ok ?_
    refine Go.region noJ_ok rfl ?_
    refine GoR.op rfl rfl (aOp_eql rfl rfl (r := true) (decide_eq_true (by omega))) rfl ?_
    refine GoR.op rfl rfl rfl rfl ?_
    refine GoR.end ?_
    refine Go.cond noJ_ok (b := true) rfl ?_
    refine Go.region noJ_ok rfl ?_
    refine GoR.op rfl rfl rfl rfl ?_
    refine GoR.op rfl rfl (fa62_2 rfl) rfl ?_
    refine GoR.op rfl rfl (ld3 rfl f5 rfl) rfl ?_
    refine GoR.op rfl rfl (aOp_build zt164 hu164 pl164 rfl rfl) rfl ?_
    refine GoR.op rfl rfl rfl rfl ?_
    refine GoR.buildSl rfl rfl (ps := [(0, .iface 164 (.agg [.int .i64 x.days]))]) (cs := [.iface 164 (.agg [.int .i64 x.days])]) Tryz.underlying75 rfl sz169 zt169 rfl rfl rfl rfl fun h7 x7 f7 => ?_
    have := e0.1
    have := e9.1
    have := f5.1
    replace f5 := f5.ext x7
    replace e0 := e0.trans x7
    replace e9 := e9.trans x7
    have := f7.1
    refine GoR.append1F rfl rfl rfl Tryz.underlying75 Tryz.underlying75 sz169 by169 zt169 rfl rfl rfl rfl f7 rfl rfl (G.ext e9) (by omega) rfl rfl fun s8 h8 y8 g8 => ?_
    have := f7.1
    have := f5.1
    have := e0.1
    have := e9.1
    clear f7
    clear f5
    replace e0 := y8.low e0 (fun b q => by have := (grow_own (G.ext e9) q).1; omega)
    clear e9
    have := y8.1
    refine GoR.op rfl rfl rfl rfl ?_
    refine GoR.end ?_
    iterate 2 refine Go.inBlock noJ_ok ?_
    refine Go.region noJ_ok rfl ?_
    refine GoR.op rfl rfl (aOp_add rfl rfl (by constructor <;> omega) rfl) rfl ?_
    refine GoR.op rfl rfl rfl rfl ?_
    refine GoR.end ?_
    exact again (m - 1) (i + 1, s8) _ _ (by omega) ⟨rfl, rfl, rfl, rfl, trivial⟩ ⟨by dsimp only; omega, e0, by dsimp only; rw [hnx]; exact g8.low (by have := e0.1; omega)⟩
   ·have k2 : x.kind = 2 := by omega
    have hv : evC x = .iface 166 (.agg [.int .i64 0, .int .i64 x.part, .int .i64 x.wl, .int .i64 x.wh]) := by unfold evC; rw [if_neg k0, if_neg k1]
    rw [hv] at hnx
    refine Go.seq noJ_ok ?_
    refine Go.region noJ_ok rfl ?_
    refine GoR.op rfl rfl (aOp_lss rfl rfl (r := true) (decide_eq_true (by omega))) rfl ?_
    refine GoR.end ?_
    refine Go.seq noJ_ok ?_
    refine Go.cond noJ_ok (b := true) rfl ?_
    refine Go.code noJ_ok ?_
    refine Go.seq noJ_ok ?_
    refine Go.block noJ_ok ?_
    refine Go.seq noJ_ok ?_
    refine Go.region noJ_ok rfl ?_
    refine GoR.op rfl rfl (aOp_indexAddr (i := i) Tryz.underlying23 sz62 rfl (by assumption) rfl (Nat.ble_eq_true_of_le (by omega))) rfl ?_
    refine GoR.op rfl rfl (aOp_loadE ag62 sz62 rfl (q2.ext (by assumption))) rfl ?_
    refine GoR.alloc rfl rfl rfl zt62 rfl rfl fun h5 x5 f5 => ?_
    have := e0.1
    have := e9.1
    replace e0 := e0.trans x5
    replace e9 := e9.trans x5
    have := f5.1
    refine GoR.store rfl rfl rfl rfl rfl rfl f5 rfl sz62 rfl rfl rfl fun h6 u6 => ?_
    replace f5 := u6.has f5
    replace e0 := e0.upd u6 (by omega)
    replace e9 := e9.upd u6 (by omega)
    refine GoR.end ?_
    refine Go.seq noJ_ok ?_
    refine Go.region noJ_ok rfl ?_
    refine GoR.op rfl rfl (fa62_0 rfl) rfl ?_
    refine GoR.op rfl rfl (ld3 rfl f5 rfl) rfl ?_
    refine GoR.end ?_
    refine Go.block noJ_ok ?_
    refine Go.seq noJ_ok ?_
    refine Go.region noJ_ok rfl ?_
    refine GoR.op rfl rfl (aOp_eql rfl rfl (r := false) (decide_eq_false (by omega))) rfl ?_
    refine GoR.op rfl rfl rfl rfl ?_
    refine GoR.end ?_
    refine Go.cond noJ_ok (b := false) rfl ?_
    refine Go.seq noJ_ok ?_
    refine Go.region noJ_ok rfl ?_
    refine GoR.op rfl rfl (aOp_eql rfl rfl (r := false) (decide_eq_false (by omega))) rfl ?_
    refine GoR.op rfl rfl rfl rfl ?_
    refine GoR.end ?_
    refine Go.cond noJ_ok (b := false) rfl ?_
    refine Go.seq noJ_ok ?_
    refine Go.region noJ_ok rfl ?_
    refine GoR.op rfl rfl (aOp_eql rfl rfl (r := true) (decide_eq_true (by omega))) rfl ?_
    refine GoR.op rfl rfl rfl rfl ?_
    refine GoR.end ?_
    refine Go.cond noJ_ok (b := true) rfl ?_
    refine Go.region noJ_ok rfl ?_
    refine GoR.op rfl rfl rfl rfl ?_
    refine GoR.op rfl rfl (fa62_3 rfl) rfl ?_
    refine GoR.op rfl rfl (ld3 rfl f5 rfl) rfl ?_
    refine GoR.op rfl rfl (fa62_4 rfl) rfl ?_
    refine GoR.op rfl rfl (ld29 rfl f5 rfl) rfl ?_
    refine GoR.op rfl rfl (aOp_build (ps := [(1, .int .i64 x.part), (2, .agg [.int .i64 x.wl, .int .i64 x.wh])]) (cs := [.int .i64 0, .int .i64 x.part, .int .i64 x.wl, .int .i64 x.wh]) zt166 hu166 pl166 rfl rfl) rfl ?_
    refine GoR.op rfl rfl rfl rfl ?_
    refine GoR.buildSl rfl rfl (ps := [(0, .iface 166 (.agg [.int .i64 0, .int .i64 x.part, .int .i64 x.wl, .int .i64 x.wh]))]) (cs := [.iface 166 (.agg [.int .i64 0, .int .i64 x.part, .int .i64 x.wl, .int .i64 x.wh])]) Tryz.underlying75 rfl sz169 zt169 rfl rfl rfl rfl fun h7 x7 f7 => ?_
    have := e0.1
    have := e9.1
    have := f5.1
    replace f5 := f5.ext x7
    replace e0 := e0.trans x7
    replace e9 := e9.trans x7
    have := f7.1
    refine GoR.append1F rfl rfl rfl Tryz.underlying75 Tryz.underlying75 sz169 by169 zt169 rfl rfl rfl rfl f7 rfl rfl (G.ext e9) (by omega) rfl rfl fun s8 h8 y8 g8 => ?_
    have := f7.1
    have := f5.1
    have := e0.1
    have := e9.1
    clear f7
    clear f5
    replace e0 := y8.low e0 (fun b q => by have := (grow_own (G.ext e9) q).1; omega)
    clear e9
    have := y8.1
    refine GoR.op rfl rfl rfl rfl ?_
    refine GoR.end ?_
    iterate 2 refine Go.inBlock noJ_ok ?_
    refine Go.region noJ_ok rfl ?_
    refine GoR.op rfl rfl (aOp_add rfl rfl (by constructor <;> omega) rfl) rfl ?_
    refine GoR.op rfl rfl rfl rfl ?_
    refine GoR.end ?_
    exact again (m - 1) (i + 1, s8) _ _ (by omega) ⟨rfl, rfl, rfl, rfl, trivial⟩ ⟨by dsimp only; omega, e0, by dsimp only; rw [hnx]; exact g8.low (by have := e0.1; omega)⟩
 ·have hin : i = L.length := by omega
  rw [hin, List.take_length] at G
  refine Go.seq noJ_ok ?_
  refine Go.region noJ_ok rfl ?_
  refine GoR.op rfl rfl (aOp_lss rfl rfl (r := false) (decide_eq_false (by omega))) rfl ?_
  refine GoR.end ?_
  refine Go.seq noJ_ok ?_
  refine Go.cond noJ_ok (b := false) rfl ?_
  refine Go.code noJ_ok ?_
  refine Go.seq noJ_ok ?_
  refine Go.region noJ_ok rfl ?_
  iterate 2 refine GoR.op rfl rfl rfl rfl ?_
  refine GoR.end ?_
  exact Go.ret noJ_ok (ret_end (aResult_of Tryz.func94 rfl rfl) ⟨_, rfl, e0, G⟩)
theorem bad_ok (p : PV) (h : AH) : Runs Tryz.prog 130 [.agg (PV.cells p)] h (fun en h' => en = .ret (.bool (!decide p.Ok)) ∧ Ext h h') := by
 unfold PV.cells
 by_cases h1 : 0 ≤ p.full ∧ p.full ≤ 60
 ·by_cases h2 : 0 ≤ p.hl ∧ p.hl ≤ p.hh ∧ p.hh ≤ p.full ∧ p.hh - p.hl ≤ 2
  ·by_cases h3 : 1 ≤ p.sl ∧ p.sl ≤ p.sh ∧ p.sh ≤ 10 ∧ p.sh - p.sl ≤ 2
   ·by_cases h4 : 0 ≤ p.rl ∧ p.rl ≤ p.rh ∧ p.rh ≤ 5 ∧ p.rh - p.rl ≤ 2
    ·rw [show decide p.Ok = true from decide_eq_true ⟨h1, h2, h3, h4⟩]
     have e0 : Ext h h := Ext.refl _
     refine Runs.intro aFunc130 rfl rfl rfl rfl fun rest => ?_
     refine Go.seq noJ_ok ?_
     refine Go.region noJ_ok rfl ?_
     refine GoR.box rfl rfl rfl rfl rfl rfl fun h5 x5 f5 => ?_
     replace e0 := e0.trans x5
     refine GoR.op rfl rfl rfl rfl ?_
     refine GoR.end ?_
     refine Go.seq noJ_ok ?_
     refine Go.region noJ_ok rfl ?_
     refine GoR.op rfl rfl (fa157_3 rfl) rfl ?_
     refine GoR.op rfl rfl (ld3 rfl f5 rfl) rfl ?_
     refine GoR.call rfl rfl (aOp_callFunc aFunc95 rfl) (inside_is (r := true) (decide_eq_true h1)) ?_ (by rintro _ _ ⟨q, _⟩; cases q)
     rintro v6 h6 ⟨q, x6⟩
     cases q
     refine ⟨_, rfl, ?_⟩
     replace f5 := f5.ext x6
     replace e0 := e0.trans x6
     iterate 2 refine GoR.op rfl rfl rfl rfl ?_
     refine GoR.op rfl rfl (fa157_0 rfl) rfl ?_
     refine GoR.op rfl rfl (ld29 rfl f5 rfl) rfl ?_
     refine GoR.op rfl rfl (fa157_3 rfl) rfl ?_
     refine GoR.op rfl rfl (ld3 rfl f5 rfl) rfl ?_
     refine GoR.call rfl rfl (aOp_callFunc aFunc151 rfl) (narrow_is (by omega) (by omega) (r := true) (decide_eq_true h2)) ?_ (by rintro _ _ ⟨q, _⟩; cases q)
     rintro v7 h7 ⟨q, x7⟩
     cases q
     refine ⟨_, rfl, ?_⟩
     replace f5 := f5.ext x7
     replace e0 := e0.trans x7
     iterate 3 refine GoR.op rfl rfl rfl rfl ?_
     refine GoR.op rfl rfl (fa157_1 rfl) rfl ?_
     refine GoR.op rfl rfl (ld29 rfl f5 rfl) rfl ?_
     refine GoR.call rfl rfl (aOp_callFunc aFunc151 rfl) (narrow_is (by omega) (by omega) (r := true) (decide_eq_true h3)) ?_ (by rintro _ _ ⟨q, _⟩; cases q)
     rintro v8 h8 ⟨q, x8⟩
     cases q
     refine ⟨_, rfl, ?_⟩
     replace f5 := f5.ext x8
     replace e0 := e0.trans x8
     iterate 3 refine GoR.op rfl rfl rfl rfl ?_
     refine GoR.op rfl rfl (fa157_2 rfl) rfl ?_
     refine GoR.op rfl rfl (ld29 rfl f5 rfl) rfl ?_
     refine GoR.call rfl rfl (aOp_callFunc aFunc151 rfl) (narrow_is (by omega) (by omega) (r := true) (decide_eq_true h4)) ?_ (by rintro _ _ ⟨q, _⟩; cases q)
     rintro v9 h9 ⟨q, x9⟩
     cases q
     refine ⟨_, rfl, ?_⟩
     replace e0 := e0.trans x9
     iterate 3 refine GoR.op rfl rfl rfl rfl ?_
     refine GoR.end ?_
     exact Go.ret noJ_ok (ret_end (aResult_of Tryz.func130 rfl rfl) ⟨rfl, e0⟩)
    ·rw [show decide p.Ok = false from decide_eq_false (fun q => h4 q.2.2.2)]
     have e0 : Ext h h := Ext.refl _
     refine Runs.intro aFunc130 rfl rfl rfl rfl fun rest => ?_
     refine Go.seq noJ_ok ?_
     refine Go.region noJ_ok rfl ?_
     refine GoR.box rfl rfl rfl rfl rfl rfl fun h5 x5 f5 => ?_
     replace e0 := e0.trans x5
     refine GoR.op rfl rfl rfl rfl ?_
     refine GoR.end ?_
     refine Go.seq noJ_ok ?_
     refine Go.region noJ_ok rfl ?_
     refine GoR.op rfl rfl (fa157_3 rfl) rfl ?_
     refine GoR.op rfl rfl (ld3 rfl f5 rfl) rfl ?_
     refine GoR.call rfl rfl (aOp_callFunc aFunc95 rfl) (inside_is (r := true) (decide_eq_true h1)) ?_ (by rintro _ _ ⟨q, _⟩; cases q)
     rintro v6 h6 ⟨q, x6⟩
     cases q
     refine ⟨_, rfl, ?_⟩
     replace f5 := f5.ext x6
     replace e0 := e0.trans x6
     iterate 2 refine GoR.op rfl rfl rfl rfl ?_
     refine GoR.op rfl rfl (fa157_0 rfl) rfl ?_
     refine GoR.op rfl rfl (ld29 rfl f5 rfl) rfl ?_
     refine GoR.op rfl rfl (fa157_3 rfl) rfl ?_
     refine GoR.op rfl rfl (ld3 rfl f5 rfl) rfl ?_
     refine GoR.call rfl rfl (aOp_callFunc aFunc151 rfl) (narrow_is (by omega) (by omega) (r := true) (decide_eq_true h2)) ?_ (by rintro _ _ ⟨q, _⟩; cases q)
     rintro v7 h7 ⟨q, x7⟩
     cases q
     refine ⟨_, rfl, ?_⟩
     replace f5 := f5.ext x7
     replace e0 := e0.trans x7
     iterate 3 refine GoR.op rfl rfl rfl rfl ?_
     refine GoR.op rfl rfl (fa157_1 rfl) rfl ?_
     refine GoR.op rfl rfl (ld29 rfl f5 rfl) rfl ?_
     refine GoR.call rfl rfl (aOp_callFunc aFunc151 rfl) (narrow_is (by omega) (by omega) (r := true) (decide_eq_true h3)) ?_ (by rintro _ _ ⟨q, _⟩; cases q)
     rintro v8 h8 ⟨q, x8⟩
     cases q
     refine ⟨_, rfl, ?_⟩
     replace f5 := f5.ext x8
     replace e0 := e0.trans x8
     iterate 3 refine GoR.op rfl rfl rfl rfl ?_
     refine GoR.op rfl rfl (fa157_2 rfl) rfl ?_
     refine GoR.op rfl rfl (ld29 rfl f5 rfl) rfl ?_
     refine GoR.call rfl rfl (aOp_callFunc aFunc151 rfl) (narrow_is (by omega) (by omega) (r := false) (decide_eq_false h4)) ?_ (by rintro _ _ ⟨q, _⟩; cases q)
     rintro v9 h9 ⟨q, x9⟩
     cases q
     refine ⟨_, rfl, ?_⟩
     replace e0 := e0.trans x9
     iterate 3 refine GoR.op rfl rfl rfl rfl ?_
     refine GoR.end ?_
     exact Go.ret noJ_ok (ret_end (aResult_of Tryz.func130 rfl rfl) ⟨rfl, e0⟩)
   ·rw [show decide p.Ok = false from decide_eq_false (fun q => h3 q.2.2.1)]
    have e0 : Ext h h := Ext.refl _
    refine Runs.intro aFunc130 rfl rfl rfl rfl fun rest => ?_
    refine Go.seq noJ_ok ?_
    refine Go.region noJ_ok rfl ?_
    refine GoR.box rfl rfl rfl rfl rfl rfl fun h4 x4 f4 => ?_
    replace e0 := e0.trans x4
    refine GoR.op rfl rfl rfl rfl ?_
    refine GoR.end ?_
    refine Go.seq noJ_ok ?_
    refine Go.region noJ_ok rfl ?_
    refine GoR.op rfl rfl (fa157_3 rfl) rfl ?_
    refine GoR.op rfl rfl (ld3 rfl f4 rfl) rfl ?_
    refine GoR.call rfl rfl (aOp_callFunc aFunc95 rfl) (inside_is (r := true) (decide_eq_true h1)) ?_ (by rintro _ _ ⟨q, _⟩; cases q)
    rintro v5 h5 ⟨q, x5⟩
    cases q
    refine ⟨_, rfl, ?_⟩
    replace f4 := f4.ext x5
    replace e0 := e0.trans x5
    iterate 2 refine GoR.op rfl rfl rfl rfl ?_
    refine GoR.op rfl rfl (fa157_0 rfl) rfl ?_
    refine GoR.op rfl rfl (ld29 rfl f4 rfl) rfl ?_
    refine GoR.op rfl rfl (fa157_3 rfl) rfl ?_
    refine GoR.op rfl rfl (ld3 rfl f4 rfl) rfl ?_
    refine GoR.call rfl rfl (aOp_callFunc aFunc151 rfl) (narrow_is (by omega) (by omega) (r := true) (decide_eq_true h2)) ?_ (by rintro _ _ ⟨q, _⟩; cases q)
    rintro v6 h6 ⟨q, x6⟩
    cases q
    refine ⟨_, rfl, ?_⟩
    replace f4 := f4.ext x6
    replace e0 := e0.trans x6
    iterate 3 refine GoR.op rfl rfl rfl rfl ?_
    refine GoR.op rfl rfl (fa157_1 rfl) rfl ?_
    refine GoR.op rfl rfl (ld29 rfl f4 rfl) rfl ?_
    refine GoR.call rfl rfl (aOp_callFunc aFunc151 rfl) (narrow_is (by omega) (by omega) (r := false) (decide_eq_false h3)) ?_ (by rintro _ _ ⟨q, _⟩; cases q)
    rintro v7 h7 ⟨q, x7⟩
    cases q
    refine ⟨_, rfl, ?_⟩
    replace e0 := e0.trans x7
    iterate 3 refine GoR.op rfl rfl rfl rfl ?_
    iterate 4 refine GoR.skip rfl rfl rfl ?_
    iterate 2 refine GoR.op rfl rfl rfl rfl ?_
    refine GoR.end ?_
    exact Go.ret noJ_ok (ret_end (aResult_of Tryz.func130 rfl rfl) ⟨rfl, e0⟩)
  ·rw [show decide p.Ok = false from decide_eq_false (fun q => h2 q.2.1)]
   have e0 : Ext h h := Ext.refl _
   refine Runs.intro aFunc130 rfl rfl rfl rfl fun rest => ?_
   refine Go.seq noJ_ok ?_
   refine Go.region noJ_ok rfl ?_
   refine GoR.box rfl rfl rfl rfl rfl rfl fun h3 x3 f3 => ?_
   replace e0 := e0.trans x3
   refine GoR.op rfl rfl rfl rfl ?_
   refine GoR.end ?_
   refine Go.seq noJ_ok ?_
   refine Go.region noJ_ok rfl ?_
   refine GoR.op rfl rfl (fa157_3 rfl) rfl ?_
   refine GoR.op rfl rfl (ld3 rfl f3 rfl) rfl ?_
   refine GoR.call rfl rfl (aOp_callFunc aFunc95 rfl) (inside_is (r := true) (decide_eq_true h1)) ?_ (by rintro _ _ ⟨q, _⟩; cases q)
   rintro v4 h4 ⟨q, x4⟩
   cases q
   refine ⟨_, rfl, ?_⟩
   replace f3 := f3.ext x4
   replace e0 := e0.trans x4
   iterate 2 refine GoR.op rfl rfl rfl rfl ?_
   refine GoR.op rfl rfl (fa157_0 rfl) rfl ?_
   refine GoR.op rfl rfl (ld29 rfl f3 rfl) rfl ?_
   refine GoR.op rfl rfl (fa157_3 rfl) rfl ?_
   refine GoR.op rfl rfl (ld3 rfl f3 rfl) rfl ?_
   refine GoR.call rfl rfl (aOp_callFunc aFunc151 rfl) (narrow_is (by omega) (by omega) (r := false) (decide_eq_false h2)) ?_ (by rintro _ _ ⟨q, _⟩; cases q)
   rintro v5 h5 ⟨q, x5⟩
   cases q
   refine ⟨_, rfl, ?_⟩
   replace e0 := e0.trans x5
   iterate 3 refine GoR.op rfl rfl rfl rfl ?_
   iterate 4 refine GoR.skip rfl rfl rfl ?_
   iterate 2 refine GoR.op rfl rfl rfl rfl ?_
   iterate 4 refine GoR.skip rfl rfl rfl ?_
   iterate 2 refine GoR.op rfl rfl rfl rfl ?_
   refine GoR.end ?_
   exact Go.ret noJ_ok (ret_end (aResult_of Tryz.func130 rfl rfl) ⟨rfl, e0⟩)
 ·rw [show decide p.Ok = false from decide_eq_false (fun q => h1 q.1)]
  have e0 : Ext h h := Ext.refl _
  refine Runs.intro aFunc130 rfl rfl rfl rfl fun rest => ?_
  refine Go.seq noJ_ok ?_
  refine Go.region noJ_ok rfl ?_
  refine GoR.box rfl rfl rfl rfl rfl rfl fun h2 x2 f2 => ?_
  replace e0 := e0.trans x2
  refine GoR.op rfl rfl rfl rfl ?_
  refine GoR.end ?_
  refine Go.seq noJ_ok ?_
  refine Go.region noJ_ok rfl ?_
  refine GoR.op rfl rfl (fa157_3 rfl) rfl ?_
  refine GoR.op rfl rfl (ld3 rfl f2 rfl) rfl ?_
  refine GoR.call rfl rfl (aOp_callFunc aFunc95 rfl) (inside_is (r := false) (decide_eq_false h1)) ?_ (by rintro _ _ ⟨q, _⟩; cases q)
  rintro v3 h3 ⟨q, x3⟩
  cases q
  refine ⟨_, rfl, ?_⟩
  replace e0 := e0.trans x3
  iterate 2 refine GoR.op rfl rfl rfl rfl ?_
  iterate 6 refine GoR.skip rfl rfl rfl ?_
  iterate 2 refine GoR.op rfl rfl rfl rfl ?_
  iterate 4 refine GoR.skip rfl rfl rfl ?_
  iterate 2 refine GoR.op rfl rfl rfl rfl ?_
  iterate 4 refine GoR.skip rfl rfl rfl ?_
  iterate 2 refine GoR.op rfl rfl rfl rfl ?_
  refine GoR.end ?_
  exact Go.ret noJ_ok (ret_end (aResult_of Tryz.func130 rfl rfl) ⟨rfl, e0⟩)
theorem validEvent_ok (e : EV) {n : Int} (hn : 0 ≤ n ∧ n ≤ 1000) (h : AH) : Runs Tryz.prog 128 [.agg (EV.cells e), .int .i64 n] h (fun en h' => en = .ret (.bool (decide (e.Ok n))) ∧ Ext h h') := by
 unfold EV.cells
 by_cases k0 : e.kind = 0
 ·have hq : decide (e.Ok n) = decide (0 ≤ e.ll ∧ e.ll ≤ e.lh ∧ e.lh ≤ 60 ∧ e.lh - e.ll ≤ 2) := decide_eq_decide.2 (by unfold EV.Ok; omega)
  rw [hq]
  have e0 : Ext h h := Ext.refl _
  refine Runs.intro aFunc128 rfl rfl rfl rfl fun rest => ?_
  refine Go.seq noJ_ok ?_
  refine Go.region noJ_ok rfl ?_
  refine GoR.box rfl rfl rfl rfl rfl rfl fun h0 x0 f0 => ?_
  replace e0 := e0.trans x0
  refine GoR.op rfl rfl rfl rfl ?_
  refine GoR.end ?_
  iterate 2 refine Go.seq noJ_ok ?_
  refine Go.region noJ_ok rfl ?_
  refine GoR.op rfl rfl (fa62_0 rfl) rfl ?_
  refine GoR.op rfl rfl (ld3 rfl f0 rfl) rfl ?_
  refine GoR.end ?_
  refine Go.block noJ_ok ?_
  refine Go.seq noJ_ok ?_
  refine Go.region noJ_ok rfl ?_
  refine GoR.op rfl rfl (aOp_eql rfl rfl (r := true) (decide_eq_true (by omega))) rfl ?_
  refine GoR.op rfl rfl rfl rfl ?_
  refine GoR.end ?_
  refine Go.cond noJ_ok (b := true) rfl ?_
  refine Go.seq noJ_ok ?_
  refine Go.region noJ_ok rfl ?_
  refine GoR.op rfl rfl (fa62_1 rfl) rfl ?_
  refine GoR.op rfl rfl (ld29 rfl f0 rfl) rfl ?_
  refine GoR.call rfl rfl (aOp_callFunc aFunc151 rfl) (narrow_ok (by omega) (by omega)) ?_ (by rintro _ _ ⟨q, _⟩; cases q)
  rintro v1 h1 ⟨q, x1⟩
  cases q
  refine ⟨_, rfl, ?_⟩
  replace e0 := e0.trans x1
  refine GoR.op rfl rfl rfl rfl ?_
  refine GoR.end ?_
  exact Go.ret noJ_ok (ret_end (aResult_of Tryz.func128 rfl rfl) ⟨rfl, e0⟩)
 ·by_cases k1 : e.kind = 1
  ·have hq : decide (e.Ok n) = decide (1 ≤ e.days ∧ e.days ≤ 10) := decide_eq_decide.2 (by unfold EV.Ok; omega)
   rw [hq]
   have e0 : Ext h h := Ext.refl _
   refine Runs.intro aFunc128 rfl rfl rfl rfl fun rest => ?_
   refine Go.seq noJ_ok ?_
   refine Go.region noJ_ok rfl ?_
   refine GoR.box rfl rfl rfl rfl rfl rfl fun h0 x0 f0 => ?_
   replace e0 := e0.trans x0
   refine GoR.op rfl rfl rfl rfl ?_
   refine GoR.end ?_
   iterate 2 refine Go.seq noJ_ok ?_
   refine Go.region noJ_ok rfl ?_
   refine GoR.op rfl rfl (fa62_0 rfl) rfl ?_
   refine GoR.op rfl rfl (ld3 rfl f0 rfl) rfl ?_
   refine GoR.end ?_
   refine Go.block noJ_ok ?_
   refine Go.seq noJ_ok ?_
   refine Go.region noJ_ok rfl ?_
   refine GoR.op rfl rfl (aOp_eql rfl rfl (r := false) (decide_eq_false (by omega))) rfl ?_
   refine GoR.op rfl rfl rfl rfl ?_
   refine GoR.end ?_
   refine Go.cond noJ_ok (b := false) rfl ?_
   refine Go.seq noJ_ok ?_
   refine Go.region noJ_ok rfl ?_
   refine GoR.op rfl rfl (aOp_eql rfl rfl (r := true) (decide_eq_true (by omega))) rfl ?_
   refine GoR.op rfl rfl rfl rfl ?_
   refine GoR.end ?_
   refine Go.cond noJ_ok (b := true) rfl ?_
   refine Go.seq noJ_ok ?_
   refine Go.region noJ_ok rfl ?_
   refine GoR.op rfl rfl (fa62_2 rfl) rfl ?_
   refine GoR.op rfl rfl (ld3 rfl f0 rfl) rfl ?_
   refine GoR.call rfl rfl (aOp_callFunc aFunc95 rfl) (inside_ok) ?_ (by rintro _ _ ⟨q, _⟩; cases q)
   rintro v1 h1 ⟨q, x1⟩
   cases q
   refine ⟨_, rfl, ?_⟩
   replace e0 := e0.trans x1
   refine GoR.op rfl rfl rfl rfl ?_
   refine GoR.end ?_
   exact Go.ret noJ_ok (ret_end (aResult_of Tryz.func128 rfl rfl) ⟨rfl, e0⟩)
  ·by_cases k2 : e.kind = 2
   ·by_cases k3 : 0 ≤ e.part ∧ e.part ≤ n - 1
    ·have hq : decide (e.Ok n) = decide (e.wl ≤ e.wh ∧ -1000 ≤ e.wl ∧ e.wh ≤ 1000) := decide_eq_decide.2 (by unfold EV.Ok; omega)
     rw [hq]
     have e0 : Ext h h := Ext.refl _
     refine Runs.intro aFunc128 rfl rfl rfl rfl fun rest => ?_
     refine Go.seq noJ_ok ?_
     refine Go.region noJ_ok rfl ?_
     refine GoR.box rfl rfl rfl rfl rfl rfl fun h0 x0 f0 => ?_
     replace e0 := e0.trans x0
     refine GoR.op rfl rfl rfl rfl ?_
     refine GoR.end ?_
     iterate 2 refine Go.seq noJ_ok ?_
     refine Go.region noJ_ok rfl ?_
     refine GoR.op rfl rfl (fa62_0 rfl) rfl ?_
     refine GoR.op rfl rfl (ld3 rfl f0 rfl) rfl ?_
     refine GoR.end ?_
     refine Go.block noJ_ok ?_
     refine Go.seq noJ_ok ?_
     refine Go.region noJ_ok rfl ?_
     refine GoR.op rfl rfl (aOp_eql rfl rfl (r := false) (decide_eq_false (by omega))) rfl ?_
     refine GoR.op rfl rfl rfl rfl ?_
     refine GoR.end ?_
     refine Go.cond noJ_ok (b := false) rfl ?_
     refine Go.seq noJ_ok ?_
     refine Go.region noJ_ok rfl ?_
     refine GoR.op rfl rfl (aOp_eql rfl rfl (r := false) (decide_eq_false (by omega))) rfl ?_
     refine GoR.op rfl rfl rfl rfl ?_
     refine GoR.end ?_
     refine Go.cond noJ_ok (b := false) rfl ?_
     refine Go.seq noJ_ok ?_
     refine Go.region noJ_ok rfl ?_
     refine GoR.op rfl rfl (aOp_eql rfl rfl (r := true) (decide_eq_true (by omega))) rfl ?_
     refine GoR.op rfl rfl rfl rfl ?_
     refine GoR.end ?_
     refine Go.cond noJ_ok (b := true) rfl ?_
     refine Go.seq noJ_ok ?_
     refine Go.region noJ_ok rfl ?_
     refine GoR.op rfl rfl (fa62_3 rfl) rfl ?_
     refine GoR.op rfl rfl (ld3 rfl f0 rfl) rfl ?_
     refine GoR.op rfl rfl rfl rfl ?_
     refine GoR.op rfl rfl (aOp_sub rfl rfl (by constructor <;> omega) rfl) rfl ?_
     refine GoR.call rfl rfl (aOp_callFunc aFunc95 rfl) (inside_is (r := true) (decide_eq_true k3)) ?_ (by rintro _ _ ⟨q, _⟩; cases q)
     rintro v1 h1 ⟨q, x1⟩
     cases q
     refine ⟨_, rfl, ?_⟩
     replace f0 := f0.ext x1
     replace e0 := e0.trans x1
     refine GoR.op rfl rfl rfl rfl ?_
     refine GoR.op rfl rfl (fa62_4 rfl) rfl ?_
     refine GoR.op rfl rfl (ld29 rfl f0 rfl) rfl ?_
     refine GoR.call rfl rfl (aOp_callFunc aFunc152 rfl) (within_ok) ?_ (by rintro _ _ ⟨q, _⟩; cases q)
     rintro v2 h2 ⟨q, x2⟩
     cases q
     refine ⟨_, rfl, ?_⟩
     replace e0 := e0.trans x2
     iterate 2 refine GoR.op rfl rfl rfl rfl ?_
     refine GoR.end ?_
     exact Go.ret noJ_ok (ret_end (aResult_of Tryz.func128 rfl rfl) ⟨rfl, e0⟩)
    ·rw [show decide (e.Ok n) = false from decide_eq_false (by unfold EV.Ok; omega)]
     have e0 : Ext h h := Ext.refl _
     refine Runs.intro aFunc128 rfl rfl rfl rfl fun rest => ?_
     refine Go.seq noJ_ok ?_
     refine Go.region noJ_ok rfl ?_
     refine GoR.box rfl rfl rfl rfl rfl rfl fun h0 x0 f0 => ?_
     replace e0 := e0.trans x0
     refine GoR.op rfl rfl rfl rfl ?_
     refine GoR.end ?_
     iterate 2 refine Go.seq noJ_ok ?_
     refine Go.region noJ_ok rfl ?_
     refine GoR.op rfl rfl (fa62_0 rfl) rfl ?_
     refine GoR.op rfl rfl (ld3 rfl f0 rfl) rfl ?_
     refine GoR.end ?_
     refine Go.block noJ_ok ?_
     refine Go.seq noJ_ok ?_
     refine Go.region noJ_ok rfl ?_
     refine GoR.op rfl rfl (aOp_eql rfl rfl (r := false) (decide_eq_false (by omega))) rfl ?_
     refine GoR.op rfl rfl rfl rfl ?_
     refine GoR.end ?_
     refine Go.cond noJ_ok (b := false) rfl ?_
     refine Go.seq noJ_ok ?_
     refine Go.region noJ_ok rfl ?_
     refine GoR.op rfl rfl (aOp_eql rfl rfl (r := false) (decide_eq_false (by omega))) rfl ?_
     refine GoR.op rfl rfl rfl rfl ?_
     refine GoR.end ?_
     refine Go.cond noJ_ok (b := false) rfl ?_
     refine Go.seq noJ_ok ?_
     refine Go.region noJ_ok rfl ?_
     refine GoR.op rfl rfl (aOp_eql rfl rfl (r := true) (decide_eq_true (by omega))) rfl ?_
     refine GoR.op rfl rfl rfl rfl ?_
     refine GoR.end ?_
     refine Go.cond noJ_ok (b := true) rfl ?_
     refine Go.seq noJ_ok ?_
     refine Go.region noJ_ok rfl ?_
     refine GoR.op rfl rfl (fa62_3 rfl) rfl ?_
     refine GoR.op rfl rfl (ld3 rfl f0 rfl) rfl ?_
     refine GoR.op rfl rfl rfl rfl ?_
     refine GoR.op rfl rfl (aOp_sub rfl rfl (by constructor <;> omega) rfl) rfl ?_
     refine GoR.call rfl rfl (aOp_callFunc aFunc95 rfl) (inside_is (r := false) (decide_eq_false k3)) ?_ (by rintro _ _ ⟨q, _⟩; cases q)
     rintro v1 h1 ⟨q, x1⟩
     cases q
     refine ⟨_, rfl, ?_⟩
     replace e0 := e0.trans x1
     refine GoR.op rfl rfl rfl rfl ?_
     iterate 3 refine GoR.skip rfl rfl rfl ?_
     iterate 2 refine GoR.op rfl rfl rfl rfl ?_
     refine GoR.end ?_
     exact Go.ret noJ_ok (ret_end (aResult_of Tryz.func128 rfl rfl) ⟨rfl, e0⟩)
   ·rw [show decide (e.Ok n) = false from decide_eq_false (by unfold EV.Ok; omega)]
    have e0 : Ext h h := Ext.refl _
    refine Runs.intro aFunc128 rfl rfl rfl rfl fun rest => ?_
    refine Go.seq noJ_ok ?_
    refine Go.region noJ_ok rfl ?_
    refine GoR.box rfl rfl rfl rfl rfl rfl fun h0 x0 f0 => ?_
    replace e0 := e0.trans x0
    refine GoR.op rfl rfl rfl rfl ?_
    refine GoR.end ?_
    iterate 2 refine Go.seq noJ_ok ?_
    refine Go.region noJ_ok rfl ?_
    refine GoR.op rfl rfl (fa62_0 rfl) rfl ?_
    refine GoR.op rfl rfl (ld3 rfl f0 rfl) rfl ?_
    refine GoR.end ?_
    refine Go.block noJ_ok ?_
    refine Go.seq noJ_ok ?_
    refine Go.region noJ_ok rfl ?_
    refine GoR.op rfl rfl (aOp_eql rfl rfl (r := false) (decide_eq_false (by omega))) rfl ?_
    refine GoR.op rfl rfl rfl rfl ?_
    refine GoR.end ?_
    refine Go.cond noJ_ok (b := false) rfl ?_
    refine Go.seq noJ_ok ?_
    refine Go.region noJ_ok rfl ?_
    refine GoR.op rfl rfl (aOp_eql rfl rfl (r := false) (decide_eq_false (by omega))) rfl ?_
    refine GoR.op rfl rfl rfl rfl ?_
    refine GoR.end ?_
    refine Go.cond noJ_ok (b := false) rfl ?_
    refine Go.seq noJ_ok ?_
    refine Go.region noJ_ok rfl ?_
    refine GoR.op rfl rfl (aOp_eql rfl rfl (r := false) (decide_eq_false (by omega))) rfl ?_
    refine GoR.op rfl rfl rfl rfl ?_
    refine GoR.end ?_
    refine Go.cond noJ_ok (b := false) rfl ?_
    refine Go.code noJ_ok ?_
    refine Go.inBlock noJ_ok ?_
    refine Go.seq noJ_ok ?_
    refine Go.region noJ_ok rfl ?_
    refine GoR.op rfl rfl rfl rfl ?_
    refine GoR.end ?_
    exact Go.ret noJ_ok (ret_end (aResult_of Tryz.func128 rfl rfl) ⟨rfl, e0⟩)
theorem doubts_ok {s : AVal} {L : List EV} {h : AH} (hs : SliceOf h 7 s (L.map EV.cells)) (hn : L.length ≤ 100) : Runs Tryz.prog 132 [s] h (fun en h' => en = .ret (.int .i64 (doubtsV L)) ∧ Ext h h') := by
 have hlen := hs.len
 rw [List.length_map] at hlen
 have e0 : Ext h h := Ext.refl _
 refine Runs.intro aFunc132 rfl rfl rfl rfl fun rest => ?_
 refine Go.seq noJ_ok ?_
 refine Go.region noJ_ok rfl ?_
 refine GoR.op rfl rfl rfl rfl ?_
 refine GoR.end ?_
 refine Go.seq noJ_ok ?_
 refine Go.region noJ_ok rfl ?_
 refine GoR.op rfl rfl rfl rfl ?_
 refine GoR.end ?_
 iterate 2 refine Go.seq noJ_ok ?_
 refine Go.region noJ_ok rfl ?_
 refine GoR.op rfl rfl rfl rfl ?_
 refine GoR.op rfl rfl (aOp_lenSlice Tryz.underlying23 rfl (by assumption)) rfl ?_
 refine GoR.op rfl rfl rfl rfl ?_
 refine GoR.end ?_
 refine Go.block noJ_ok ?_
 refine Go.loopKeep (fun a : Nat => [(3, .int .i64 (doubtsV (L.take a))), (6, s), (7, .int .i64 L.length), (8, .int .i64 (a : Nat))])
  (fun m a h' => m + a = L.length ∧ Ext h h') (n := L.length) 0 ⟨rfl, rfl, rfl, rfl, trivial⟩ ⟨rfl, e0⟩ ?_
 clear e0
 rintro m i h4 ⟨hm, e0⟩ again
 by_cases hi' : i < L.length
 ·obtain ⟨x, hx⟩ : ∃ x, L[i]? = some x := ⟨L[i], by simp [hi']⟩
  obtain ⟨bq, off, q1, q2⟩ := hs.at (i := i) (l := EV.cells x) (by rw [List.getElem?_map, hx]; rfl)
  rw [List.length_map] at q1
  have hle : doubtsV (L.take i) ≤ i := by
   unfold doubtsV
   have := List.length_filter_le EV.doubt (L.take i)
   rw [List.length_take] at this
   omega
  have hnx : doubtsV (L.take (i + 1)) = doubtsV (L.take i) + (if x.kind = 0 ∧ x.ll ≠ x.lh then 1 else 0) := by
   unfold doubtsV
   rw [List.take_add_one, hx, Option.toList_some, List.filter_append, List.length_append]
   congr 1
   by_cases q : x.kind = 0 ∧ x.ll ≠ x.lh
   ·rw [if_pos q, show List.filter EV.doubt [x] = [x] from by rw [List.filter_cons, show EV.doubt x = true from decide_eq_true q]; rfl]; rfl
   ·rw [if_neg q, show List.filter EV.doubt [x] = [] from by rw [List.filter_cons, show EV.doubt x = false from decide_eq_false q]; rfl]; rfl
  generalize hd : doubtsV (L.take i) = d at *
  unfold EV.cells at q2
  by_cases k0 : x.kind = 0
  ·by_cases k1 : x.ll = x.lh
   ·rw [if_neg (by simp [k1]), Nat.add_zero] at hnx
    refine Go.seq noJ_ok ?_
    refine Go.region noJ_ok rfl ?_
    refine GoR.op rfl rfl (aOp_lss rfl rfl (r := true) (decide_eq_true (by omega))) rfl ?_
    refine GoR.end ?_
    refine Go.seq noJ_ok ?_
    refine Go.cond noJ_ok (b := true) rfl ?_
    refine Go.code noJ_ok ?_
    refine Go.seq noJ_ok ?_
    refine Go.block noJ_ok ?_
    refine Go.seq noJ_ok ?_
    refine Go.region noJ_ok rfl ?_
    refine GoR.op rfl rfl (aOp_indexAddr (i := i) Tryz.underlying23 sz62 rfl (by assumption) rfl (Nat.ble_eq_true_of_le (by omega))) rfl ?_
    refine GoR.op rfl rfl (aOp_loadE ag62 sz62 rfl (q2.ext (by assumption))) rfl ?_
    refine GoR.alloc rfl rfl rfl zt62 rfl rfl fun h5 x5 f5 => ?_
    have := e0.1
    replace e0 := e0.trans x5
    have := f5.1
    refine GoR.store rfl rfl rfl rfl rfl rfl f5 rfl sz62 rfl rfl rfl fun h6 u6 => ?_
    replace f5 := u6.has f5
    replace e0 := e0.upd u6 (by omega)
    refine GoR.end ?_
    refine Go.seq noJ_ok ?_
    refine Go.region noJ_ok rfl ?_
    refine GoR.op rfl rfl (fa62_0 rfl) rfl ?_
    refine GoR.op rfl rfl (ld3 rfl f5 rfl) rfl ?_
    refine GoR.op rfl rfl (aOp_eql rfl rfl (r := true) (decide_eq_true (by omega))) rfl ?_
    refine GoR.op rfl rfl rfl rfl ?_
    refine GoR.op rfl rfl (fa62_1 rfl) rfl ?_
    refine GoR.op rfl rfl (fa29_0 rfl) rfl ?_
    refine GoR.op rfl rfl (ld3 rfl f5 rfl) rfl ?_
    refine GoR.op rfl rfl (fa62_1 rfl) rfl ?_
    refine GoR.op rfl rfl (fa29_1 rfl) rfl ?_
    refine GoR.op rfl rfl (ld3 rfl f5 rfl) rfl ?_
    refine GoR.op rfl rfl (aOp_neq rfl rfl (r := false) (decide_eq_true (by omega))) rfl ?_
    refine GoR.op rfl rfl rfl rfl ?_
    refine GoR.end ?_
    refine Go.cond noJ_ok (b := false) rfl ?_
    refine Go.code noJ_ok ?_
    refine Go.inBlock noJ_ok ?_
    refine Go.region noJ_ok rfl ?_
    refine GoR.op rfl rfl (aOp_add rfl rfl (by constructor <;> omega) rfl) rfl ?_
    refine GoR.op rfl rfl rfl rfl ?_
    refine GoR.end ?_
    exact again (m - 1) (i + 1) _ _ (by omega) ⟨by rw [hnx]; rfl, rfl, rfl, rfl, trivial⟩ ⟨by omega, e0⟩
   ·rw [if_pos ⟨k0, k1⟩] at hnx
    refine Go.seq noJ_ok ?_
    refine Go.region noJ_ok rfl ?_
    refine GoR.op rfl rfl (aOp_lss rfl rfl (r := true) (decide_eq_true (by omega))) rfl ?_
    refine GoR.end ?_
    refine Go.seq noJ_ok ?_
    refine Go.cond noJ_ok (b := true) rfl ?_
    refine Go.code noJ_ok ?_
    refine Go.seq noJ_ok ?_
    refine Go.block noJ_ok ?_
    refine Go.seq noJ_ok ?_
    refine Go.region noJ_ok rfl ?_
    refine GoR.op rfl rfl (aOp_indexAddr (i := i) Tryz.underlying23 sz62 rfl (by assumption) rfl (Nat.ble_eq_true_of_le (by omega))) rfl ?_
    refine GoR.op rfl rfl (aOp_loadE ag62 sz62 rfl (q2.ext (by assumption))) rfl ?_
    refine GoR.alloc rfl rfl rfl zt62 rfl rfl fun h5 x5 f5 => ?_
    have := e0.1
    replace e0 := e0.trans x5
    have := f5.1
    refine GoR.store rfl rfl rfl rfl rfl rfl f5 rfl sz62 rfl rfl rfl fun h6 u6 => ?_
    replace f5 := u6.has f5
    replace e0 := e0.upd u6 (by omega)
    refine GoR.end ?_
    refine Go.seq noJ_ok ?_
    refine Go.region noJ_ok rfl ?_
    refine GoR.op rfl rfl (fa62_0 rfl) rfl ?_
    refine GoR.op rfl rfl (ld3 rfl f5 rfl) rfl ?_
    refine GoR.op rfl rfl (aOp_eql rfl rfl (r := true) (decide_eq_true (by omega))) rfl ?_
    refine GoR.op rfl rfl rfl rfl ?_
    refine GoR.op rfl rfl (fa62_1 rfl) rfl ?_
    refine GoR.op rfl rfl (fa29_0 rfl) rfl ?_
    refine GoR.op rfl rfl (ld3 rfl f5 rfl) rfl ?_
    refine GoR.op rfl rfl (fa62_1 rfl) rfl ?_
    refine GoR.op rfl rfl (fa29_1 rfl) rfl ?_
    refine GoR.op rfl rfl (ld3 rfl f5 rfl) rfl ?_
    refine GoR.op rfl rfl (aOp_neq rfl rfl (r := true) (decide_eq_false (by omega))) rfl ?_
    refine GoR.op rfl rfl rfl rfl ?_
    refine GoR.end ?_
    refine Go.cond noJ_ok (b := true) rfl ?_
    refine Go.region noJ_ok rfl ?_
    refine GoR.op rfl rfl rfl rfl ?_
    refine GoR.op rfl rfl (aOp_add rfl rfl (by constructor <;> omega) rfl) rfl ?_
    refine GoR.op rfl rfl rfl rfl ?_
    refine GoR.end ?_
    refine Go.inBlock noJ_ok ?_
    refine Go.region noJ_ok rfl ?_
    refine GoR.op rfl rfl (aOp_add rfl rfl (by constructor <;> omega) rfl) rfl ?_
    refine GoR.op rfl rfl rfl rfl ?_
    refine GoR.end ?_
    exact again (m - 1) (i + 1) _ _ (by omega) ⟨by rw [hnx]; rfl, rfl, rfl, rfl, trivial⟩ ⟨by omega, e0⟩
  ·rw [if_neg (by simp [k0]), Nat.add_zero] at hnx
   refine Go.seq noJ_ok ?_
   refine Go.region noJ_ok rfl ?_
   refine GoR.op rfl rfl (aOp_lss rfl rfl (r := true) (decide_eq_true (by omega))) rfl ?_
   refine GoR.end ?_
   refine Go.seq noJ_ok ?_
   refine Go.cond noJ_ok (b := true) rfl ?_
   refine Go.code noJ_ok ?_
   refine Go.seq noJ_ok ?_
   refine Go.block noJ_ok ?_
   refine Go.seq noJ_ok ?_
   refine Go.region noJ_ok rfl ?_
   refine GoR.op rfl rfl (aOp_indexAddr (i := i) Tryz.underlying23 sz62 rfl (by assumption) rfl (Nat.ble_eq_true_of_le (by omega))) rfl ?_
   refine GoR.op rfl rfl (aOp_loadE ag62 sz62 rfl (q2.ext (by assumption))) rfl ?_
   refine GoR.alloc rfl rfl rfl zt62 rfl rfl fun h5 x5 f5 => ?_
   have := e0.1
   replace e0 := e0.trans x5
   have := f5.1
   refine GoR.store rfl rfl rfl rfl rfl rfl f5 rfl sz62 rfl rfl rfl fun h6 u6 => ?_
   replace f5 := u6.has f5
   replace e0 := e0.upd u6 (by omega)
   refine GoR.end ?_
   refine Go.seq noJ_ok ?_
   refine Go.region noJ_ok rfl ?_
   refine GoR.op rfl rfl (fa62_0 rfl) rfl ?_
   refine GoR.op rfl rfl (ld3 rfl f5 rfl) rfl ?_
   refine GoR.op rfl rfl (aOp_eql rfl rfl (r := false) (decide_eq_false (by omega))) rfl ?_
   refine GoR.op rfl rfl rfl rfl ?_
   iterate 7 refine GoR.skip rfl rfl rfl ?_
   refine GoR.op rfl rfl rfl rfl ?_
   refine GoR.end ?_
   refine Go.cond noJ_ok (b := false) rfl ?_
   refine Go.code noJ_ok ?_
   refine Go.inBlock noJ_ok ?_
   refine Go.region noJ_ok rfl ?_
   refine GoR.op rfl rfl (aOp_add rfl rfl (by constructor <;> omega) rfl) rfl ?_
   refine GoR.op rfl rfl rfl rfl ?_
   refine GoR.end ?_
   exact again (m - 1) (i + 1) _ _ (by omega) ⟨by rw [hnx]; rfl, rfl, rfl, rfl, trivial⟩ ⟨by omega, e0⟩
 ·have hin : i = L.length := by omega
  rw [hin, List.take_length]
  refine Go.seq noJ_ok ?_
  refine Go.region noJ_ok rfl ?_
  refine GoR.op rfl rfl (aOp_lss rfl rfl (r := false) (decide_eq_false (by omega))) rfl ?_
  refine GoR.end ?_
  refine Go.seq noJ_ok ?_
  refine Go.cond noJ_ok (b := false) rfl ?_
  refine Go.code noJ_ok ?_
  refine Go.seq noJ_ok ?_
  refine Go.region noJ_ok rfl ?_
  iterate 2 refine GoR.op rfl rfl rfl rfl ?_
  refine GoR.end ?_
  exact Go.ret noJ_ok (ret_end (aResult_of Tryz.func132 rfl rfl) ⟨rfl, e0⟩)
end Go.Proofs.YtkcimfopboelaaaGreat

namespace Go.Proofs.YtkcimfopboelaaaGreat
open Go Go.AbsE
set_option linter.unusedSimpArgs false
set_option maxRecDepth 100000
set_option maxHeartbeats 0
set_option linter.unusedVariables false
structure RoadAt (h : AH) (R : RoadV) (psl esl : AVal) : Prop where
 ps : SliceOf h 7 psl (R.ps.map PV.cells)
 es : SliceOf h 7 esl (R.es.map EV.cells)
theorem RoadAt.ext {h h' : AH} {R : RoadV} {psl esl : AVal} (k : RoadAt h R psl esl) (e : Ext h h') : RoadAt h' R psl esl := ⟨k.ps.ext e, k.es.ext e⟩
structure GroundAt (h : AH) (R : RoadV) (lo : Nat) (gp ge : AVal) : Prop where
 psl : SliceOf h 7 gp (R.ps.map PV.cells)
 esl : SliceOf h 1 ge (R.es.map fun e => [evC e])
theorem GroundAt.ext {h h' : AH} {R : RoadV} {lo : Nat} {gp ge : AVal} (k : GroundAt h R lo gp ge) (e : Ext h h') : GroundAt h' R lo gp ge := ⟨k.psl.ext e, k.esl.ext e⟩
theorem grow_scal {h : AH} {el : TypeId} {sz lo : Nat} {s : AVal} {n : Nat} {cs : List AVal} (k : Grow h el sz lo s n cs) : scalars [s] = true ∧ s.cells = [s] := by
 rcases k.2 with ⟨rfl, _⟩ | ⟨_, b, _, rfl, _⟩
 ·exact ⟨rfl, rfl⟩
 ·exact ⟨rfl, rfl⟩
theorem cells_agg (l : List AVal) : (AVal.agg l).cells = l := rfl
theorem any_not {α : Type} (L : List α) (p : α → Bool) : (!(L.any fun x => !p x)) = L.all p := by
 induction L with
 | nil => rfl
 | cons x L ih => rw [List.any_cons, List.all_cons, ← ih]; cases p x <;> rfl
theorem valid_ok {R : RoadV} {psl esl : AVal} {h : AH} (A : RoadAt h R psl esl) (hb1 : R.ps.length ≤ 40) (hb2 : R.es.length ≤ 40) :
  Runs Tryz.prog 92 [.agg [psl, esl]] h (fun en h' => en = .ret (.bool R.okB) ∧ Ext h h') := by
 have hl1 := A.ps.len
 have hl2 := A.es.len
 rw [List.length_map] at hl1 hl2
 have hcp : ∀ {h' : AH} {r : AVal}, SliceOf h' 7 r (R.ps.map PV.cells) → Runs Tryz.prog 129 [r, .func (.func 130) [] []] h' (fun en h'' => en = .ret (.bool (R.ps.any fun p => !decide p.Ok)) ∧ Ext h' h'') := fun s =>
  cont129_ok (caps := []) aFunc130 _ s (by omega) fun x h' hx e => bad_ok x h'
 have hce : ∀ {h' : AH} {b : Nat} {el : TypeId}, RoadAt h' R psl esl → Has h' b (.cells .plain [psl, esl] el) → Runs Tryz.prog 131 [esl, .func (.func 127) [] [.ptr b 0]] h' (fun en h'' => en = .ret (.bool (R.es.any fun e => !decide (e.Ok R.ps.length))) ∧ Ext h' h'') := fun {h' b el} A' f => by
  have hfb := f.1
  refine cont131_ok (caps := [.ptr b 0]) aFunc127 _ A'.es (by omega) fun x h'' hx k9 => ?_
  have f0 := f.ext k9
  have ln := (A'.ps.ext k9).len
  rw [List.length_map] at ln
  clear k9
  have hv := fun h => validEvent_ok x (n := R.ps.length) (by omega) h
  unfold EV.cells at *
  have e0 : Ext h'' h'' := Ext.refl _
  refine Runs.intro aFunc127 rfl rfl rfl rfl fun rest => ?_
  refine Go.seq noJ_ok ?_
  refine Go.region noJ_ok rfl ?_
  refine GoR.box rfl rfl rfl rfl rfl rfl fun h1 x1 f1 => ?_
  replace f0 := f0.ext x1
  replace e0 := e0.trans x1
  refine GoR.op rfl rfl rfl rfl ?_
  refine GoR.end ?_
  refine Go.seq noJ_ok ?_
  refine Go.region noJ_ok rfl ?_
  refine GoR.op rfl rfl (ld62 rfl f1 rfl) rfl ?_
  refine GoR.op rfl rfl (fa25_0 rfl) rfl ?_
  refine GoR.op rfl rfl (ld22 rfl f0 rfl) rfl ?_
  refine GoR.op rfl rfl (aOp_lenSlice Tryz.underlying22 rfl (by assumption)) rfl ?_
  refine GoR.call rfl rfl (aOp_callFunc aFunc128 rfl) (hv _) ?_ (by rintro _ _ ⟨q, _⟩; cases q)
  rintro v2 h2 ⟨q, x2⟩
  cases q
  refine ⟨_, rfl, ?_⟩
  replace f1 := f1.ext x2
  replace f0 := f0.ext x2
  replace e0 := e0.trans x2
  iterate 2 refine GoR.op rfl rfl rfl rfl ?_
  refine GoR.end ?_
  exact Go.ret noJ_ok (ret_end (aResult_of Tryz.func127 rfl rfl) ⟨rfl, e0⟩)
 unfold RoadV.okB
 by_cases h1 : 1 ≤ R.ps.length ∧ R.ps.length ≤ 4
 ·rw [decide_eq_true h1]
  cases h2 : R.ps.all (fun p => decide p.Ok) with
  | false =>
   have h2' : R.ps.any (fun p => !decide p.Ok) = true := by rw [← any_not] at h2; simpa using h2
   rw [h2'] at hcp
   have e0 : Ext h h := Ext.refl _
   refine Runs.intro aFunc92 rfl rfl rfl rfl fun rest => ?_
   refine Go.seq noJ_ok ?_
   refine Go.region noJ_ok rfl ?_
   refine GoR.box rfl rfl rfl rfl rfl rfl fun h3 x3 f3 => ?_
   replace e0 := e0.trans x3
   refine GoR.op rfl rfl rfl rfl ?_
   refine GoR.end ?_
   refine Go.seq noJ_ok ?_
   refine Go.region noJ_ok rfl ?_
   iterate 2 refine GoR.op rfl rfl rfl rfl ?_
   refine GoR.end ?_
   refine Go.seq noJ_ok ?_
   refine Go.region noJ_ok rfl ?_
   refine GoR.op rfl rfl (fa25_0 rfl) rfl ?_
   refine GoR.op rfl rfl (ld22 rfl f3 rfl) rfl ?_
   refine GoR.op rfl rfl (aOp_lenSlice Tryz.underlying22 rfl (by assumption)) rfl ?_
   refine GoR.call rfl rfl (aOp_callFunc aFunc95 rfl) (inside_is (r := true) (decide_eq_true (by omega))) ?_ (by rintro _ _ ⟨q, _⟩; cases q)
   rintro v4 h4 ⟨q, x4⟩
   cases q
   refine ⟨_, rfl, ?_⟩
   replace f3 := f3.ext x4
   replace e0 := e0.trans x4
   refine GoR.op rfl rfl rfl rfl ?_
   refine GoR.op rfl rfl (fa25_0 rfl) rfl ?_
   refine GoR.op rfl rfl (ld22 rfl f3 rfl) rfl ?_
   refine GoR.call rfl rfl (aOp_callFunc aFunc93 rfl) (partsOf_ok (A.ps.ext e0) (by omega)) ?_ (by rintro _ _ ⟨r, q, _, _⟩; cases q)
   rintro v5 h5 ⟨r, q, x5, f5⟩
   cases q
   refine ⟨_, rfl, ?_⟩
   replace f3 := f3.ext x5
   replace e0 := e0.trans x5
   refine GoR.call rfl rfl (aOp_callFunc aFunc129 rfl) (hcp (grow_slice pv_len rfl (by assumption))) ?_ (by rintro _ _ ⟨q, _⟩; cases q)
   rintro v6 h6 ⟨q, x6⟩
   cases q
   refine ⟨_, rfl, ?_⟩
   replace f3 := f3.ext x6
   replace e0 := e0.trans x6
   iterate 3 refine GoR.op rfl rfl rfl rfl ?_
   iterate 4 refine GoR.skip rfl rfl rfl ?_
   iterate 2 refine GoR.op rfl rfl rfl rfl ?_
   iterate 5 refine GoR.skip rfl rfl rfl ?_
   iterate 2 refine GoR.op rfl rfl rfl rfl ?_
   iterate 4 refine GoR.skip rfl rfl rfl ?_
   iterate 2 refine GoR.op rfl rfl rfl rfl ?_
   refine GoR.end ?_
   exact Go.ret noJ_ok (ret_end (aResult_of Tryz.func92 rfl rfl) ⟨rfl, e0⟩)
  | true =>
   have h2' : R.ps.any (fun p => !decide p.Ok) = false := by rw [← any_not] at h2; simpa using h2
   rw [h2'] at hcp
   by_cases h3 : R.es.length ≤ 10
   ·rw [decide_eq_true h3]
    cases h4 : R.es.all (fun e => decide (e.Ok R.ps.length)) with
    | false =>
     have h4' : R.es.any (fun e => !decide (e.Ok R.ps.length)) = true := by rw [← any_not] at h4; simpa using h4
     rw [h4'] at hce
     have e0 : Ext h h := Ext.refl _
     refine Runs.intro aFunc92 rfl rfl rfl rfl fun rest => ?_
     refine Go.seq noJ_ok ?_
     refine Go.region noJ_ok rfl ?_
     refine GoR.box rfl rfl rfl rfl rfl rfl fun h5 x5 f5 => ?_
     replace e0 := e0.trans x5
     refine GoR.op rfl rfl rfl rfl ?_
     refine GoR.end ?_
     refine Go.seq noJ_ok ?_
     refine Go.region noJ_ok rfl ?_
     iterate 2 refine GoR.op rfl rfl rfl rfl ?_
     refine GoR.end ?_
     refine Go.seq noJ_ok ?_
     refine Go.region noJ_ok rfl ?_
     refine GoR.op rfl rfl (fa25_0 rfl) rfl ?_
     refine GoR.op rfl rfl (ld22 rfl f5 rfl) rfl ?_
     refine GoR.op rfl rfl (aOp_lenSlice Tryz.underlying22 rfl (by assumption)) rfl ?_
     refine GoR.call rfl rfl (aOp_callFunc aFunc95 rfl) (inside_is (r := true) (decide_eq_true (by omega))) ?_ (by rintro _ _ ⟨q, _⟩; cases q)
     rintro v6 h6 ⟨q, x6⟩
     cases q
     refine ⟨_, rfl, ?_⟩
     replace f5 := f5.ext x6
     replace e0 := e0.trans x6
     refine GoR.op rfl rfl rfl rfl ?_
     refine GoR.op rfl rfl (fa25_0 rfl) rfl ?_
     refine GoR.op rfl rfl (ld22 rfl f5 rfl) rfl ?_
     refine GoR.call rfl rfl (aOp_callFunc aFunc93 rfl) (partsOf_ok (A.ps.ext e0) (by omega)) ?_ (by rintro _ _ ⟨r, q, _, _⟩; cases q)
     rintro v7 h7 ⟨r, q, x7, f7⟩
     cases q
     refine ⟨_, rfl, ?_⟩
     replace f5 := f5.ext x7
     replace e0 := e0.trans x7
     refine GoR.call rfl rfl (aOp_callFunc aFunc129 rfl) (hcp (grow_slice pv_len rfl (by assumption))) ?_ (by rintro _ _ ⟨q, _⟩; cases q)
     rintro v8 h8 ⟨q, x8⟩
     cases q
     refine ⟨_, rfl, ?_⟩
     replace f5 := f5.ext x8
     replace e0 := e0.trans x8
     iterate 3 refine GoR.op rfl rfl rfl rfl ?_
     refine GoR.op rfl rfl (fa25_1 rfl) rfl ?_
     refine GoR.op rfl rfl (ld23 rfl f5 rfl) rfl ?_
     refine GoR.op rfl rfl (aOp_lenSlice Tryz.underlying23 rfl (by assumption)) rfl ?_
     refine GoR.op rfl rfl (aOp_leq rfl rfl (r := true) (decide_eq_true (by omega))) rfl ?_
     iterate 2 refine GoR.op rfl rfl rfl rfl ?_
     refine GoR.op rfl rfl (fa25_1 rfl) rfl ?_
     refine GoR.op rfl rfl (ld23 rfl f5 rfl) rfl ?_
     refine GoR.op rfl rfl rfl rfl ?_
     refine GoR.call rfl rfl (aOp_callFunc aFunc131 rfl) (hce (A.ext e0) (by assumption)) ?_ (by rintro _ _ ⟨q, _⟩; cases q)
     rintro v9 h9 ⟨q, x9⟩
     cases q
     refine ⟨_, rfl, ?_⟩
     replace f5 := f5.ext x9
     replace e0 := e0.trans x9
     iterate 3 refine GoR.op rfl rfl rfl rfl ?_
     iterate 4 refine GoR.skip rfl rfl rfl ?_
     iterate 2 refine GoR.op rfl rfl rfl rfl ?_
     refine GoR.end ?_
     exact Go.ret noJ_ok (ret_end (aResult_of Tryz.func92 rfl rfl) ⟨rfl, e0⟩)
    | true =>
     have h4' : R.es.any (fun e => !decide (e.Ok R.ps.length)) = false := by rw [← any_not] at h4; simpa using h4
     rw [h4'] at hce
     by_cases h5 : doubtsV R.es ≤ 4
     ·rw [decide_eq_true h5]
      have e0 : Ext h h := Ext.refl _
      refine Runs.intro aFunc92 rfl rfl rfl rfl fun rest => ?_
      refine Go.seq noJ_ok ?_
      refine Go.region noJ_ok rfl ?_
      refine GoR.box rfl rfl rfl rfl rfl rfl fun h6 x6 f6 => ?_
      replace e0 := e0.trans x6
      refine GoR.op rfl rfl rfl rfl ?_
      refine GoR.end ?_
      refine Go.seq noJ_ok ?_
      refine Go.region noJ_ok rfl ?_
      iterate 2 refine GoR.op rfl rfl rfl rfl ?_
      refine GoR.end ?_
      refine Go.seq noJ_ok ?_
      refine Go.region noJ_ok rfl ?_
      refine GoR.op rfl rfl (fa25_0 rfl) rfl ?_
      refine GoR.op rfl rfl (ld22 rfl f6 rfl) rfl ?_
      refine GoR.op rfl rfl (aOp_lenSlice Tryz.underlying22 rfl (by assumption)) rfl ?_
      refine GoR.call rfl rfl (aOp_callFunc aFunc95 rfl) (inside_is (r := true) (decide_eq_true (by omega))) ?_ (by rintro _ _ ⟨q, _⟩; cases q)
      rintro v7 h7 ⟨q, x7⟩
      cases q
      refine ⟨_, rfl, ?_⟩
      replace f6 := f6.ext x7
      replace e0 := e0.trans x7
      refine GoR.op rfl rfl rfl rfl ?_
      refine GoR.op rfl rfl (fa25_0 rfl) rfl ?_
      refine GoR.op rfl rfl (ld22 rfl f6 rfl) rfl ?_
      refine GoR.call rfl rfl (aOp_callFunc aFunc93 rfl) (partsOf_ok (A.ps.ext e0) (by omega)) ?_ (by rintro _ _ ⟨r, q, _, _⟩; cases q)
      rintro v8 h8 ⟨r, q, x8, f8⟩
      cases q
      refine ⟨_, rfl, ?_⟩
      replace f6 := f6.ext x8
      replace e0 := e0.trans x8
      refine GoR.call rfl rfl (aOp_callFunc aFunc129 rfl) (hcp (grow_slice pv_len rfl (by assumption))) ?_ (by rintro _ _ ⟨q, _⟩; cases q)
      rintro v9 h9 ⟨q, x9⟩
      cases q
      refine ⟨_, rfl, ?_⟩
      replace f6 := f6.ext x9
      replace e0 := e0.trans x9
      iterate 3 refine GoR.op rfl rfl rfl rfl ?_
      refine GoR.op rfl rfl (fa25_1 rfl) rfl ?_
      refine GoR.op rfl rfl (ld23 rfl f6 rfl) rfl ?_
      refine GoR.op rfl rfl (aOp_lenSlice Tryz.underlying23 rfl (by assumption)) rfl ?_
      refine GoR.op rfl rfl (aOp_leq rfl rfl (r := true) (decide_eq_true (by omega))) rfl ?_
      iterate 2 refine GoR.op rfl rfl rfl rfl ?_
      refine GoR.op rfl rfl (fa25_1 rfl) rfl ?_
      refine GoR.op rfl rfl (ld23 rfl f6 rfl) rfl ?_
      refine GoR.op rfl rfl rfl rfl ?_
      refine GoR.call rfl rfl (aOp_callFunc aFunc131 rfl) (hce (A.ext e0) (by assumption)) ?_ (by rintro _ _ ⟨q, _⟩; cases q)
      rintro v10 h10 ⟨q, x10⟩
      cases q
      refine ⟨_, rfl, ?_⟩
      replace f6 := f6.ext x10
      replace e0 := e0.trans x10
      iterate 3 refine GoR.op rfl rfl rfl rfl ?_
      refine GoR.op rfl rfl (fa25_1 rfl) rfl ?_
      refine GoR.op rfl rfl (ld23 rfl f6 rfl) rfl ?_
      refine GoR.call rfl rfl (aOp_callFunc aFunc132 rfl) (doubts_ok (A.es.ext e0) (by omega)) ?_ (by rintro _ _ ⟨q, _⟩; cases q)
      rintro v11 h11 ⟨q, x11⟩
      cases q
      refine ⟨_, rfl, ?_⟩
      replace e0 := e0.trans x11
      refine GoR.op rfl rfl (aOp_leq rfl rfl (r := true) (decide_eq_true (by omega))) rfl ?_
      iterate 2 refine GoR.op rfl rfl rfl rfl ?_
      refine GoR.end ?_
      exact Go.ret noJ_ok (ret_end (aResult_of Tryz.func92 rfl rfl) ⟨rfl, e0⟩)
     ·rw [decide_eq_false h5]
      have e0 : Ext h h := Ext.refl _
      refine Runs.intro aFunc92 rfl rfl rfl rfl fun rest => ?_
      refine Go.seq noJ_ok ?_
      refine Go.region noJ_ok rfl ?_
      refine GoR.box rfl rfl rfl rfl rfl rfl fun h6 x6 f6 => ?_
      replace e0 := e0.trans x6
      refine GoR.op rfl rfl rfl rfl ?_
      refine GoR.end ?_
      refine Go.seq noJ_ok ?_
      refine Go.region noJ_ok rfl ?_
      iterate 2 refine GoR.op rfl rfl rfl rfl ?_
      refine GoR.end ?_
      refine Go.seq noJ_ok ?_
      refine Go.region noJ_ok rfl ?_
      refine GoR.op rfl rfl (fa25_0 rfl) rfl ?_
      refine GoR.op rfl rfl (ld22 rfl f6 rfl) rfl ?_
      refine GoR.op rfl rfl (aOp_lenSlice Tryz.underlying22 rfl (by assumption)) rfl ?_
      refine GoR.call rfl rfl (aOp_callFunc aFunc95 rfl) (inside_is (r := true) (decide_eq_true (by omega))) ?_ (by rintro _ _ ⟨q, _⟩; cases q)
      rintro v7 h7 ⟨q, x7⟩
      cases q
      refine ⟨_, rfl, ?_⟩
      replace f6 := f6.ext x7
      replace e0 := e0.trans x7
      refine GoR.op rfl rfl rfl rfl ?_
      refine GoR.op rfl rfl (fa25_0 rfl) rfl ?_
      refine GoR.op rfl rfl (ld22 rfl f6 rfl) rfl ?_
      refine GoR.call rfl rfl (aOp_callFunc aFunc93 rfl) (partsOf_ok (A.ps.ext e0) (by omega)) ?_ (by rintro _ _ ⟨r, q, _, _⟩; cases q)
      rintro v8 h8 ⟨r, q, x8, f8⟩
      cases q
      refine ⟨_, rfl, ?_⟩
      replace f6 := f6.ext x8
      replace e0 := e0.trans x8
      refine GoR.call rfl rfl (aOp_callFunc aFunc129 rfl) (hcp (grow_slice pv_len rfl (by assumption))) ?_ (by rintro _ _ ⟨q, _⟩; cases q)
      rintro v9 h9 ⟨q, x9⟩
      cases q
      refine ⟨_, rfl, ?_⟩
      replace f6 := f6.ext x9
      replace e0 := e0.trans x9
      iterate 3 refine GoR.op rfl rfl rfl rfl ?_
      refine GoR.op rfl rfl (fa25_1 rfl) rfl ?_
      refine GoR.op rfl rfl (ld23 rfl f6 rfl) rfl ?_
      refine GoR.op rfl rfl (aOp_lenSlice Tryz.underlying23 rfl (by assumption)) rfl ?_
      refine GoR.op rfl rfl (aOp_leq rfl rfl (r := true) (decide_eq_true (by omega))) rfl ?_
      iterate 2 refine GoR.op rfl rfl rfl rfl ?_
      refine GoR.op rfl rfl (fa25_1 rfl) rfl ?_
      refine GoR.op rfl rfl (ld23 rfl f6 rfl) rfl ?_
      refine GoR.op rfl rfl rfl rfl ?_
      refine GoR.call rfl rfl (aOp_callFunc aFunc131 rfl) (hce (A.ext e0) (by assumption)) ?_ (by rintro _ _ ⟨q, _⟩; cases q)
      rintro v10 h10 ⟨q, x10⟩
      cases q
      refine ⟨_, rfl, ?_⟩
      replace f6 := f6.ext x10
      replace e0 := e0.trans x10
      iterate 3 refine GoR.op rfl rfl rfl rfl ?_
      refine GoR.op rfl rfl (fa25_1 rfl) rfl ?_
      refine GoR.op rfl rfl (ld23 rfl f6 rfl) rfl ?_
      refine GoR.call rfl rfl (aOp_callFunc aFunc132 rfl) (doubts_ok (A.es.ext e0) (by omega)) ?_ (by rintro _ _ ⟨q, _⟩; cases q)
      rintro v11 h11 ⟨q, x11⟩
      cases q
      refine ⟨_, rfl, ?_⟩
      replace e0 := e0.trans x11
      refine GoR.op rfl rfl (aOp_leq rfl rfl (r := false) (decide_eq_false (by omega))) rfl ?_
      iterate 2 refine GoR.op rfl rfl rfl rfl ?_
      refine GoR.end ?_
      exact Go.ret noJ_ok (ret_end (aResult_of Tryz.func92 rfl rfl) ⟨rfl, e0⟩)
   ·rw [decide_eq_false h3]
    have e0 : Ext h h := Ext.refl _
    refine Runs.intro aFunc92 rfl rfl rfl rfl fun rest => ?_
    refine Go.seq noJ_ok ?_
    refine Go.region noJ_ok rfl ?_
    refine GoR.box rfl rfl rfl rfl rfl rfl fun h4 x4 f4 => ?_
    replace e0 := e0.trans x4
    refine GoR.op rfl rfl rfl rfl ?_
    refine GoR.end ?_
    refine Go.seq noJ_ok ?_
    refine Go.region noJ_ok rfl ?_
    iterate 2 refine GoR.op rfl rfl rfl rfl ?_
    refine GoR.end ?_
    refine Go.seq noJ_ok ?_
    refine Go.region noJ_ok rfl ?_
    refine GoR.op rfl rfl (fa25_0 rfl) rfl ?_
    refine GoR.op rfl rfl (ld22 rfl f4 rfl) rfl ?_
    refine GoR.op rfl rfl (aOp_lenSlice Tryz.underlying22 rfl (by assumption)) rfl ?_
    refine GoR.call rfl rfl (aOp_callFunc aFunc95 rfl) (inside_is (r := true) (decide_eq_true (by omega))) ?_ (by rintro _ _ ⟨q, _⟩; cases q)
    rintro v5 h5 ⟨q, x5⟩
    cases q
    refine ⟨_, rfl, ?_⟩
    replace f4 := f4.ext x5
    replace e0 := e0.trans x5
    refine GoR.op rfl rfl rfl rfl ?_
    refine GoR.op rfl rfl (fa25_0 rfl) rfl ?_
    refine GoR.op rfl rfl (ld22 rfl f4 rfl) rfl ?_
    refine GoR.call rfl rfl (aOp_callFunc aFunc93 rfl) (partsOf_ok (A.ps.ext e0) (by omega)) ?_ (by rintro _ _ ⟨r, q, _, _⟩; cases q)
    rintro v6 h6 ⟨r, q, x6, f6⟩
    cases q
    refine ⟨_, rfl, ?_⟩
    replace f4 := f4.ext x6
    replace e0 := e0.trans x6
    refine GoR.call rfl rfl (aOp_callFunc aFunc129 rfl) (hcp (grow_slice pv_len rfl (by assumption))) ?_ (by rintro _ _ ⟨q, _⟩; cases q)
    rintro v7 h7 ⟨q, x7⟩
    cases q
    refine ⟨_, rfl, ?_⟩
    replace f4 := f4.ext x7
    replace e0 := e0.trans x7
    iterate 3 refine GoR.op rfl rfl rfl rfl ?_
    refine GoR.op rfl rfl (fa25_1 rfl) rfl ?_
    refine GoR.op rfl rfl (ld23 rfl f4 rfl) rfl ?_
    refine GoR.op rfl rfl (aOp_lenSlice Tryz.underlying23 rfl (by assumption)) rfl ?_
    refine GoR.op rfl rfl (aOp_leq rfl rfl (r := false) (decide_eq_false (by omega))) rfl ?_
    iterate 2 refine GoR.op rfl rfl rfl rfl ?_
    iterate 5 refine GoR.skip rfl rfl rfl ?_
    iterate 2 refine GoR.op rfl rfl rfl rfl ?_
    iterate 4 refine GoR.skip rfl rfl rfl ?_
    iterate 2 refine GoR.op rfl rfl rfl rfl ?_
    refine GoR.end ?_
    exact Go.ret noJ_ok (ret_end (aResult_of Tryz.func92 rfl rfl) ⟨rfl, e0⟩)
 ·rw [decide_eq_false h1]
  have e0 : Ext h h := Ext.refl _
  refine Runs.intro aFunc92 rfl rfl rfl rfl fun rest => ?_
  refine Go.seq noJ_ok ?_
  refine Go.region noJ_ok rfl ?_
  refine GoR.box rfl rfl rfl rfl rfl rfl fun h2 x2 f2 => ?_
  replace e0 := e0.trans x2
  refine GoR.op rfl rfl rfl rfl ?_
  refine GoR.end ?_
  refine Go.seq noJ_ok ?_
  refine Go.region noJ_ok rfl ?_
  iterate 2 refine GoR.op rfl rfl rfl rfl ?_
  refine GoR.end ?_
  refine Go.seq noJ_ok ?_
  refine Go.region noJ_ok rfl ?_
  refine GoR.op rfl rfl (fa25_0 rfl) rfl ?_
  refine GoR.op rfl rfl (ld22 rfl f2 rfl) rfl ?_
  refine GoR.op rfl rfl (aOp_lenSlice Tryz.underlying22 rfl (by assumption)) rfl ?_
  refine GoR.call rfl rfl (aOp_callFunc aFunc95 rfl) (inside_is (r := false) (decide_eq_false (by omega))) ?_ (by rintro _ _ ⟨q, _⟩; cases q)
  rintro v3 h3 ⟨q, x3⟩
  cases q
  refine ⟨_, rfl, ?_⟩
  replace e0 := e0.trans x3
  refine GoR.op rfl rfl rfl rfl ?_
  iterate 5 refine GoR.skip rfl rfl rfl ?_
  iterate 2 refine GoR.op rfl rfl rfl rfl ?_
  iterate 4 refine GoR.skip rfl rfl rfl ?_
  iterate 2 refine GoR.op rfl rfl rfl rfl ?_
  iterate 5 refine GoR.skip rfl rfl rfl ?_
  iterate 2 refine GoR.op rfl rfl rfl rfl ?_
  iterate 4 refine GoR.skip rfl rfl rfl ?_
  iterate 2 refine GoR.op rfl rfl rfl rfl ?_
  refine GoR.end ?_
  exact Go.ret noJ_ok (ret_end (aResult_of Tryz.func92 rfl rfl) ⟨rfl, e0⟩)
theorem valid_yes {R : RoadV} (O : R.Ok) {psl esl : AVal} {h : AH} (A : RoadAt h R psl esl) : Runs Tryz.prog 92 [.agg [psl, esl]] h (fun en h' => en = .ret (.bool true) ∧ Ext h h') := by
 have := O.np
 have := O.ne
 have k := valid_ok A (by omega) (by omega)
 rw [(okB_iff R).2 O] at k
 exact k
theorem valid_no {R : RoadV} (hno : ¬ R.Ok) {psl esl : AVal} {h : AH} (A : RoadAt h R psl esl) (hb1 : R.ps.length ≤ 40) (hb2 : R.es.length ≤ 40) : Runs Tryz.prog 92 [.agg [psl, esl]] h (fun en h' => en = .ret (.bool false) ∧ Ext h h') := by
 have k := valid_ok A hb1 hb2
 have : R.okB = false := by
  cases q : R.okB with
  | false => rfl
  | true => exact absurd ((okB_iff R).1 q) hno
 rw [this] at k
 exact k
def refusal (code : Int) : List AEntry := [⟨.iface 116 (.int .i64 code), false⟩]
theorem refuse_ok (b : Bool) (code : Int) (h : AH) : Runs Tryz.prog 91 [.bool b, .int .i64 code] h (fun en h' => h' = h ∧ ((b = false ∧ en = .ret (.tuple [])) ∨ (b = true ∧ en = .pan (refusal code)))) := by
 refine Runs.intro aFunc91 rfl rfl rfl rfl fun rest => ?_
 refine Go.seq noJ_ok (Go.region noJ_ok rfl ?_)
 refine GoR.op rfl rfl rfl rfl ?_
 cases b with
 | false =>
  refine GoR.end (Go.cond noJ_ok (b := false) rfl (Go.code noJ_ok (Go.endL (FLeft.ret (v := .tuple []) ?_ ⟨rfl, .inl ⟨rfl, rfl⟩⟩))))
  exact aResult_of Tryz.func91 rfl rfl
 | true =>
  refine GoR.end (Go.cond noJ_ok (b := true) rfl (Go.region noJ_ok rfl ?_))
  refine GoR.op rfl rfl rfl rfl ?_
  refine GoR.op rfl rfl rfl rfl ?_
  refine GoR.panic rfl rfl rfl (FLeft.pan ⟨rfl, .inr ⟨rfl, rfl⟩⟩)
theorem attempt_pan {rest : List AFr} {t : Tr AVal} {h : AH} {b : Nat} {c0 code : Int} {R : AEnd → AH → Prop} (ht : t.get (pth 4) = some (.ptr b 0)) (hb : Has h b (.cells .plain [.int .i64 c0] 30))
  (hR : ∀ h', h.next ≤ h'.next → (∀ x, x < h.next → x ≠ b → h'.get x = h.get x) → R (.ret (.int .i64 code)) h') :
  FLeft Tryz.prog ⟨48, 19, [.call (.func 90) [.ptr b 0] []], false, none, rest⟩ (.panicking (refusal code)) t h (Post Tryz.prog 48 rest R) := by
 refine FLeft.defer (fun q => by cases q) aFunc90 rfl rfl rfl rfl fun todo => ?_
 refine Go.seq noJ_ok (Go.region noJ_ok rfl ?_)
 refine GoR.recover1 rfl rfl rfl rfl rfl ?_
 have y0 : ExtF (fun x => x = b) h h := ExtF.of (Ext.refl _)
 refine GoR.end ?_
 refine Go.block noJ_ok ?_
 refine Go.seq noJ_ok ?_
 refine Go.region noJ_ok rfl ?_
 refine GoR.op rfl rfl rfl rfl ?_
 refine GoR.end ?_
 refine Go.cond noJ_ok (b := false) rfl ?_
 refine Go.seq noJ_ok ?_
 refine Go.region noJ_ok rfl ?_
 iterate 3 refine GoR.op rfl rfl rfl rfl ?_
 refine GoR.end ?_
 refine Go.cond noJ_ok (b := true) rfl ?_
 refine Go.seq noJ_ok ?_
 refine Go.region noJ_ok rfl ?_
 refine GoR.op rfl rfl rfl rfl ?_
 refine GoR.end ?_
 refine Go.region noJ_ok rfl ?_
 refine GoR.op rfl rfl rfl rfl ?_
 refine GoR.store rfl rfl rfl rfl rfl rfl hb rfl sz30 rfl rfl rfl fun h0 u0 => ?_
 replace hb := u0.has hb
 replace y0 := y0.upd u0 (.inl rfl)
 refine GoR.end ?_
 refine Go.inBlock noJ_ok ?_
 refine Go.endL ?_
 refine FLeft.settle (v := .tuple []) (aResult_of Tryz.func90 rfl rfl) ?_
 exact FLeft.ret (v := .int .i64 code) (aResult_of Tryz.func48 rfl (aResults_cell ht hb (inCells_one ag30 rfl))) (hR _ y0.1 fun x hx hn => y0.2 x hx hn) todo
theorem attempt_ret {rest : List AFr} {t : Tr AVal} {h : AH} {b : Nat} {code : Int} {R : AEnd → AH → Prop} (ht : t.get (pth 4) = some (.ptr b 0)) (hb : Has h b (.cells .plain [.int .i64 code] 30)) (hR : R (.ret (.int .i64 code)) h) :
  FLeft Tryz.prog ⟨48, 19, [.call (.func 90) [.ptr b 0] []], false, none, rest⟩ .returning t h (Post Tryz.prog 48 rest R) := by
 refine FLeft.defer (fun q => by cases q) aFunc90 rfl rfl rfl rfl fun todo => ?_
 refine Go.seq noJ_ok (Go.region noJ_ok rfl ?_)
 refine GoR.recover0 rfl rfl rfl rfl rfl ?_
 refine GoR.end ?_
 refine Go.block noJ_ok ?_
 refine Go.seq noJ_ok ?_
 refine Go.region noJ_ok rfl ?_
 refine GoR.op rfl rfl rfl rfl ?_
 refine GoR.end ?_
 refine Go.cond noJ_ok (b := true) rfl ?_
 refine Go.region noJ_ok rfl ?_
 refine GoR.op rfl rfl rfl rfl ?_
 refine GoR.end ?_
 refine Go.inBlock noJ_ok ?_
 refine Go.endL ?_
 refine FLeft.settle (v := .tuple []) (aResult_of Tryz.func90 rfl rfl) ?_
 exact FLeft.ret (v := .int .i64 code) (aResult_of Tryz.func48 rfl (aResults_cell ht hb (inCells_one ag30 rfl))) hR todo
theorem refuse_no (code : Int) (h : AH) : Runs Tryz.prog 91 [.bool false, .int .i64 code] h (fun en h' => en = .ret (.tuple []) ∧ Ext h h') :=
 (refuse_ok false code h).mono fun en h' k => by
  rcases k with ⟨rfl, ⟨_, q⟩ | ⟨q, _⟩⟩
  ·exact ⟨q, Ext.refl _⟩
  ·cases q
theorem refuse_yes (code : Int) (h : AH) : Runs Tryz.prog 91 [.bool true, .int .i64 code] h (fun en h' => en = .pan (refusal code) ∧ Ext h h') :=
 (refuse_ok true code h).mono fun en h' k => by
  rcases k with ⟨rfl, ⟨q, _⟩ | ⟨_, q⟩⟩
  ·cases q
  ·exact ⟨q, Ext.refl _⟩
theorem attempt_ok {R : RoadV} (O : R.Ok) (psl esl : AVal) (h : AH) (A : RoadAt h R psl esl) (W : FuncId) (fW : Func) (hfid : aFunc Tryz.prog W = some fW) (caps : List AVal) (hsm : sameA (.func (.func W) [] caps) (.func (.func W) [] caps) = true) (S : Nat → Prop) (hS : ∀ b, S b → b < h.next) (T : Int → AH → Prop)
  (hbody : ∀ h' gp ge, Ext h h' → GroundAt h' R h.next gp ge → Runs Tryz.prog W ([.agg [gp, ge]] ++ caps) h' (fun en h'' => ExtF S h' h'' ∧ ((en = .ret (.tuple []) ∧ T 0 h'') ∨ ∃ code, en = .pan (refusal code) ∧ T code h''))) :
  Runs Tryz.prog 48 [.agg [psl, esl], .func (.func W) [] caps] h (fun en h' => ∃ code h2, en = .ret (.int .i64 code) ∧ T code h2 ∧ ExtF S h h' ∧ h2.next ≤ h'.next ∧ ∀ b, b < h.next → h'.get b = h2.get b) := by
 have hv := fun h A => valid_yes O (psl := psl) (esl := esl) (h := h) A
 have hnp := O.np
 have hne := O.ne
 have hk : ∀ e, e ∈ R.es → e.kind = 0 ∨ e.kind = 1 ∨ e.kind = 2 := fun e he => by
  rcases O.e e he with q | q | q
  ·exact .inl q.1
  ·exact .inr (.inl q.1)
  ·exact .inr (.inr q.1)
 have s1 := A.es.same
 have s2 := A.ps.same
 have e0 : Ext h h := Ext.refl _
 refine Runs.intro aFunc48 rfl rfl rfl rfl fun rest => ?_
 refine Go.seq noJ_ok ?_
 refine Go.region noJ_ok rfl ?_
 refine GoR.box rfl rfl rfl rfl rfl rfl fun h0 x0 f0 => ?_
 have := e0.1
 replace e0 := e0.trans x0
 have := f0.1
 refine GoR.alloc rfl rfl rfl zt30 rfl rfl fun h1 x1 f1 => ?_
 have := e0.1
 have := f0.1
 replace f0 := f0.ext x1
 replace e0 := e0.trans x1
 have := f1.1
 refine GoR.end ?_
 refine Go.seq noJ_ok ?_
 refine Go.region noJ_ok rfl ?_
 refine GoR.op rfl rfl rfl rfl ?_
 have hx0 := x0.1
 have hx1 := x1.1
 refine GoR.defer rfl rfl rfl rfl ?_
 refine GoR.end ?_
 refine Go.seq noJ_ok ?_
 refine Go.region noJ_ok rfl ?_
 refine GoR.op rfl rfl (ld25 rfl f0 rfl) rfl ?_
 refine GoR.call rfl rfl (aOp_callFunc aFunc92 rfl) (hv _ (A.ext e0)) ?_ (by rintro _ _ ⟨q, _⟩; cases q)
 rintro v2 h2 ⟨q, x2⟩
 cases q
 refine ⟨_, rfl, ?_⟩
 replace f1 := f1.ext x2
 replace f0 := f0.ext x2
 replace e0 := e0.trans x2
 refine GoR.op rfl rfl rfl rfl ?_
 refine GoR.call rfl rfl (aOp_callFunc aFunc91 rfl) (refuse_no 1 _) ?_ (by rintro _ _ ⟨q, _⟩; cases q)
 rintro v3 h3 ⟨q, x3⟩
 cases q
 refine ⟨_, rfl, ?_⟩
 replace f1 := f1.ext x3
 replace f0 := f0.ext x3
 replace e0 := e0.trans x3
 refine GoR.end ?_
 refine Go.seq noJ_ok ?_
 refine Go.drawnE plan48_0 ?_
 refine GoE.quiet rfl rfl rfl rfl ?_
 refine GoE.quiet rfl rfl (fa25_0 rfl) rfl ?_
 refine GoE.quiet rfl rfl (ld22 rfl f0 rfl) rfl ?_
 refine GoE.quiet rfl rfl (fa25_1 rfl) rfl ?_
 refine GoE.quiet rfl rfl (ld23 rfl f0 rfl) rfl ?_
 refine GoE.call rfl rfl (aOp_callFunc aFunc93 rfl) (partsOf_ok (A.ps.ext e0) (by omega)) (dropF_keep (show bit? 6 5 = false from rfl) (dropF_keep (show bit? 6 4 = false from rfl) (dropF_drop (show bit? 6 2 = true from rfl) (dropF_drop (show bit? 6 1 = true from rfl) (dropF_keep (show bit? 6 0 = false from rfl) rfl))))) ?_ (by rintro _ _ ⟨gp, q, _, g4⟩; cases q)
 rintro v4 h4 ⟨gp, q, x4, g4⟩
 cases q
 have := e0.1
 have := f1.1
 have := f0.1
 replace f1 := f1.ext x4
 replace f0 := f0.ext x4
 replace e0 := e0.trans x4
 refine ⟨(rck (h2 := h4) rfl (ld23 rfl f0 rfl) (rck (h2 := h4) rfl (fa25_1 rfl) (rck (h2 := h4) rfl (rfl) recheck_nil))), _, rfl, ?_⟩
 refine GoE.call rfl rfl (aOp_callFunc aFunc94 rfl) (eventsOf_ok (A.es.ext e0) (by omega) hk) (dropF_drop (show bit? 62 5 = true from rfl) (dropF_drop (show bit? 62 4 = true from rfl) (dropF_keep (show bit? 62 0 = false from rfl) rfl))) ?_ (by rintro _ _ ⟨ge, q, _, g5⟩; cases q)
 rintro v5 h5 ⟨ge, q, x5, g5⟩
 cases q
 have := e0.1
 have := f1.1
 have := f0.1
 replace f1 := f1.ext x5
 replace e0 := e0.trans x5
 refine ⟨(rck (h2 := h5) rfl (rfl) recheck_nil), _, rfl, ?_⟩
 have he5 := e0.1
 have l1 := (grow_scal g4).2
 have l2 := (grow_scal g5).2
 have hx5 := x5.1
 have hx4 := x4.1
 have K : GroundAt h5 R h.next v4 v5 := ⟨grow_slice pv_len rfl (g4.ext x5), grow_slice (f := fun e => [evC e]) (sz := 1) (fun _ => rfl) rfl g5⟩
 refine GoE.quiet rfl rfl (aOp_build (ps := [(0, v4), (1, v5)]) (cs := [v4, v5]) zt77 hu77 pl77 rfl (by simp [aFillA, l1, l2, cells_agg, splice])) rfl ?_
 have nf1 := f1.1
 have hnS : ¬ S h0.next := fun q => by have := hS _ q; omega
 refine GoE.callP rfl rfl (aOp_callVal rfl hfid rfl) (hbody h5 v4 v5 e0 K) (dropF_drop (show bit? 255 7 = true from rfl) (dropF_drop (show bit? 255 0 = true from rfl) rfl)) ?_ ?_
 ·rintro v h6 ⟨x6, ⟨q, t6⟩ | ⟨code, q, _⟩⟩
  ·cases q
   refine ⟨?_, _, rfl, ?_⟩
   ·exact recheck_nil
   have hx6 := x6.1
   replace f1 := f1.extF x6 hnS
   have y9 : ExtF S h h6 := (ExtF.of e0).trans (fun _ q => .inl q) x6
   clear e0 f0
   refine GoE.end rfl ?_
   refine Go.seq noJ_ok ?_
   refine Go.region noJ_ok rfl ?_
   refine GoR.store rfl rfl rfl rfl rfl rfl f1 rfl sz30 rfl rfl rfl fun h7 u7 => ?_
   replace f1 := u7.has f1
   replace y9 := y9.upd u7 (.inr (by omega))
   refine GoR.end ?_
   exact Go.retL (attempt_ret rfl f1 ⟨0, h6, rfl, t6, y9, by rw [u7.1]; exact Nat.le_refl _, fun b hb => u7.2.2 b (by omega)⟩)
  ·cases q
 ·rintro chain h6 ⟨x6, ⟨q, _⟩ | ⟨code, q, t6⟩⟩
  ·cases q
  have q := AEnd.pan.inj q
  subst q
  have hx6 := x6.1
  refine attempt_pan rfl (f1.extF x6 hnS) fun h' n1 n2 => ⟨code, h6, rfl, t6, ⟨by omega, fun b hb hbS => by rw [n2 b (by omega) (by omega), x6.2 b (by omega) hbS, e0.2 b hb]⟩, n1, fun b hlt => n2 b (by omega) (by omega)⟩
theorem attempt_bad {R : RoadV} (hno : ¬ R.Ok) (hb1 : R.ps.length ≤ 40) (hb2 : R.es.length ≤ 40) (psl esl : AVal) (h : AH) (A : RoadAt h R psl esl) (W : FuncId) (caps : List AVal) :
  Runs Tryz.prog 48 [.agg [psl, esl], .func (.func W) [] caps] h (fun en h' => en = .ret (.int .i64 1) ∧ Ext h h') := by
 have hv := fun h A => valid_no hno (psl := psl) (esl := esl) (h := h) A hb1 hb2
 have e0 : Ext h h := Ext.refl _
 refine Runs.intro aFunc48 rfl rfl rfl rfl fun rest => ?_
 refine Go.seq noJ_ok ?_
 refine Go.region noJ_ok rfl ?_
 refine GoR.box rfl rfl rfl rfl rfl rfl fun h0 x0 f0 => ?_
 replace e0 := e0.trans x0
 refine GoR.alloc rfl rfl rfl zt30 rfl rfl fun h1 x1 f1 => ?_
 replace f0 := f0.ext x1
 replace e0 := e0.trans x1
 refine GoR.end ?_
 refine Go.seq noJ_ok ?_
 refine Go.region noJ_ok rfl ?_
 refine GoR.op rfl rfl rfl rfl ?_
 have hx0 := x0.1
 have hx1 := x1.1
 refine GoR.defer rfl rfl rfl rfl ?_
 refine GoR.end ?_
 refine Go.seq noJ_ok ?_
 refine Go.region noJ_ok rfl ?_
 refine GoR.op rfl rfl (ld25 rfl f0 rfl) rfl ?_
 refine GoR.call rfl rfl (aOp_callFunc aFunc92 rfl) (hv _ (A.ext e0)) ?_ (by rintro _ _ ⟨q, _⟩; cases q)
 rintro v2 h2 ⟨q, x2⟩
 cases q
 refine ⟨_, rfl, ?_⟩
 replace f1 := f1.ext x2
 replace e0 := e0.trans x2
 refine GoR.op rfl rfl rfl rfl ?_
 refine GoR.callP rfl rfl (aOp_callFunc aFunc91 rfl) (refuse_ok true 1 _) (by rintro _ _ ⟨_, ⟨q, _⟩ | ⟨_, q⟩⟩ <;> cases q) ?_
 rintro chain h9 ⟨rfl, ⟨q, _⟩ | ⟨_, q⟩⟩
 ·cases q
 have q := AEnd.pan.inj q
 subst q
 have hx9 := e0.1
 refine attempt_pan rfl f1 fun h' n1 n2 => ⟨rfl, ?_, fun b hb => by rw [n2 b (by omega) (by omega), e0.2 b hb]⟩
 omega
theorem needLoad_ok {n : Int} {h : AH} : Runs Tryz.prog 60 [.int .i64 n] h (fun en h' => en = (if 0 ≤ n ∧ n ≤ 60 then .ret (.tuple []) else .pan (refusal 2)) ∧ Ext h h') := by
 by_cases hq : 0 ≤ n ∧ n ≤ 60
 ·rw [if_pos hq]
  have e0 : Ext h h := Ext.refl _
  refine Runs.intro aFunc60 rfl rfl rfl rfl fun rest => ?_
  refine Go.region noJ_ok rfl ?_
  refine GoR.op rfl rfl rfl rfl ?_
  refine GoR.call rfl rfl (aOp_callFunc aFunc95 rfl) (inside_is (r := true) (decide_eq_true hq)) ?_ (by rintro _ _ ⟨q, _⟩; cases q)
  rintro v0 h0 ⟨q, x0⟩
  cases q
  refine ⟨_, rfl, ?_⟩
  replace e0 := e0.trans x0
  refine GoR.op rfl rfl rfl rfl ?_
  refine GoR.call rfl rfl (aOp_callFunc aFunc91 rfl) (refuse_no _ _) ?_ (by rintro _ _ ⟨q, _⟩; cases q)
  rintro v1 h1 ⟨q, x1⟩
  cases q
  refine ⟨_, rfl, ?_⟩
  replace e0 := e0.trans x1
  refine GoR.end ?_
  exact Go.endL (FLeft.ret (v := .tuple []) (aResult_of Tryz.func60 rfl rfl) ⟨rfl, e0⟩)
 ·rw [if_neg hq]
  have e0 : Ext h h := Ext.refl _
  refine Runs.intro aFunc60 rfl rfl rfl rfl fun rest => ?_
  refine Go.region noJ_ok rfl ?_
  refine GoR.op rfl rfl rfl rfl ?_
  refine GoR.call rfl rfl (aOp_callFunc aFunc95 rfl) (inside_is (r := false) (decide_eq_false hq)) ?_ (by rintro _ _ ⟨q, _⟩; cases q)
  rintro v0 h0 ⟨q, x0⟩
  cases q
  refine ⟨_, rfl, ?_⟩
  replace e0 := e0.trans x0
  refine GoR.op rfl rfl rfl rfl ?_
  refine GoR.callP rfl rfl (aOp_callFunc aFunc91 rfl) (refuse_yes _ _) (by rintro _ _ ⟨q, _⟩; cases q) ?_
  rintro chain h1 ⟨q, x1⟩
  have q := AEnd.pan.inj q
  subst q
  replace e0 := e0.trans x1
  exact FLeft.pan (⟨rfl, e0⟩)
theorem needPart_ok {R : RoadV} {lo : Nat} {gp ge : AVal} {n : Int} {h : AH} (A : GroundAt h R lo gp ge) (hl : R.ps.length ≤ 40) : Runs Tryz.prog 50 [.agg [gp, ge], .int .i64 n] h (fun en h' => en = (if 0 ≤ n ∧ n ≤ (R.ps.length : Int) - 1 then .ret (.tuple []) else .pan (refusal 2)) ∧ Ext h h') := by
 have hl1 := A.psl.len
 rw [List.length_map] at hl1
 by_cases hq : 0 ≤ n ∧ n ≤ (R.ps.length : Int) - 1
 ·rw [if_pos hq]
  have e0 : Ext h h := Ext.refl _
  refine Runs.intro aFunc50 rfl rfl rfl rfl fun rest => ?_
  refine Go.seq noJ_ok ?_
  refine Go.region noJ_ok rfl ?_
  refine GoR.box rfl rfl rfl rfl rfl rfl fun h0 x0 f0 => ?_
  replace e0 := e0.trans x0
  refine GoR.end ?_
  refine Go.region noJ_ok rfl ?_
  refine GoR.op rfl rfl rfl rfl ?_
  refine GoR.op rfl rfl (fa77_0 rfl) rfl ?_
  refine GoR.op rfl rfl (ld74 rfl f0 rfl) rfl ?_
  refine GoR.op rfl rfl (aOp_lenSlice Tryz.underlying74 rfl (by assumption)) rfl ?_
  refine GoR.op rfl rfl (aOp_sub rfl rfl (by constructor <;> omega) rfl) rfl ?_
  refine GoR.call rfl rfl (aOp_callFunc aFunc95 rfl) (inside_is (r := true) (decide_eq_true hq)) ?_ (by rintro _ _ ⟨q, _⟩; cases q)
  rintro v1 h1 ⟨q, x1⟩
  cases q
  refine ⟨_, rfl, ?_⟩
  replace e0 := e0.trans x1
  refine GoR.op rfl rfl rfl rfl ?_
  refine GoR.call rfl rfl (aOp_callFunc aFunc91 rfl) (refuse_no _ _) ?_ (by rintro _ _ ⟨q, _⟩; cases q)
  rintro v2 h2 ⟨q, x2⟩
  cases q
  refine ⟨_, rfl, ?_⟩
  replace e0 := e0.trans x2
  refine GoR.end ?_
  exact Go.endL (FLeft.ret (v := .tuple []) (aResult_of Tryz.func50 rfl rfl) ⟨rfl, e0⟩)
 ·rw [if_neg hq]
  have e0 : Ext h h := Ext.refl _
  refine Runs.intro aFunc50 rfl rfl rfl rfl fun rest => ?_
  refine Go.seq noJ_ok ?_
  refine Go.region noJ_ok rfl ?_
  refine GoR.box rfl rfl rfl rfl rfl rfl fun h0 x0 f0 => ?_
  replace e0 := e0.trans x0
  refine GoR.end ?_
  refine Go.region noJ_ok rfl ?_
  refine GoR.op rfl rfl rfl rfl ?_
  refine GoR.op rfl rfl (fa77_0 rfl) rfl ?_
  refine GoR.op rfl rfl (ld74 rfl f0 rfl) rfl ?_
  refine GoR.op rfl rfl (aOp_lenSlice Tryz.underlying74 rfl (by assumption)) rfl ?_
  refine GoR.op rfl rfl (aOp_sub rfl rfl (by constructor <;> omega) rfl) rfl ?_
  refine GoR.call rfl rfl (aOp_callFunc aFunc95 rfl) (inside_is (r := false) (decide_eq_false hq)) ?_ (by rintro _ _ ⟨q, _⟩; cases q)
  rintro v1 h1 ⟨q, x1⟩
  cases q
  refine ⟨_, rfl, ?_⟩
  replace e0 := e0.trans x1
  refine GoR.op rfl rfl rfl rfl ?_
  refine GoR.callP rfl rfl (aOp_callFunc aFunc91 rfl) (refuse_yes _ _) (by rintro _ _ ⟨q, _⟩; cases q) ?_
  rintro chain h2 ⟨q, x2⟩
  have q := AEnd.pan.inj q
  subst q
  replace e0 := e0.trans x2
  exact FLeft.pan (⟨rfl, e0⟩)
theorem needEvent_ok {R : RoadV} {lo : Nat} {gp ge : AVal} {n : Int} {h : AH} (A : GroundAt h R lo gp ge) (hl : R.es.length ≤ 40) : Runs Tryz.prog 51 [.agg [gp, ge], .int .i64 n] h (fun en h' => en = (if 0 ≤ n ∧ n ≤ (R.es.length : Int) - 1 then .ret (.tuple []) else .pan (refusal 2)) ∧ Ext h h') := by
 have hl1 := A.esl.len
 rw [List.length_map] at hl1
 by_cases hq : 0 ≤ n ∧ n ≤ (R.es.length : Int) - 1
 ·rw [if_pos hq]
  have e0 : Ext h h := Ext.refl _
  refine Runs.intro aFunc51 rfl rfl rfl rfl fun rest => ?_
  refine Go.seq noJ_ok ?_
  refine Go.region noJ_ok rfl ?_
  refine GoR.box rfl rfl rfl rfl rfl rfl fun h0 x0 f0 => ?_
  replace e0 := e0.trans x0
  refine GoR.end ?_
  refine Go.region noJ_ok rfl ?_
  refine GoR.op rfl rfl rfl rfl ?_
  refine GoR.op rfl rfl (fa77_1 rfl) rfl ?_
  refine GoR.op rfl rfl (ld75 rfl f0 rfl) rfl ?_
  refine GoR.op rfl rfl (aOp_lenSlice Tryz.underlying75 rfl (by assumption)) rfl ?_
  refine GoR.op rfl rfl (aOp_sub rfl rfl (by constructor <;> omega) rfl) rfl ?_
  refine GoR.call rfl rfl (aOp_callFunc aFunc95 rfl) (inside_is (r := true) (decide_eq_true hq)) ?_ (by rintro _ _ ⟨q, _⟩; cases q)
  rintro v1 h1 ⟨q, x1⟩
  cases q
  refine ⟨_, rfl, ?_⟩
  replace e0 := e0.trans x1
  refine GoR.op rfl rfl rfl rfl ?_
  refine GoR.call rfl rfl (aOp_callFunc aFunc91 rfl) (refuse_no _ _) ?_ (by rintro _ _ ⟨q, _⟩; cases q)
  rintro v2 h2 ⟨q, x2⟩
  cases q
  refine ⟨_, rfl, ?_⟩
  replace e0 := e0.trans x2
  refine GoR.end ?_
  exact Go.endL (FLeft.ret (v := .tuple []) (aResult_of Tryz.func51 rfl rfl) ⟨rfl, e0⟩)
 ·rw [if_neg hq]
  have e0 : Ext h h := Ext.refl _
  refine Runs.intro aFunc51 rfl rfl rfl rfl fun rest => ?_
  refine Go.seq noJ_ok ?_
  refine Go.region noJ_ok rfl ?_
  refine GoR.box rfl rfl rfl rfl rfl rfl fun h0 x0 f0 => ?_
  replace e0 := e0.trans x0
  refine GoR.end ?_
  refine Go.region noJ_ok rfl ?_
  refine GoR.op rfl rfl rfl rfl ?_
  refine GoR.op rfl rfl (fa77_1 rfl) rfl ?_
  refine GoR.op rfl rfl (ld75 rfl f0 rfl) rfl ?_
  refine GoR.op rfl rfl (aOp_lenSlice Tryz.underlying75 rfl (by assumption)) rfl ?_
  refine GoR.op rfl rfl (aOp_sub rfl rfl (by constructor <;> omega) rfl) rfl ?_
  refine GoR.call rfl rfl (aOp_callFunc aFunc95 rfl) (inside_is (r := false) (decide_eq_false hq)) ?_ (by rintro _ _ ⟨q, _⟩; cases q)
  rintro v1 h1 ⟨q, x1⟩
  cases q
  refine ⟨_, rfl, ?_⟩
  replace e0 := e0.trans x1
  refine GoR.op rfl rfl rfl rfl ?_
  refine GoR.callP rfl rfl (aOp_callFunc aFunc91 rfl) (refuse_yes _ _) (by rintro _ _ ⟨q, _⟩; cases q) ?_
  rintro chain h2 ⟨q, x2⟩
  have q := AEnd.pan.inj q
  subst q
  replace e0 := e0.trans x2
  exact FLeft.pan (⟨rfl, e0⟩)
end Go.Proofs.YtkcimfopboelaaaGreat

set_option linter.unusedSimpArgs false
namespace Go.AbsE
open Go
section
variable {P : Program}
def IterP (P : Program) (g : FuncId) (first cap : List AVal) (items : List (List AVal)) (A : AH → Prop) : Prop :=
 ∀ (y : AVal) (J E : Nat → AH → Prop) (h : AH), y.cells = [y] → scalars [y] = true → (∀ k h, J k h → A h) →
  (∀ (k : Nat) item h, items[k]? = some item → J k h → ∃ x, callY P y [.agg item] h = some x ∧ (∀ v h', x ≠ .val v h') ∧ Does P x (fun en h' => (en = .ret (.bool true) ∧ J (k + 1) h') ∨ (en = .ret (.bool false) ∧ E k h'))) →
  J 0 h → Runs P g (first ++ [y] ++ cap) h (fun en h' => en = .ret (.tuple []) ∧ (J items.length h' ∨ ∃ k, k < items.length ∧ E k h'))
theorem IterP.iter {g : FuncId} {first cap : List AVal} {items : List (List AVal)} {A : AH → Prop} (k : IterP P g first cap items A) : Iter P g first cap items A := by
 intro y base S J E h hyc hys hA hb T j0
 obtain ⟨fr, hfr, hr⟩ := k y (fun n h' => ExtF S h h' ∧ J n h') (fun n h' => ExtF S h h' ∧ E n h') h hyc hys (fun _ h' q => hA h' q.1) (fun n item h' hit q => by
  obtain ⟨x, c1, c2, c3⟩ := T.take hit q.2
  refine ⟨x, c1, c2, c3.mono fun en h'' r => ?_⟩
  have x2 : ExtF S h h'' := q.1.trans (fun _ w => .inl w) r.1
  exact r.2.elim (fun r => .inl ⟨r.1, x2, r.2⟩) (fun r => .inr ⟨r.1, x2, r.2⟩)) ⟨ExtF.of (Ext.refl _), j0⟩
 exact Runs.mono ⟨fr, hfr, hr⟩ fun en h' q => ⟨q.1, q.2.elim (fun r => r.1) (fun ⟨_, _, r⟩ => r.1), q.2.elim (fun r => .inl r.2) (fun ⟨m, hm, r⟩ => .inr ⟨m, hm, r.2⟩)⟩
end
end Go.AbsE
