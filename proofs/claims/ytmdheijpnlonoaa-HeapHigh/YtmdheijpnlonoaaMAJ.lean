import Derived.Test.YtmdheijpnlonoaaMAG
import Derived.Test.YtmdheijpnlonoaaMAH
import Derived.Test.YtmdheijpnlonoaaMAI
namespace Go.Proofs.Ytmdheijpnlonoaa
open Go Go.AbsE
set_option linter.unusedSimpArgs false
set_option maxRecDepth 100000
set_option maxHeartbeats 0
set_option linter.unusedVariables false
theorem flds30 : ∃ fs, Try.prog.underlying 30 = some (.struct fs) ∧ placesT Try.prog fs.toList = some [(0, 1), (1, 1)] := ⟨_, Try.underlying30, by kernel_rfl⟩
theorem flds119 : ∃ fs, Try.prog.underlying 119 = some (.struct fs) ∧ placesT Try.prog fs.toList = some [(0, 1)] := ⟨_, Try.underlying119, by kernel_rfl⟩
def spC (p : Int × Int) : List AVal := [.int .i64 p.1, .int .i64 p.2]
def joinP (a b : Int × Int) : Int × Int := (if b.1 < a.1 then b.1 else a.1, if a.2 < b.2 then b.2 else a.2)
def noSp : Int × Int := (9223372036854775807, -9223372036854775808)
def joinL (l : List (Int × Int)) : Int × Int := l.foldl joinP noSp

theorem inside_ok (n a b : Int) {r : Bool} (hr : decide (a ≤ n ∧ n ≤ b) = r) (h : AH) : Runs Try.prog 66 [.int .i64 n, .int .i64 a, .int .i64 b] h (fun en h' => en = .ret (.bool r) ∧ Ext h h') := by
  refine Runs.intro aFunc66 rfl rfl rfl rfl fun rest => ?_
  refine Go.seq noJ_ok (Go.region noJ_ok rfl ?_)
  refine GoR.op rfl rfl rfl rfl ?_
  refine GoR.end (Go.seq noJ_ok (Go.region noJ_ok rfl ?_))
  cases e1 : decide (a ≤ n) with
  | false =>
    refine GoR.op rfl rfl rfl rfl ?_
    refine GoR.op rfl rfl rfl rfl ?_
    refine GoR.op rfl rfl (aOp_leq rfl rfl e1) rfl ?_
    refine GoR.op rfl rfl rfl rfl ?_
    refine GoR.skip rfl rfl rfl ?_
    refine GoR.skip rfl rfl rfl ?_
    refine GoR.skip rfl rfl rfl ?_
    refine GoR.op rfl rfl rfl rfl ?_
    refine GoR.op rfl rfl rfl rfl ?_
    refine GoR.end (Go.ret noJ_ok (ret_end (aResult_of Try.func66 rfl rfl) ⟨?_, Ext.refl _⟩))
    rw [← hr]
    simp only [decide_eq_true_eq, decide_eq_false_iff_not] at e1
    simp [oneOrTuple]
    try omega
  | true =>
    cases e2 : decide (n ≤ b) with
    | false =>
      refine GoR.op rfl rfl rfl rfl ?_
      refine GoR.op rfl rfl rfl rfl ?_
      refine GoR.op rfl rfl (aOp_leq rfl rfl e1) rfl ?_
      refine GoR.op rfl rfl rfl rfl ?_
      refine GoR.op rfl rfl rfl rfl ?_
      refine GoR.op rfl rfl rfl rfl ?_
      refine GoR.op rfl rfl (aOp_leq rfl rfl e2) rfl ?_
      refine GoR.op rfl rfl rfl rfl ?_
      refine GoR.op rfl rfl rfl rfl ?_
      refine GoR.end (Go.ret noJ_ok (ret_end (aResult_of Try.func66 rfl rfl) ⟨?_, Ext.refl _⟩))
      rw [← hr]
      simp only [decide_eq_true_eq, decide_eq_false_iff_not] at e1 e2
      simp [oneOrTuple]
      try omega
    | true =>
      refine GoR.op rfl rfl rfl rfl ?_
      refine GoR.op rfl rfl rfl rfl ?_
      refine GoR.op rfl rfl (aOp_leq rfl rfl e1) rfl ?_
      refine GoR.op rfl rfl rfl rfl ?_
      refine GoR.op rfl rfl rfl rfl ?_
      refine GoR.op rfl rfl rfl rfl ?_
      refine GoR.op rfl rfl (aOp_leq rfl rfl e2) rfl ?_
      refine GoR.op rfl rfl rfl rfl ?_
      refine GoR.op rfl rfl rfl rfl ?_
      refine GoR.end (Go.ret noJ_ok (ret_end (aResult_of Try.func66 rfl rfl) ⟨?_, Ext.refl _⟩))
      rw [← hr]
      simp only [decide_eq_true_eq, decide_eq_false_iff_not] at e1 e2
      simp [oneOrTuple]
      try omega

theorem one_ok (n : Int) (h : AH) : Runs Try.prog 78 [.int .i64 n] h (fun en h' => en = .ret (.agg (spC (n, n))) ∧ Ext h h') := by
  obtain ⟨fs30, hu30, pl30⟩ := flds30
  refine Runs.intro aFunc78 rfl rfl rfl rfl fun rest => ?_
  refine Go.seq noJ_ok ?_
  refine Go.region noJ_ok rfl ?_
  refine GoR.alloc rfl rfl rfl zt30 rfl rfl fun h0 x0 f0 => ?_
  have e0 := x0
  have := f0.1
  refine GoR.end ?_
  refine Go.seq noJ_ok ?_
  refine Go.region noJ_ok rfl ?_
  iterate 2 refine GoR.op rfl rfl rfl rfl ?_
  refine GoR.op rfl rfl (aOp_build (ps := [(0, .int .i64 n), (1, .int .i64 n)]) (cs := [.int .i64 n, .int .i64 n]) zt30 hu30 pl30 rfl rfl) rfl ?_
  refine GoR.store rfl rfl rfl rfl rfl rfl f0 rfl sz30 rfl rfl rfl fun h1 u1 => ?_
  replace f0 := u1.has f0
  replace e0 := e0.upd u1 (by omega)
  refine GoR.end ?_
  exact Go.ret noJ_ok (ret_end (aResult_of Try.func78 rfl (aResults_cell rfl f0 (inCells_agg ag30 sz30 rfl))) ⟨rfl, e0⟩)

theorem join_ok (L : List (Int × Int)) (s : AVal) (h : AH) (hs : SliceOf h 2 s (L.map spC)) (hL : L.length ≤ 100) : Runs Try.prog 76 [s] h (fun en h' => en = .ret (.agg (spC (joinL L))) ∧ Ext h h') := by
  obtain ⟨fs30, hu30, pl30⟩ := flds30
  have hl := hs.len
  rw [List.length_map] at hl
  refine Runs.intro aFunc76 rfl rfl rfl rfl fun rest => ?_
  refine Go.seq noJ_ok ?_
  refine Go.region noJ_ok rfl ?_
  refine GoR.alloc rfl rfl rfl zt30 rfl rfl fun h0 x0 f0 => ?_
  have e0 := x0
  have := f0.1
  refine GoR.end ?_
  refine Go.seq noJ_ok ?_
  refine Go.region noJ_ok rfl ?_
  refine GoR.op rfl rfl (aOp_build (ps := [(0, .int .i64 9223372036854775807), (1, .int .i64 (-9223372036854775808))]) (cs := [.int .i64 9223372036854775807, .int .i64 (-9223372036854775808)]) zt30 hu30 pl30 rfl rfl) rfl ?_
  refine GoR.alloc rfl rfl rfl zt30 rfl rfl fun h1 x1 f1 => ?_
  have := e0.1
  have := f0.1
  replace f0 := f0.ext x1
  replace e0 := e0.trans x1
  have := f1.1
  refine GoR.store rfl rfl rfl rfl rfl rfl f1 rfl sz30 rfl rfl rfl fun h2 u2 => ?_
  replace f1 := u2.has f1
  replace f0 := f0.upd u2 (by omega)
  replace e0 := e0.upd u2 (by omega)
  refine GoR.end ?_
  iterate 2 refine Go.seq noJ_ok ?_
  refine Go.region noJ_ok rfl ?_
  refine GoR.op rfl rfl rfl rfl ?_
  refine GoR.op rfl rfl (aOp_lenSlice Try.underlying23 rfl hl) rfl ?_
  refine GoR.op rfl rfl rfl rfl ?_
  refine GoR.end ?_
  refine Go.block noJ_ok ?_
  refine Go.loopKeep (fun i : Nat => [(2, .ptr h.next 0), (3, .ptr h0.next 0), (7, s), (8, .int .i64 L.length), (9, .int .i64 (i : Nat))]) (fun n i h' => n + i = L.length ∧ Ext h h' ∧ Has h' h.next (.cells .plain [.int .i64 0, .int .i64 0] 30) ∧ Has h' h0.next (.cells .plain (spC (joinL (L.take i))) 30)) (n := L.length) 0 ⟨rfl, rfl, rfl, rfl, rfl, trivial⟩ ⟨rfl, e0, f0, f1⟩ ?_
  have hlt := f0.1
  clear e0 f0 f1
  rintro n i hc ⟨hn, e0, f0, f1⟩ again
  by_cases hi : i < L.length
  · obtain ⟨p, hp⟩ : ∃ p, L[i]? = some p := ⟨L[i], by simp [hi]⟩
    obtain ⟨b, off, q1, q2⟩ := (hs.ext e0).at (i := i) (l := spC p) (by rw [List.getElem?_map, hp]; rfl)
    have hj : joinL (L.take (i + 1)) = joinP (joinL (L.take i)) p := by rw [List.take_add_one, hp]; simp [joinL]
    rw [List.length_map] at q1
    generalize hw : joinL (L.take i) = w at f1 hj
    refine Go.seq noJ_ok ?_
    refine Go.region noJ_ok rfl ?_
    refine GoR.op rfl rfl (aOp_lss rfl rfl (r := true) (decide_eq_true (by omega))) rfl ?_
    refine GoR.end ?_
    refine Go.seq noJ_ok ?_
    refine Go.cond noJ_ok (b := true) rfl ?_
    refine Go.code noJ_ok ?_
    refine Go.seq noJ_ok ?_
    refine Go.block noJ_ok ?_
    refine Go.seq noJ_ok ?_
    refine Go.region noJ_ok rfl ?_
    refine GoR.op rfl rfl (aOp_indexAddr Try.underlying23 sz30 rfl q1 rfl (by simp; omega)) rfl ?_
    refine GoR.op rfl rfl (aOp_loadE ag30 sz30 rfl q2) rfl ?_
    refine GoR.alloc rfl rfl rfl zt30 rfl rfl fun h3 x3 f3 => ?_
    have := e0.1
    have := f0.1
    have := f1.1
    replace f0 := f0.ext x3
    replace f1 := f1.ext x3
    replace e0 := e0.trans x3
    have := f3.1
    refine GoR.store rfl rfl rfl rfl rfl rfl f3 rfl sz30 rfl rfl rfl fun h4 u4 => ?_
    replace f3 := u4.has f3
    replace f0 := f0.upd u4 (by omega)
    replace f1 := f1.upd u4 (by omega)
    replace e0 := e0.upd u4 (by omega)
    refine GoR.end ?_
    refine Go.region noJ_ok rfl ?_
    refine GoR.op rfl rfl (fa30_0 rfl) rfl ?_
    refine GoR.op rfl rfl (ld3 rfl f1 rfl) rfl ?_
    refine GoR.op rfl rfl (fa30_0 rfl) rfl ?_
    refine GoR.op rfl rfl (ld3 rfl f3 rfl) rfl ?_
    refine GoR.op rfl rfl (aOp_min2 rfl rfl rfl) rfl ?_
    refine GoR.op rfl rfl (fa30_1 rfl) rfl ?_
    refine GoR.op rfl rfl (ld3 rfl f1 rfl) rfl ?_
    refine GoR.op rfl rfl (fa30_1 rfl) rfl ?_
    refine GoR.op rfl rfl (ld3 rfl f3 rfl) rfl ?_
    refine GoR.op rfl rfl (aOp_max2 rfl rfl rfl) rfl ?_
    refine GoR.op rfl rfl (aOp_build (ps := [(0, .int .i64 (joinP w p).1), (1, .int .i64 (joinP w p).2)]) (cs := spC (joinP w p)) zt30 hu30 pl30 rfl rfl) rfl ?_
    refine GoR.store rfl rfl rfl rfl rfl rfl f1 rfl sz30 rfl rfl rfl fun h5 u5 => ?_
    replace f3 := f3.upd u5 (by omega)
    replace f0 := f0.upd u5 (by omega)
    replace f1 := u5.has f1
    replace e0 := e0.upd u5 (by omega)
    refine GoR.end ?_
    refine Go.inBlock noJ_ok ?_
    refine Go.region noJ_ok rfl ?_
    refine GoR.op rfl rfl (aOp_add rfl rfl (by constructor <;> omega) rfl) rfl ?_
    refine GoR.op rfl rfl rfl rfl ?_
    refine GoR.end ?_
    exact again (n - 1) (i + 1) _ _ (by omega) ⟨rfl, rfl, rfl, rfl, rfl, trivial⟩ ⟨by omega, e0, f0, by rw [hj]; exact f1⟩
  · have ht : L.take i = L := List.take_of_length_le (by omega)
    rw [ht] at f1
    refine Go.seq noJ_ok ?_
    refine Go.region noJ_ok rfl ?_
    refine GoR.op rfl rfl (aOp_lss rfl rfl (r := false) (decide_eq_false (by omega))) rfl ?_
    refine GoR.end ?_
    refine Go.seq noJ_ok ?_
    refine Go.cond noJ_ok (b := false) rfl ?_
    refine Go.code noJ_ok ?_
    refine Go.seq noJ_ok ?_
    refine Go.region noJ_ok rfl ?_
    refine GoR.op rfl rfl (ld30 rfl f1 rfl) rfl ?_
    refine GoR.store rfl rfl rfl rfl rfl rfl f0 rfl sz30 rfl rfl rfl fun h3 u3 => ?_
    replace f0 := u3.has f0
    replace f1 := f1.upd u3 (by omega)
    replace e0 := e0.upd u3 (by omega)
    refine GoR.end ?_
    exact Go.ret noJ_ok (ret_end (aResult_of Try.func76 rfl (aResults_cell rfl f0 (inCells_agg ag30 sz30 rfl))) ⟨rfl, e0⟩)

theorem slice_flatMap {f : Int × Int → List AVal} (hf : ∀ p, (f p).length = 2) : ∀ {l : List (Int × Int)} {d : Nat} {p : Int × Int}, l[d]? = some p → slice? (l.flatMap f) (d * 2) 2 = some (f p) := by
  intro l d p h
  have := slice_flatten (sz := 2) (L := l.map f) (fun x hx => by obtain ⟨q, _, rfl⟩ := List.mem_map.1 hx; exact hf q) d (f p) (by rw [List.getElem?_map, h]; rfl)
  rwa [← List.flatMap_def] at this

/-- How wet a heap can be by an entry. -/
theorem wet1_ok (k : Int) (fs : List AVal) (hfs : fs.length = 6) (vs : List (Int × Int)) (hvs : vs.length = 6) (hp : Int) (d : Nat) {p : Int × Int} (hd : vs[d]? = some p) (h : AH) {bh bd : Nat} {g1 g2 : Kd} {t1 t2 : TypeId} (hh : Has h bh (.cells g1 [.int .i64 hp] t1)) (hdd : Has h bd (.cells g2 [.int .i64 d] t2)) :
    Runs Try.prog 75 [.agg (.int .i64 k :: fs), .agg (vs.flatMap spC), .ptr bh 0, .ptr bd 0] h (fun en h' => en = .ret (.agg (spC (if k = hp then p else noSp))) ∧ Ext h h') := by
  have := hh.1
  have := hdd.1
  have hd6 : d < 6 := by rw [← hvs]; exact (List.getElem?_eq_some_iff.1 hd).1
  have hsl := slice_flatMap (f := spC) (fun _ => rfl) hd
  by_cases hk : k = hp
  · rw [if_pos hk]
    refine Runs.intro aFunc75 rfl rfl rfl rfl fun rest => ?_
    refine Go.seq noJ_ok ?_
    refine Go.region noJ_ok rfl ?_
    refine GoR.box rfl rfl rfl rfl rfl rfl fun h0 x0 f0 => ?_
    have := hh.1
    have := hdd.1
    replace hh := hh.ext x0
    replace hdd := hdd.ext x0
    have e0 := x0
    have := f0.1
    refine GoR.box rfl rfl rfl rfl rfl rfl fun h1 x1 f1 => ?_
    have := e0.1
    have := f0.1
    have := hh.1
    have := hdd.1
    replace f0 := f0.ext x1
    replace hh := hh.ext x1
    replace hdd := hdd.ext x1
    replace e0 := e0.trans x1
    have := f1.1
    refine GoR.alloc rfl rfl rfl zt30 rfl rfl fun h2 x2 f2 => ?_
    have := e0.1
    have := f1.1
    have := f0.1
    have := hh.1
    have := hdd.1
    replace f1 := f1.ext x2
    replace f0 := f0.ext x2
    replace hh := hh.ext x2
    replace hdd := hdd.ext x2
    replace e0 := e0.trans x2
    have := f2.1
    refine GoR.end ?_
    iterate 2 refine Go.seq noJ_ok ?_
    refine Go.region noJ_ok rfl ?_
    refine GoR.op rfl rfl (fa114_0 rfl) rfl ?_
    refine GoR.op rfl rfl (ld3 rfl f0 rfl) rfl ?_
    refine GoR.op rfl rfl (ld3 rfl hh rfl) rfl ?_
    refine GoR.op rfl rfl (aOp_neq rfl rfl (r := false) (decide_eq_true hk)) rfl ?_
    refine GoR.end ?_
    refine Go.cond noJ_ok (b := false) rfl ?_
    refine Go.code noJ_ok ?_
    refine Go.seq noJ_ok ?_
    refine Go.region noJ_ok rfl ?_
    refine GoR.op rfl rfl (ld3 rfl hdd rfl) rfl ?_
    refine GoR.op rfl rfl (aOp_indexAddrArr Try.underlying111 sz30 rfl rfl (by simp; omega)) rfl ?_
    refine GoR.op rfl rfl (ld30 rfl f1 (by rw [Nat.zero_add]; exact hsl)) rfl ?_
    refine GoR.store rfl rfl rfl rfl rfl rfl f2 rfl sz30 rfl rfl rfl fun h3 u3 => ?_
    replace f2 := u3.has f2
    replace f1 := f1.upd u3 (by omega)
    replace f0 := f0.upd u3 (by omega)
    replace hh := hh.upd u3 (by omega)
    replace hdd := hdd.upd u3 (by omega)
    replace e0 := e0.upd u3 (by omega)
    refine GoR.end ?_
    exact Go.ret noJ_ok (ret_end (aResult_of Try.func75 rfl (aResults_cell rfl f2 (inCells_agg ag30 sz30 rfl))) ⟨rfl, e0⟩)
  · rw [if_neg hk]
    refine Runs.intro aFunc75 rfl rfl rfl rfl fun rest => ?_
    refine Go.seq noJ_ok ?_
    refine Go.region noJ_ok rfl ?_
    refine GoR.box rfl rfl rfl rfl rfl rfl fun h0 x0 f0 => ?_
    have := hh.1
    have := hdd.1
    replace hh := hh.ext x0
    replace hdd := hdd.ext x0
    have e0 := x0
    have := f0.1
    refine GoR.box rfl rfl rfl rfl rfl rfl fun h1 x1 f1 => ?_
    have := e0.1
    have := f0.1
    have := hh.1
    have := hdd.1
    replace f0 := f0.ext x1
    replace hh := hh.ext x1
    replace hdd := hdd.ext x1
    replace e0 := e0.trans x1
    have := f1.1
    refine GoR.alloc rfl rfl rfl zt30 rfl rfl fun h2 x2 f2 => ?_
    have := e0.1
    have := f1.1
    have := f0.1
    have := hh.1
    have := hdd.1
    replace f1 := f1.ext x2
    replace f0 := f0.ext x2
    replace hh := hh.ext x2
    replace hdd := hdd.ext x2
    replace e0 := e0.trans x2
    have := f2.1
    refine GoR.end ?_
    iterate 2 refine Go.seq noJ_ok ?_
    refine Go.region noJ_ok rfl ?_
    refine GoR.op rfl rfl (fa114_0 rfl) rfl ?_
    refine GoR.op rfl rfl (ld3 rfl f0 rfl) rfl ?_
    refine GoR.op rfl rfl (ld3 rfl hh rfl) rfl ?_
    refine GoR.op rfl rfl (aOp_neq rfl rfl (r := true) (decide_eq_false hk)) rfl ?_
    refine GoR.end ?_
    refine Go.cond noJ_ok (b := true) rfl ?_
    refine Go.seq noJ_ok ?_
    refine Go.region noJ_ok rfl ?_
    refine GoR.call rfl rfl (aOp_callFunc aFunc76 rfl) (join_ok [] .nilslice _ .nil (by decide)) ?_ (by rintro _ _ ⟨q, _⟩; cases q)
    rintro _ h3 ⟨q, x3⟩
    cases q
    refine ⟨_, rfl, ?_⟩
    replace f2 := f2.ext x3
    replace f1 := f1.ext x3
    replace f0 := f0.ext x3
    replace hh := hh.ext x3
    replace hdd := hdd.ext x3
    replace e0 := e0.trans x3
    refine GoR.store rfl rfl rfl rfl rfl rfl f2 rfl sz30 rfl rfl rfl fun h4 u4 => ?_
    replace f2 := u4.has f2
    replace f1 := f1.upd u4 (by omega)
    replace f0 := f0.upd u4 (by omega)
    replace hh := hh.upd u4 (by omega)
    replace hdd := hdd.upd u4 (by omega)
    replace e0 := e0.upd u4 (by omega)
    refine GoR.end ?_
    exact Go.ret noJ_ok (ret_end (aResult_of Try.func75 rfl (aResults_cell rfl f2 (inCells_agg ag30 sz30 rfl))) ⟨rfl, e0⟩)
theorem rain1_ok (k : Int) (fs : List AVal) (hfs : fs.length = 6) (vs : List AVal) (hvs : vs.length = 12) (d : Nat) (n : Int) (hd : fs[d]? = some (.int .i64 n)) (h : AH) {bd : Nat} {g2 : Kd} {t2 : TypeId} (hdd : Has h bd (.cells g2 [.int .i64 d] t2)) :
    Runs Try.prog 77 [.agg (.int .i64 k :: fs), .agg vs, .ptr bd 0] h (fun en h' => en = .ret (.agg (spC (n, n))) ∧ Ext h h') := by
  have := hdd.1
  have hd6 : d < 6 := by rw [← hfs]; exact (List.getElem?_eq_some_iff.1 hd).1
  have hld : ∀ x : AVal, (x :: fs)[0 + 1 + d * 1]? = some (.int .i64 n) := fun x => by rw [show 0 + 1 + d * 1 = d + 1 by omega, List.getElem?_cons_succ]; exact hd
  refine Runs.intro aFunc77 rfl rfl rfl rfl fun rest => ?_
  refine Go.seq noJ_ok ?_
  refine Go.region noJ_ok rfl ?_
  refine GoR.box rfl rfl rfl rfl rfl rfl fun h0 x0 f0 => ?_
  have := hdd.1
  replace hdd := hdd.ext x0
  have e0 := x0
  have := f0.1
  refine GoR.box rfl rfl rfl rfl rfl rfl fun h1 x1 f1 => ?_
  have := e0.1
  have := f0.1
  have := hdd.1
  replace f0 := f0.ext x1
  replace hdd := hdd.ext x1
  replace e0 := e0.trans x1
  have := f1.1
  refine GoR.alloc rfl rfl rfl zt30 rfl rfl fun h2 x2 f2 => ?_
  have := e0.1
  have := f1.1
  have := f0.1
  have := hdd.1
  replace f1 := f1.ext x2
  replace f0 := f0.ext x2
  replace hdd := hdd.ext x2
  replace e0 := e0.trans x2
  have := f2.1
  refine GoR.end ?_
  refine Go.seq noJ_ok ?_
  refine Go.region noJ_ok rfl ?_
  refine GoR.op rfl rfl (ld3 rfl hdd rfl) rfl ?_
  refine GoR.op rfl rfl (fa114_1 rfl) rfl ?_
  refine GoR.op rfl rfl (aOp_indexAddrArr Try.underlying102 sz3 rfl rfl (by simp; omega)) rfl ?_
  refine GoR.op rfl rfl (ld3 rfl f0 (hld _)) rfl ?_
  refine GoR.call rfl rfl (aOp_callFunc aFunc78 rfl) (one_ok n _) ?_ (by rintro _ _ ⟨q, _⟩; cases q)
  rintro _ h3 ⟨q, x3⟩
  cases q
  refine ⟨_, rfl, ?_⟩
  replace f2 := f2.ext x3
  replace f1 := f1.ext x3
  replace f0 := f0.ext x3
  replace hdd := hdd.ext x3
  replace e0 := e0.trans x3
  refine GoR.store rfl rfl rfl rfl rfl rfl f2 rfl sz30 rfl rfl rfl fun h4 u4 => ?_
  replace f2 := u4.has f2
  replace f1 := f1.upd u4 (by omega)
  replace f0 := f0.upd u4 (by omega)
  replace hdd := hdd.upd u4 (by omega)
  replace e0 := e0.upd u4 (by omega)
  refine GoR.end ?_
  exact Go.ret noJ_ok (ret_end (aResult_of Try.func77 rfl (aResults_cell rfl f2 (inCells_agg ag30 sz30 rfl))) ⟨rfl, e0⟩)

theorem joinP_comm (a b : Int × Int) : joinP a b = joinP b a := by
  unfold joinP; ext <;> dsimp only <;> repeat' split
  all_goals omega
theorem joinP_right (a b c : Int × Int) : joinP (joinP a b) c = joinP (joinP a c) b := by
  unfold joinP; ext <;> dsimp only <;> repeat' split
  all_goals omega
theorem foldl_perm {l m : List (Int × Int)} (h : l.Perm m) : ∀ a, l.foldl joinP a = m.foldl joinP a := by
  induction h with
  | nil => intro a; rfl
  | cons x _ ih => intro a; exact ih _
  | swap x y l => intro a; simp only [List.foldl_cons, joinP_right a y x]
  | trans _ _ i1 i2 => intro a; rw [i1, i2]
theorem joinL_perm {l m : List (Int × Int)} (h : l.Perm m) : joinL l = joinL m := foldl_perm h _

structure MapIn (h : AH) (bm : Nat) (es : List AMapE) (clock : Nat) : Prop where
  lt : bm < h.next
  m : mapB h bm = some (es, clock)
  born : ∀ en, en ∈ es → en.born < clock
  dist : es.Pairwise fun a b => a.born ≠ b.born
theorem mapB_same {h h' : AH} {b : Nat} (e : h'.get b = h.get b) : mapB h' b = mapB h b := by unfold mapB; rw [e]
theorem MapIn.ext {h h' : AH} {bm clock : Nat} {es : List AMapE} (k : MapIn h bm es clock) (e : Ext h h') : MapIn h' bm es clock := ⟨Nat.lt_of_lt_of_le k.lt e.1, by rw [mapB_same (e.2 _ k.lt)]; exact k.m, k.born, k.dist⟩

def InSp (p : Int × Int) : Prop := p.1 ≤ 9223372036854775807 ∧ -9223372036854775808 ≤ p.2
theorem joinP_in {a b : Int × Int} (ha : InSp a) (hb : InSp b) : InSp (joinP a b) := by
  unfold InSp joinP at *
  constructor <;> dsimp only <;> split <;> omega
theorem foldl_in {l : List (Int × Int)} : ∀ {a}, InSp a → (∀ p, p ∈ l → InSp p) → InSp (l.foldl joinP a) := by
  induction l with
  | nil => intro a h _; exact h
  | cons x l ih => intro a h k; exact ih (joinP_in h (k x (by simp))) fun p hp => k p (by simp [hp])
theorem noSp_in : InSp noSp := by unfold InSp noSp; omega
theorem joinL_in {l : List (Int × Int)} (k : ∀ p, p ∈ l → InSp p) : InSp (joinL l) := foldl_in noSp_in k
theorem joinP_noSp {a : Int × Int} (ha : InSp a) : joinP noSp a = a := by
  unfold InSp at ha
  unfold joinP noSp
  ext <;> dsimp only <;> split <;> omega
theorem joinL_two {a b : Int × Int} (ha : InSp a) : joinL [a, b] = joinP a b := by
  show joinP (joinP noSp a) b = _
  rw [joinP_noSp ha]

theorem sl2 {h : AH} {b : Nat} {a c : Int × Int} {el : TypeId} (f : Has h b (.cells .plain (spC a ++ spC c) el)) : SliceOf h 2 (.slice b 0 2 2) [spC a, spC c] :=
  SliceOf.mk' rfl rfl f rfl (fun i l hl => by
    match i, hl with
    | 0, hl => cases hl; rfl
    | 1, hl => cases hl; rfl)
theorem six {α : Type} {l : List α} (h : l.length = 6) : ∃ a b c d e f, l = [a, b, c, d, e, f] := by
  match l, h with
  | [a, b, c, d, e, f], _ => exact ⟨a, b, c, d, e, f, rfl⟩

/-- An entry, for a heap and the rains, with how wet the heap can be in each evening. -/
def EntryIs (en : AMapE) (k : Int) (fs : List Int) (vs : List (Int × Int)) : Prop :=
  absV en.key = some (.agg (.int .i64 k :: fs.map (.int .i64))) ∧ en.val = .agg (vs.flatMap spC) ∧ fs.length = 6 ∧ vs.length = 6

theorem spread_ok (h : AH) {bm clock : Nat} {es : List AMapE} (M : MapIn h bm es clock) (m : AMapE → Int × Int) (fid : FuncId) (caps : List AVal) (fn : Func) (hfid : aFunc Try.prog fid = some fn)
    (hkv : ∀ en, en ∈ es → ∃ k fs vs, EntryIs en k fs vs) (hm64 : ∀ en, en ∈ es → InSp (m en))
    (hc : ∀ en kv h', en ∈ es → absV en.key = some kv → Ext h h' → Runs Try.prog fid ([kv, en.val] ++ caps) h' (fun e h'' => e = .ret (.agg (spC (m en))) ∧ Ext h' h'')) :
    Runs Try.prog 74 [.map bm, .agg [.func (.func fid) [] caps]] h (fun en h' => en = .ret (.agg (spC (joinL (es.map m)))) ∧ Ext h h') := by
  refine Runs.intro aFunc74 rfl rfl rfl rfl fun rest => ?_
  refine Go.seq noJ_ok ?_
  refine Go.region noJ_ok rfl ?_
  refine GoR.box rfl rfl rfl rfl rfl rfl fun h0 x0 f0 => ?_
  have e0 := x0
  have := f0.1
  refine GoR.alloc rfl rfl rfl zt30 rfl rfl fun h1 x1 f1 => ?_
  have := e0.1
  have := f0.1
  replace f0 := f0.ext x1
  replace e0 := e0.trans x1
  have := f1.1
  refine GoR.end ?_
  refine Go.seq noJ_ok ?_
  refine Go.region noJ_ok rfl ?_
  refine GoR.call rfl rfl (aOp_callFunc aFunc76 rfl) (join_ok [] .nilslice _ .nil (by decide)) ?_ (by rintro _ _ ⟨q, _⟩; cases q)
  rintro _ h2 ⟨q, x2⟩
  cases q
  refine ⟨_, rfl, ?_⟩
  replace f1 := f1.ext x2
  replace f0 := f0.ext x2
  replace e0 := e0.trans x2
  refine GoR.alloc rfl rfl rfl zt30 rfl rfl fun h3 x3 f3 => ?_
  have := e0.1
  have := f1.1
  have := f0.1
  replace f1 := f1.ext x3
  replace f0 := f0.ext x3
  replace e0 := e0.trans x3
  have := f3.1
  refine GoR.store rfl rfl rfl rfl rfl rfl f3 rfl sz30 rfl rfl rfl fun h4 u4 => ?_
  replace f3 := u4.has f3
  replace f1 := f1.upd u4 (by omega)
  replace f0 := f0.upd u4 (by omega)
  replace e0 := e0.upd u4 (by omega)
  refine GoR.end ?_
  iterate 2 refine Go.seq noJ_ok ?_
  refine Go.region noJ_ok rfl ?_
  refine GoR.op rfl rfl rfl rfl ?_
  have hblt := M.lt
  refine GoR.rangeM rfl rfl rfl Try.underlying76 rfl (M.ext e0).m rfl rfl fun h5 x5 f5 => ?_
  have hn4 := e0.1
  have hl0 := f0.1
  have hl1 := f1.1
  have hl3 := f3.1
  replace f0 := f0.ext x5
  replace f1 := f1.ext x5
  replace f3 := f3.ext x5
  replace e0 := e0.trans x5
  refine GoR.end ?_
  refine Go.block noJ_ok ?_
  refine Go.loopKeep (fun _ : List AMapE × List AMapE => [(3, .ptr h.next 0), (4, .ptr h0.next 0), (5, .ptr h2.next 0), (10, .ptr h4.next 0)])
    (fun n vr h' => vr.2.length = n ∧ (vr.1 ++ vr.2).Perm es ∧ Ext h h' ∧ Has h' h.next (.cells .plain [.func (.func fid) [] caps] 119) ∧ Has h' h0.next (.cells .plain [.int .i64 0, .int .i64 0] 30) ∧
      Has h' h2.next (.cells .plain (spC (joinL (vr.1.map m))) 30) ∧ Has h' h4.next (.iter bm clock (vr.1.map AMapE.born) clock)) (n := es.length) ([], es) ⟨rfl, rfl, rfl, rfl, trivial⟩ ⟨rfl, .refl _, e0, f0, f1, f3, f5⟩ ?_
  clear e0 f0 f1 f3 f5
  rintro n ⟨vs, rs⟩ hh ⟨hn, hperm, e0, f0, f1, f3, f5⟩ again
  dsimp only at hn hperm f3 f5
  have hdist : (vs ++ rs).Pairwise fun a b => a.born ≠ b.born := (hperm.symm.pairwise_iff (fun h => h.symm)).1 M.dist
  refine Go.seq noJ_ok ?_
  refine Go.beginR rfl (Go.nextM rfl rfl f5 (M.ext e0).m M.born M.born (fun en hen => by obtain ⟨k, fs, ws, q, _⟩ := hkv en hen; exact ⟨_, q⟩) (fun hall => Go.inRegion noJ_ok ?_) (fun en kv hen hnew hk h6 u6 => Go.inRegion noJ_ok ?_))
  · have hrs : rs = [] := by
      cases rs with
      | nil => rfl
      | cons x rs =>
        exfalso
        have hx : x ∈ es := hperm.mem_iff.1 (by simp)
        obtain ⟨y, hy, hyb⟩ := List.mem_map.1 (hall x hx)
        rw [List.pairwise_append] at hdist
        exact hdist.2.2 y hy x (by simp) hyb
    subst hrs
    rw [List.append_nil] at hperm
    have hj : joinL (vs.map m) = joinL (es.map m) := joinL_perm (hperm.map m)
    rw [hj] at f3
    refine GoR.op rfl rfl rfl rfl ?_
    refine GoR.end ?_
    refine Go.seq noJ_ok ?_
    refine Go.cond noJ_ok (b := false) rfl ?_
    refine Go.code noJ_ok ?_
    refine Go.seq noJ_ok ?_
    refine Go.region noJ_ok rfl ?_
    refine GoR.op rfl rfl (ld30 rfl f3 rfl) rfl ?_
    refine GoR.store rfl rfl rfl rfl rfl rfl f1 rfl sz30 rfl rfl rfl fun h6 u6 => ?_
    replace f0 := f0.upd u6 (by omega)
    replace f1 := u6.has f1
    replace f3 := f3.upd u6 (by omega)
    replace f5 := f5.upd u6 (by omega)
    replace e0 := e0.upd u6 (by omega)
    refine GoR.end ?_
    exact Go.ret noJ_ok (ret_end (aResult_of Try.func74 rfl (aResults_cell rfl f1 (inCells_agg ag30 sz30 rfl))) ⟨rfl, e0⟩)
  · have hmem : en ∈ rs := by
      rcases List.mem_append.1 (hperm.mem_iff.2 hen) with q | q
      · exact absurd (List.mem_map.2 ⟨en, q, rfl⟩) hnew
      · exact q
    obtain ⟨ra, rb, rfl⟩ := List.append_of_mem hmem
    have hj : joinL ((vs ++ [en]).map m) = joinP (joinL (vs.map m)) (m en) := by simp [joinL]
    have hj2 : joinL [joinL (vs.map m), m en] = joinL ((vs ++ [en]).map m) := by
      rw [hj]
      refine joinL_two (joinL_in fun p hp => ?_)
      obtain ⟨x, hx, rfl⟩ := List.mem_map.1 hp
      exact hm64 x (hperm.mem_iff.1 (by simp [hx]))
    obtain ⟨k, fs, ws, hE1, hE2, hE3, hE4⟩ := hkv en hen
    have hc' := fun h' => hc en kv h' hen hk
    replace f5 := u6.has f5
    replace f0 := f0.upd u6 (by omega)
    replace f1 := f1.upd u6 (by omega)
    replace f3 := f3.upd u6 (by omega)
    replace e0 := e0.upd u6 (by omega)
    have hMe := (M.ext e0).m
    rw [hk] at hE1
    cases hE1
    rw [hE2] at hc'
    obtain ⟨a1, a2, a3, a4, a5, a6, rfl⟩ := six hE3
    obtain ⟨b1, b2, b3, b4, b5, b6, rfl⟩ := six hE4
    refine GoR.op rfl rfl rfl rfl ?_
    refine GoR.end ?_
    refine Go.seq noJ_ok ?_
    refine Go.cond noJ_ok (b := true) rfl ?_
    refine Go.code noJ_ok ?_
    refine Go.block noJ_ok ?_
    refine Go.seq noJ_ok ?_
    refine Go.region noJ_ok rfl ?_
    refine GoR.op rfl rfl ((aOp_entry rfl f5 hMe hen M.dist hk).trans (by rw [hE2])) rfl ?_
    iterate 2 refine GoR.op rfl rfl rfl rfl ?_
    refine GoR.alloc rfl rfl rfl zt114 rfl rfl fun h7 x7 f7 => ?_
    have := e0.1
    have := f5.1
    have := f0.1
    have := f1.1
    have := f3.1
    replace f5 := f5.ext x7
    replace f0 := f0.ext x7
    replace f1 := f1.ext x7
    replace f3 := f3.ext x7
    replace e0 := e0.trans x7
    have := f7.1
    refine GoR.alloc rfl rfl rfl zt111 rfl rfl fun h8 x8 f8 => ?_
    have := e0.1
    have := f7.1
    have := f5.1
    have := f0.1
    have := f1.1
    have := f3.1
    replace f7 := f7.ext x8
    replace f5 := f5.ext x8
    replace f0 := f0.ext x8
    replace f1 := f1.ext x8
    replace f3 := f3.ext x8
    replace e0 := e0.trans x8
    have := f8.1
    refine GoR.store rfl rfl rfl rfl rfl rfl f7 rfl sz114 rfl rfl rfl fun h9 u9 => ?_
    replace f8 := f8.upd u9 (by omega)
    replace f7 := u9.has f7
    replace f5 := f5.upd u9 (by omega)
    replace f0 := f0.upd u9 (by omega)
    replace f1 := f1.upd u9 (by omega)
    replace f3 := f3.upd u9 (by omega)
    replace e0 := e0.upd u9 (by omega)
    refine GoR.store rfl rfl rfl rfl rfl rfl f8 rfl sz111 rfl rfl rfl fun h10 u10 => ?_
    replace f8 := u10.has f8
    replace f7 := f7.upd u10 (by omega)
    replace f5 := f5.upd u10 (by omega)
    replace f0 := f0.upd u10 (by omega)
    replace f1 := f1.upd u10 (by omega)
    replace f3 := f3.upd u10 (by omega)
    replace e0 := e0.upd u10 (by omega)
    refine GoR.end ?_
    refine Go.drawnE plan74_0 ?_
    refine GoE.quiet rfl rfl (ld30 rfl f3 rfl) rfl ?_
    refine GoE.quiet rfl rfl (fa119_0 rfl) rfl ?_
    refine GoE.quiet rfl rfl (ld117 rfl f0 rfl) rfl ?_
    refine GoE.quiet rfl rfl (ld114 rfl f7 rfl) rfl ?_
    refine GoE.quiet rfl rfl (ld111 rfl f8 rfl) rfl ?_
    refine GoE.call rfl rfl (aOp_callVal rfl hfid rfl) (hc' _ e0) (dropF_drop (show bit? 30 4 = true from rfl) (dropF_drop (show bit? 30 3 = true from rfl) (dropF_drop (show bit? 30 2 = true from rfl) (dropF_drop (show bit? 30 1 = true from rfl) (dropF_keep (show bit? 30 0 = false from rfl) rfl))))) ?_ (by rintro _ _ ⟨q, _⟩; cases q)
    rintro _ h11 ⟨q, x11⟩
    cases q
    replace f8 := f8.ext x11
    replace f7 := f7.ext x11
    replace f5 := f5.ext x11
    replace f0 := f0.ext x11
    replace f1 := f1.ext x11
    replace f3 := f3.ext x11
    replace e0 := e0.trans x11
    refine ⟨(recheck_cons (h2 := h11) rfl (ld30 rfl f3 rfl) (by first | rfl | exact sameA_int _ _ | exact sameA_bool _ | exact sameA_agg2 _ _ | assumption | (simp [sameA, sameAs, eqI_eq]; done)) recheck_nil), _, rfl, ?_⟩
    refine GoE.buildSl rfl rfl (ps := [(0, .agg (spC (joinL (vs.map m)))), (1, .agg (spC (m en)))]) (cs := spC (joinL (vs.map m)) ++ spC (m en)) Try.underlying23 rfl sz30 zt30 rfl rfl rfl (dropF_drop (show bit? 63 0 = true from rfl) rfl) rfl fun h12 x12 f12 => ?_
    have := e0.1
    have := f8.1
    have := f7.1
    have := f5.1
    have := f0.1
    have := f1.1
    have := f3.1
    replace f8 := f8.ext x12
    replace f7 := f7.ext x12
    replace f5 := f5.ext x12
    replace f0 := f0.ext x12
    replace f1 := f1.ext x12
    replace f3 := f3.ext x12
    replace e0 := e0.trans x12
    have := f12.1
    refine ⟨recheck_nil, ?_⟩
    refine GoE.call rfl rfl (aOp_callFunc aFunc76 rfl) (join_ok [joinL (vs.map m), m en] _ _ (sl2 (by assumption)) (by simp)) rfl ?_ (by rintro _ _ ⟨q, _⟩; cases q)
    rintro _ h13 ⟨q, x13⟩
    cases q
    replace f12 := f12.ext x13
    replace f8 := f8.ext x13
    replace f7 := f7.ext x13
    replace f5 := f5.ext x13
    replace f0 := f0.ext x13
    replace f1 := f1.ext x13
    replace f3 := f3.ext x13
    replace e0 := e0.trans x13
    refine ⟨recheck_nil, _, rfl, ?_⟩
    refine GoE.store rfl rfl rfl rfl rfl rfl rfl f3 rfl sz30 rfl rfl rfl fun h14 u14 => ?_
    replace f12 := f12.upd u14 (by omega)
    replace f8 := f8.upd u14 (by omega)
    replace f7 := f7.upd u14 (by omega)
    replace f5 := f5.upd u14 (by omega)
    replace f0 := f0.upd u14 (by omega)
    replace f1 := f1.upd u14 (by omega)
    replace f3 := u14.has f3
    replace e0 := e0.upd u14 (by omega)
    refine ⟨recheck_nil, ?_⟩
    refine GoE.end rfl ?_
    refine Go.inBlock noJ_ok ?_
    rw [hj2] at f3
    exact again (n - 1) (vs ++ [en], ra ++ rb) _ _ (by simp at hn; omega) ⟨rfl, rfl, rfl, rfl, trivial⟩ ⟨by simp at hn ⊢; omega, (by
      refine List.Perm.trans ?_ hperm
      simp only [List.append_assoc, List.singleton_append]
      exact List.Perm.append_left _ List.perm_middle.symm), e0, f0, f1, f3, by simpa using f5⟩

/-- The wetness of a heap in the evening of a day, of all entries. -/
noncomputable def wetM (f : AMapE → Int × List Int × List (Int × Int)) (hp : Int) (d : Nat) (en : AMapE) : Int × Int := if (f en).1 = hp then ((f en).2.2[d]?).getD noSp else noSp
noncomputable def rainM (f : AMapE → Int × List Int × List (Int × Int)) (d : Nat) (en : AMapE) : Int × Int := (((f en).2.1[d]?).getD 0, ((f en).2.1[d]?).getD 0)

def I64 (n : Int) : Prop := -9223372036854775808 ≤ n ∧ n ≤ 9223372036854775807
/-- A map of entries, all of whose numbers are small. -/
structure Known (h : AH) (bm : Nat) (es : List AMapE) (clock : Nat) (f : AMapE → Int × List Int × List (Int × Int)) : Prop where
  M : MapIn h bm es clock
  E : ∀ en, en ∈ es → EntryIs en (f en).1 (f en).2.1 (f en).2.2
  R : ∀ en, en ∈ es → ∀ n, n ∈ (f en).2.1 → I64 n
  S : ∀ en, en ∈ es → ∀ p, p ∈ (f en).2.2 → InSp p

theorem wet_ok {h : AH} {bm clock : Nat} {es : List AMapE} {f : AMapE → Int × List Int × List (Int × Int)} (K : Known h bm es clock f) (hp : Int) (d : Nat) (hd : d < 6) :
    Runs Try.prog 39 [.map bm, .int .i64 hp, .int .i64 d] h (fun en h' => en = .ret (.agg (spC (joinL (es.map (wetM f hp d))))) ∧ Ext h h') := by
  have hb := K.M.lt
  obtain ⟨fs119, hu119, pl119⟩ := flds119
  have hin : ∀ en, en ∈ es → InSp (wetM f hp d en) := by
    intro en hen
    unfold wetM
    split
    · cases q : (f en).2.2[d]? with
      | none => exact noSp_in
      | some p => exact K.S en hen p (List.mem_of_getElem? q)
    · exact noSp_in
  refine Runs.intro aFunc39 rfl rfl rfl rfl fun rest => ?_
  refine Go.seq noJ_ok ?_
  refine Go.region noJ_ok rfl ?_
  refine GoR.box rfl rfl rfl rfl rfl rfl fun h0 x0 f0 => ?_
  have e0 := x0
  have := f0.1
  refine GoR.box rfl rfl rfl rfl rfl rfl fun h1 x1 f1 => ?_
  have := e0.1
  have := f0.1
  replace f0 := f0.ext x1
  replace e0 := e0.trans x1
  have := f1.1
  refine GoR.alloc rfl rfl rfl zt30 rfl rfl fun h2 x2 f2 => ?_
  have := e0.1
  have := f1.1
  have := f0.1
  replace f1 := f1.ext x2
  replace f0 := f0.ext x2
  replace e0 := e0.trans x2
  have := f2.1
  refine GoR.end ?_
  refine Go.seq noJ_ok ?_
  refine Go.region noJ_ok rfl ?_
  iterate 2 refine GoR.op rfl rfl rfl rfl ?_
  refine GoR.op rfl rfl (aOp_build (ps := [(0, .func (.func 75) [] [.ptr h.next 0, .ptr h0.next 0])]) (cs := [.func (.func 75) [] [.ptr h.next 0, .ptr h0.next 0]]) zt119 hu119 pl119 rfl rfl) rfl ?_
  refine GoR.call rfl rfl (aOp_callFunc aFunc74 rfl) (spread_ok _ (K.M.ext e0) (wetM f hp d) 75 [.ptr h.next 0, .ptr h0.next 0] _ aFunc75 (fun en hen => ⟨_, _, _, K.E en hen⟩) hin (fun en kv h' hen hk ex => ?_)) ?_ (by rintro _ _ ⟨q, _⟩; cases q)
  · obtain ⟨E1, E2, E3, E4⟩ := K.E en hen
    rw [hk] at E1
    cases E1
    rw [E2]
    have hget : (f en).2.2[d]? = some ((f en).2.2[d]'(by omega)) := by simp
    have := wet1_ok (f en).1 ((f en).2.1.map (.int .i64)) (by simpa using E3) (f en).2.2 E4 hp d hget h' (f0.ext ex) (f1.ext ex)
    unfold wetM
    rw [hget]
    exact this
  · rintro _ h9 ⟨q, x9⟩
    cases q
    refine ⟨_, rfl, ?_⟩
    replace f0 := f0.ext x9
    replace f1 := f1.ext x9
    replace f2 := f2.ext x9
    replace e0 := e0.trans x9
    refine GoR.store rfl rfl rfl rfl rfl rfl f2 rfl sz30 rfl rfl rfl fun h10 u10 => ?_
    replace f0 := f0.upd u10 (by omega)
    replace f1 := f1.upd u10 (by omega)
    replace f2 := u10.has f2
    replace e0 := e0.upd u10 (by omega)
    refine GoR.end ?_
    exact Go.ret noJ_ok (ret_end (aResult_of Try.func39 rfl (aResults_cell rfl f2 (inCells_agg ag30 sz30 rfl))) ⟨rfl, e0⟩)

theorem rain_ok {h : AH} {bm clock : Nat} {es : List AMapE} {f : AMapE → Int × List Int × List (Int × Int)} (K : Known h bm es clock f) (d : Nat) (hd : d < 6) :
    Runs Try.prog 41 [.map bm, .int .i64 d] h (fun en h' => en = .ret (.agg (spC (joinL (es.map (rainM f d))))) ∧ Ext h h') := by
  have hb := K.M.lt
  obtain ⟨fs119, hu119, pl119⟩ := flds119
  have hget : ∀ en, en ∈ es → (f en).2.1[d]? = some ((f en).2.1[d]?.getD 0) := fun en hen => by
    obtain ⟨E1, E2, E3, E4⟩ := K.E en hen
    have : (f en).2.1[d]? = some ((f en).2.1[d]'(by omega)) := by simp
    rw [this]
    rfl
  have hin : ∀ en, en ∈ es → InSp (rainM f d en) := by
    intro en hen
    have := K.R en hen _ (List.mem_of_getElem? (hget en hen))
    exact ⟨this.2, this.1⟩
  refine Runs.intro aFunc41 rfl rfl rfl rfl fun rest => ?_
  refine Go.seq noJ_ok ?_
  refine Go.region noJ_ok rfl ?_
  refine GoR.box rfl rfl rfl rfl rfl rfl fun h0 x0 f0 => ?_
  have e0 := x0
  have := f0.1
  refine GoR.alloc rfl rfl rfl zt30 rfl rfl fun h1 x1 f1 => ?_
  have := e0.1
  have := f0.1
  replace f0 := f0.ext x1
  replace e0 := e0.trans x1
  have := f1.1
  refine GoR.end ?_
  refine Go.seq noJ_ok ?_
  refine Go.region noJ_ok rfl ?_
  iterate 2 refine GoR.op rfl rfl rfl rfl ?_
  refine GoR.op rfl rfl (aOp_build (ps := [(0, .func (.func 77) [] [.ptr h.next 0])]) (cs := [.func (.func 77) [] [.ptr h.next 0]]) zt119 hu119 pl119 rfl rfl) rfl ?_
  refine GoR.call rfl rfl (aOp_callFunc aFunc74 rfl) (spread_ok _ (K.M.ext e0) (rainM f d) 77 [.ptr h.next 0] _ aFunc77 (fun en hen => ⟨_, _, _, K.E en hen⟩) hin (fun en kv h' hen hk ex => ?_)) ?_ (by rintro _ _ ⟨q, _⟩; cases q)
  · obtain ⟨E1, E2, E3, E4⟩ := K.E en hen
    rw [hk] at E1
    cases E1
    rw [E2]
    refine rain1_ok (f en).1 ((f en).2.1.map (.int .i64)) (by simpa using E3) ((f en).2.2.flatMap spC) ?_ d ((f en).2.1[d]?.getD 0) ?_ h' (f0.ext ex)
    · obtain ⟨b1, b2, b3, b4, b5, b6, q⟩ := six E4
      rw [q]
      rfl
    · rw [List.getElem?_map, hget en hen]
      rfl
  · rintro _ h9 ⟨q, x9⟩
    cases q
    refine ⟨_, rfl, ?_⟩
    replace f0 := f0.ext x9
    replace f1 := f1.ext x9
    replace e0 := e0.trans x9
    refine GoR.store rfl rfl rfl rfl rfl rfl f1 rfl sz30 rfl rfl rfl fun h10 u10 => ?_
    replace f0 := f0.upd u10 (by omega)
    replace f1 := u10.has f1
    replace e0 := e0.upd u10 (by omega)
    refine GoR.end ?_
    exact Go.ret noJ_ok (ret_end (aResult_of Try.func41 rfl (aResults_cell rfl f1 (inCells_agg ag30 sz30 rfl))) ⟨rfl, e0⟩)
end Go.Proofs.Ytmdheijpnlonoaa

set_option linter.unusedSimpArgs false
namespace Go.AbsE
open Go

/-! Iterators, to consumers that change only blocks of their own. -/
section
variable {P : Program}

/-- y takes the items one by one; J holds while it wants more, E once it wants none; these speak of blocks below base, and of those of S; only those of S may change. -/
structure Tk (P : Program) (base : Nat) (S : Nat → Prop) (y : AVal) (items : List (List AVal)) (J E : Nat → AH → Prop) : Prop where
  lt : ∀ {k h b}, J k h → S b → b < h.next
  keepJ : ∀ {k h h'}, J k h → h.next ≤ h'.next → (∀ b, b < h.next → (b < base ∨ S b) → h'.get b = h.get b) → J k h'
  keepE : ∀ {k h h'}, E k h → h.next ≤ h'.next → (∀ b, b < h.next → (b < base ∨ S b) → h'.get b = h.get b) → E k h'
  take : ∀ {k item h}, items[k]? = some item → J k h → ∃ x, callY P y [.agg item] h = some x ∧ (∀ v h', x ≠ .val v h') ∧
    Does P x (fun en h' => ExtF S h h' ∧ ((en = .ret (.bool true) ∧ J (k + 1) h') ∨ (en = .ret (.bool false) ∧ E k h')))

theorem Tk.ext {base : Nat} {S : Nat → Prop} {y : AVal} {items : List (List AVal)} {J E : Nat → AH → Prop} (T : Tk P base S y items J E) {k : Nat} {h h' : AH} (j : J k h) (e : Ext h h') : J k h' := T.keepJ j e.1 fun b hb _ => e.2 b hb

/-- Of the items only those from one on. -/
theorem Tk.shift {base : Nat} {S : Nat → Prop} {y : AVal} {items sub : List (List AVal)} {J E : Nat → AH → Prop} (T : Tk P base S y items J E) (o : Nat) (hs : ∀ (n : Nat) v, sub[n]? = some v → items[o + n]? = some v) :
    Tk P base S y sub (fun n => J (o + n)) (fun n => E (o + n)) where
  lt := fun j => T.lt j
  keepJ := fun j => T.keepJ j
  keepE := fun j => T.keepE j
  take := fun h j => T.take (hs _ _ h) j

/-- What an iterator comes to. -/
def IterR (S : Nat → Prop) (J E : Nat → AH → Prop) (n : Nat) (h : AH) (en : AEnd) (h' : AH) : Prop := en = .ret (.tuple []) ∧ ExtF S h h' ∧ (J n h' ∨ ∃ k, k < n ∧ E k h')

/-- An iterator, which relies on A. -/
def Iter (P : Program) (g : FuncId) (first cap : List AVal) (items : List (List AVal)) (A : AH → Prop) : Prop :=
  ∀ (y : AVal) (base : Nat) (S : Nat → Prop) (J E : Nat → AH → Prop) (h : AH), y.cells = [y] → scalars [y] = true → (∀ h', ExtF S h h' → A h') → base ≤ h.next → Tk P base S y items J E → J 0 h → Runs P g (first ++ [y] ++ cap) h (IterR S J E items.length h)

theorem Iter.mono {P : Program} {g : FuncId} {first cap : List AVal} {items : List (List AVal)} {A A' : AH → Prop} (k : Iter P g first cap items A) (hA : ∀ h, A' h → A h) : Iter P g first cap items A' :=
  fun y base S J E h h1 h2 h3 h4 T j => k y base S J E h h1 h2 (fun h' x => hA h' (h3 h' x)) h4 T j

/-- A loop over an iterator. -/
theorem Go.rangeTk {fn n : Nat} {ds : List ADef} {dk : Bool} {rst : List AFr} {k : List AItem} {Q : AM → Prop} {t : Tr AVal} {h : AH} {x : Operand} {params : Array Tmp} {assign body : Code} {g : FuncId} {gf fnr : Func} {first cap : List AVal}
    {items : List (List AVal)} {A : AH → Prop} (S : Nat → Prop) (Inv : Nat → AH → Prop) (Fin : Code → AH → Prop)
    (hx : ev t x = some (.func (.func g) first cap)) (hg : aFunc P g = some gf) (hfn : P.funcs[fn]? = some fnr) (it : Iter P g first cap items A)
    (hS : ∀ b, S b → b < h.next) (hA : ∀ h', ExtF S h h' → A h') (hI : Inv 0 h)
    (kI : ∀ k h1 h2, Inv k h1 → h1.next ≤ h2.next → (∀ b, b < h.next → h2.get b = h1.get b) → Inv k h2)
    (kF : ∀ c h1 h2, Fin c h1 → h1.next ≤ h2.next → (∀ b, b < h.next → h2.get b = h1.get b) → Fin c h2)
    (bd : ∀ (j : Nat) item, items[j]? = some item → ∃ t1, putArgs t n params.toList [.agg item] = some t1 ∧ ∀ (hh : AH) (lb : Nat) (r0 : ALoop) (fr : AFr) (rest : List AFr) (Q' : AM → Prop), Inv j hh → ExtF S h hh → h.next ≤ lb → Has hh lb (.loop r0) → r0.state = .ready →
      (∀ tt h', Inv (j + 1) h' → ExtF (fun b => S b ∨ b = lb) hh h' → Has h' lb (.loop { r0 with state := .busy }) → Go P ⟨fn, n, [], false, some lb, fr :: rest⟩ [] tt h' Q') →
      (∀ c tt h' kk, (c = .ret ∨ ∃ id, c = .exit id ∧ exitA id kk = none) → Fin c h' → ExtF (fun b => S b ∨ b = lb) hh h' → Has h' lb (.loop { r0 with state := .busy }) → Go P ⟨fn, n, [], false, some lb, fr :: rest⟩ (.code c :: kk) tt h' Q') →
      Go P ⟨fn, n, [], false, some lb, fr :: rest⟩ [.code assign, .beginRound, .code body] t1 hh Q')
    (nx : ∀ d h3, ExtF S h h3 → h.next ≤ d → Has h3 d (.deferred (some [])) → Inv items.length h3 → Go P ⟨fn, n, .collected d :: ds, dk, none, rst⟩ k t h3 Q)
    (fx : ∀ c d h3, ExtF S h h3 → h.next ≤ d → Has h3 d (.deferred (some [])) → Fin c h3 → Go P ⟨fn, n, .collected d :: ds, dk, none, rst⟩ (.code c :: k) t h3 Q) :
    Go P ⟨fn, n, ds, dk, none, rst⟩ (.code (.rangeFunc x params assign body) :: k) t h Q := by
  refine Go.rangeFunc hx hg fun d lb h2 hd hlb e2 fd fl => ?_
  obtain ⟨r0, hr0, fl⟩ : ∃ r0 : ALoop, r0 = _ ∧ Has h2 lb (.loop r0) := ⟨_, rfl, fl⟩
  have n2 := e2.1
  have nl := fl.1
  have nd := fd.1
  let S' : Nat → Prop := fun b => S b ∨ b = lb
  let Agree : AH → Prop := fun hh => h2.next ≤ hh.next ∧ ∀ b, b < h2.next → ¬ S b → b ≠ lb → hh.get b = h2.get b
  let J : Nat → AH → Prop := fun j hh => Inv j hh ∧ Agree hh ∧ Has hh lb (.loop r0)
  let E : Nat → AH → Prop := fun j hh => ∃ c, Fin c hh ∧ Agree hh ∧ Has hh lb (.loop { r0 with state := .done, pending := some c })
  have hsub : ∀ {hh}, Agree hh → ExtF S h hh := fun {hh} a => ⟨by have := a.1; omega, fun b hb hn => by rw [a.2 b (by omega) hn (by omega), e2.2 b hb]⟩
  have hd' : ∀ {hh}, Agree hh → Has hh d (.deferred (some [])) := fun {hh} a => ⟨by have := a.1; omega, by rw [a.2 d nd (fun q => by have := hS d q; omega) (by omega)]; exact fd.2⟩
  have agU : ∀ {h1 h3 : AH} {o : ABlk}, Agree h1 → Upd h1 lb o h3 → Agree h3 := fun a u => ⟨by rw [u.1]; exact a.1, fun b hb h1 h2 => by rw [u.2.2 b h2]; exact a.2 b hb h1 h2⟩
  have tk : Tk P h2.next S' (.yield lb) items J E := by
    refine ⟨?_, ?_, ?_, ?_⟩
    · rintro j hh b ⟨i, a, f⟩ (q | rfl)
      · have := hS b q; have := a.1; omega
      · exact f.1
    · rintro j hh h' ⟨i, a, f⟩ hn he
      have := a.1
      refine ⟨kI _ _ _ i hn fun b hb => he b (by omega) (.inl (by omega)), ⟨by omega, fun b hb h1 h2' => by rw [he b (by omega) (.inl hb)]; exact a.2 b hb h1 h2'⟩, ⟨by have := f.1; omega, by rw [he lb f.1 (.inr (.inr rfl))]; exact f.2⟩⟩
    · rintro j hh h' ⟨c, i, a, f⟩ hn he
      have := a.1
      refine ⟨c, kF _ _ _ i hn fun b hb => he b (by omega) (.inl (by omega)), ⟨by omega, fun b hb h1 h2' => by rw [he b (by omega) (.inl hb)]; exact a.2 b hb h1 h2'⟩, ⟨by have := f.1; omega, by rw [he lb f.1 (.inr (.inr rfl))]; exact f.2⟩⟩
    · rintro j item hh hit ⟨i, a, f⟩
      obtain ⟨t1, p1, p2⟩ := bd j item hit
      refine ⟨_, rfl, (fun _ _ q => by cases q), ?_⟩
      subst hr0
      refine Does.round f p1 hfn fun fr rest Q' hr hpn => ?_
      refine p2 hh lb _ fr rest Q' i (hsub a) (by omega) f rfl ?_ ?_
      · intro tt h' i' x' f'
        have hx1 := x'.1
        refine Go.roundEnd f' fun h'' u => ?_
        have hx2 : ExtF S' hh h'' := ⟨by rw [u.1]; exact hx1, fun b hb hn => by rw [u.2.2 b (fun q => hn (.inr q))]; exact x'.2 b hb hn⟩
        have ag : Agree h' := ⟨by have := a.1; omega, fun b hb h1 h2' => by rw [x'.2 b (by have := a.1; omega) (fun q => q.elim h1 h2')]; exact a.2 b hb h1 h2'⟩
        exact hr (.bool true) h'' ⟨hx2, .inl ⟨rfl, kI _ _ _ i' (by rw [u.1]; exact Nat.le_refl _) (fun b hb => u.2.2 b (by omega)), agU ag u, u.has f'⟩⟩
      · intro c tt h' kk hc i' x' f'
        have hx1 := x'.1
        have ag : Agree h' := ⟨by have := a.1; omega, fun b hb h1 h2' => by rw [x'.2 b (by have := a.1; omega) (fun q => q.elim h1 h2')]; exact a.2 b hb h1 h2'⟩
        have fin : ∀ h'', Upd h' lb (.loop { state := .done, pending := some c, fn := fn, n := n, tmps := t, params := params.toList, assign := assign, body := body, defers := d }) h'' → ∃ fr', fr.finish (.bool false) = some fr' ∧ Reach P ⟨fr' :: rest, h''⟩ Q' := by
          intro h'' u
          have hx2 : ExtF S' hh h'' := ⟨by rw [u.1]; exact hx1, fun b hb hn => by rw [u.2.2 b (fun q => hn (.inr q))]; exact x'.2 b hb hn⟩
          exact hr (.bool false) h'' ⟨hx2, .inr ⟨rfl, c, kF _ _ _ i' (by rw [u.1]; exact Nat.le_refl _) (fun b hb => u.2.2 b (by omega)), agU ag u, u.has f'⟩⟩
        rcases hc with rfl | ⟨id, rfl, hk⟩
        · exact Go.roundRet f' fin
        · exact Go.roundExit f' hk fin
  have ag2 : Agree h2 := ⟨Nat.le_refl _, fun _ _ _ _ => rfl⟩
  refine ⟨IterR S' J E items.length h2, it (.yield lb) h2.next S' J E h2 rfl rfl (fun h' x => hA h' ⟨by have := x.1; omega, fun b hb hn => by rw [x.2 b (by omega) (fun q => q.elim hn (fun q => by omega)), e2.2 b hb]⟩) (Nat.le_refl _) tk ⟨kI _ _ _ hI n2 (fun b hb => e2.2 b hb), ag2, fl⟩, (fun chain h' q => by cases q.1), ?_⟩
  rintro v h' ⟨q, x', j | ⟨kk, hk, c, j, a, f⟩⟩
  · obtain ⟨i, a, f⟩ := j
    refine ⟨r0, f, by rw [hr0]; exact (fun q => by cases q), fun h3 u => ?_⟩
    have hp : r0.pending = none := by rw [hr0]
    rw [hp]
    exact nx d h3 (hsub (agU a u)) (by omega) (hd' (agU a u)) (kI _ _ _ i (by rw [u.1]; exact Nat.le_refl _) (fun b hb => u.2.2 b (by omega)))
  · refine ⟨_, f, (fun q => by cases q), fun h3 u => ?_⟩
    exact fx c d h3 (hsub (agU a u)) (by omega) (hd' (agU a u)) (kF _ _ _ j (by rw [u.1]; exact Nat.le_refl _) (fun b hb => u.2.2 b (by omega)))

/-- A function that has gone over an iterator returns. -/
theorem Go.retC {fn n : Nat} {d : Nat} {rst : List AFr} {k : List AItem} {t : Tr AVal} {h : AH} {R : AEnd → AH → Prop} {v : AVal} (hd : Has h d (.deferred (some [])))
    (hv : ∀ h', Upd h d (.deferred none) h' → aResult P h' fn t = some v ∧ R (.ret v) h') : Go P ⟨fn, n, [.collected d], false, none, rst⟩ (.code .ret :: k) t h (Post P fn rst R) :=
  Go.retL (FLeft.collected (fun q => by cases q) hd fun h' u => FLeft.ret (hv h' u).1 (hv h' u).2)
theorem Go.endC {fn n : Nat} {d : Nat} {rst : List AFr} {t : Tr AVal} {h : AH} {R : AEnd → AH → Prop} {v : AVal} (hd : Has h d (.deferred (some [])))
    (hv : ∀ h', Upd h d (.deferred none) h' → aResult P h' fn t = some v ∧ R (.ret v) h') : Go P ⟨fn, n, [.collected d], false, none, rst⟩ [] t h (Post P fn rst R) :=
  Go.endL (FLeft.collected (fun q => by cases q) hd fun h' u => FLeft.ret (hv h' u).1 (hv h' u).2)
theorem splice_at {α : Type} {v : α} : ∀ {l : List α} {i : Nat}, i < l.length → splice l i [v] = some (l.set i v)
  | [], _, h => by simp at h
  | x :: l, 0, _ => by cases l <;> rfl
  | x :: l, i + 1, h => by
    have := splice_at (v := v) (l := l) (i := i) (by simpa using h)
    simp only [splice, this, List.set_cons_succ]

theorem ExtF.ext {S : Nat → Prop} {a h h' : AH} (k : ExtF S a h) (e : Ext h h') : ExtF S a h' := ⟨Nat.le_trans k.1 e.1, fun b hb hS => by rw [e.2 b (Nat.lt_of_lt_of_le hb k.1), k.2 b hb hS]⟩
theorem ExtF.upd {S : Nat → Prop} {a h h' : AH} {b : Nat} {o : ABlk} (k : ExtF S a h) (u : Upd h b o h') (hb : S b ∨ a.next ≤ b) : ExtF S a h' :=
  ⟨by rw [u.1]; exact k.1, fun x hx hS => by rw [u.2.2 x (fun q => by subst q; rcases hb with q | q; exact hS q; omega), k.2 x hx hS]⟩
theorem Has.keep {h h' : AH} {b : Nat} {o : ABlk} (k : Has h b o) (n : h.next ≤ h'.next) (e : h'.get b = h.get b) : Has h' b o := ⟨Nat.lt_of_lt_of_le k.1 n, by rw [e]; exact k.2⟩
/-- What changes are blocks that there were not yet. -/
theorem ExtF.low {S : Nat → Prop} {h h2 h' : AH} (x : ExtF S h2 h') (e : Ext h h2) (hS : ∀ b, S b → h.next ≤ b) : Ext h h' :=
  ⟨Nat.le_trans e.1 x.1, fun b hb => by rw [x.2 b (Nat.lt_of_lt_of_le hb e.1) fun q => Nat.lt_irrefl _ (Nat.lt_of_lt_of_le hb (hS b q)), e.2 b hb]⟩
theorem SliceOf.same {h : AH} {sz : Nat} {s : AVal} {L : List (List AVal)} (k : SliceOf h sz s L) : sameA s s = true := by
  cases k with
  | nil => rfl
  | mk hs => 
    cases s <;> first | (simp [aSlElems] at hs; done) | (simp [sameA, sameAs, eqI_eq]; done)

theorem splice_whole {α : Type} : ∀ {l new : List α}, l.length = new.length → splice l 0 new = some new
  | [], [], _ => rfl
  | _ :: _, [], h => by simp at h
  | [], _ :: _, h => by simp at h
  | x :: l, y :: new, h => by simp only [splice, splice_whole (l := l) (new := new) (by simpa using h)]

theorem repl_eq {α : Type} (l : List α) : ∀ n : Nat, repl l n = (List.replicate n l).flatten
  | 0 => rfl
  | n + 1 => by simp [repl, repl_eq l n, List.replicate_succ]

theorem GoR.makeSl {J : Jump} {c : FC} {k : List AItem} {Q : AM → Prop} {all : Array Oper} {l : List Oper} {rest : List Oper} {o : Oper} {i d n size bytes : Nat} {t : Tr AVal} {h : AH} {ty el : TypeId} {x y : Operand} {z : AVal}
    (hl0 : l = o :: rest) (hw : wantedA all t o = some true) (ho : o.op = .makeSlice ty x y) (hu : P.underlying ty = some (.slice el)) (hx : ev t x = some (.int .i64 (.ofNat n))) (hy : ev t y = some (.int .i64 (.ofNat n)))
    (hs : sizeT P el = some size) (hby : bytesT P el = some bytes) (hz : zeroT P el = some z) (hzl : Nat.beq z.cells.length size = true) (hb : Nat.ble ((n + 1) * (bytes + 1)) 1000000 = true) (hd : o.dst = some d) (hdn : Nat.blt d c.n = true)
    (g : ∀ h1, Ext h h1 → Has h1 h.next (.cells .plain (repl z.cells n) el) → GoR P J c k Q (runOps P c.n all rest (i + 1) (t.put (pth d) (some (.slice h.next 0 n n))) h1)) : GoR P J c k Q (runOps P c.n all l i t h) := by
  obtain ⟨h1, q⟩ := new_some h (.cells .plain (repl z.cells n) el)
  obtain ⟨_, q2, q3⟩ := new_ext q
  refine GoR.op hl0 hw (v := .slice h.next 0 n n) (h' := h1) ?_ ?_ (g h1 q2 q3)
  · obtain ⟨dst, op, type, pos, after, guard⟩ := o
    dsimp only at ho
    subst ho
    show opMakeSlice P t h ty x y = _
    unfold opMakeSlice
    rw [hu, hx, hy]
    have hnn : Nat.ble n n = true := Nat.ble_eq_true_of_le (Nat.le_refl _)
    simp only [hs, hby, hz, hnn, hb, hzl, cond_true, q]
  · unfold prepD
    rw [hd]
    simp only [hdn, cond_true]
    rw [Tr.mkPut_eq]
/-- One element more. -/
theorem GoR.append1F {c : FC} {k : List AItem} {Q : AM → Prop} {J : Jump} {all : Array Oper} {l : List Oper} {o : Oper} {rest : List Oper} {i d : Nat} {t : Tr AVal} {h : AH} {s : AVal} {n b lo : Nat} {cs new : List AVal} {g0 : Kd} {t1 t2 el el2 : TypeId} {x y : Operand} {sz bytes : Nat} {z : AVal} (hl0 : l = o :: rest) (hw : wantedA all t o = some true)
    (ho : o.op = .call ⟨.builtin .append, #[x, y], #[t1, t2]⟩) (hu1 : P.underlying t1 = some (.slice el)) (hu2 : P.underlying t2 = some (.slice el2)) (hs : sizeT P el = some sz) (hby : bytesT P el = some bytes) (hz : zeroT P el = some z) (hzl : Nat.beq z.cells.length sz = true)
    (hsz : Nat.blt 0 sz = true) (hx : ev t x = some s) (hy : ev t y = some (.slice b 0 1 1)) (hb : Has h b (.cells g0 new el2)) (hnl : Nat.beq new.length sz = true) (hns : scalars new = true) (hgr : Grow h el sz lo s n cs)
    (hroom : (n + 301) * 2 * (bytes + 1) < 281474976710656) (hd : o.dst = some d) (hdn : Nat.blt d c.n = true)
    (g : ∀ s' h1, ExtF (fun b => s = .gsl b 0 0 n) h h1 → Grow h1 el sz h.next s' (n + 1) (cs ++ new) → GoR P J c k Q (runOps P c.n all rest (i + 1) (t.put (pth d) (some s')) h1)) :
    GoR P J c k Q (runOps P c.n all l i t h) := by
  obtain ⟨hcl, hgr⟩ := hgr
  have e1 := Nat.eq_of_beq_eq_true hnl
  have hput : ∀ v, (prepD c.n o).run t v = some (t.put (pth d) (some v)) := by
    intro v
    unfold prepD
    rw [hd]
    simp only [hdn, cond_true]
    rw [Tr.mkPut_eq]
  have hsrc : srcCells h sz 1 (.slice b 0 1 1) = some new := by
    simp only [srcCells, loadCells, hb.2, Nat.one_mul]
    exact slice_all e1
  have hlt : Nat.blt ((n + 1 + 300) * 2 * (bytes + 1)) 281474976710656 = true := Nat.ble_eq_true_of_le hroom
  have hop : ∀ {y'}, aAppend P h t1 t2 s (.slice b 0 1 1) = some y' → aOp P t h o = some y' := by
    intro y' q
    obtain ⟨dst, op, type, pos, after, guard⟩ := o
    dsimp only at ho
    subst ho
    show opCall P t h ⟨.builtin .append, #[x, y], #[t1, t2]⟩ type = _
    have he : evs t [x, y] = some [s, .slice b 0 1 1] := by simp only [evs, mapO, hx, hy]
    simp only [opCall, he, callWith, aBuiltin, q]
  rcases hgr with ⟨rfl, rfl⟩ | ⟨hn0, bs, hlo, rfl, hbs⟩
  · obtain ⟨h1, q⟩ := new_some h (.cells .grow new el)
    obtain ⟨_, q2, q3⟩ := new_ext q
    have hc0 : cs = [] := List.eq_nil_of_length_eq_zero (by simpa using hcl)
    subst hc0
    refine GoR.op hl0 hw (v := .gsl h.next 0 0 1) (h' := h1) (hop ?_) (hput _) (g _ h1 (.of q2) ⟨by simp [e1], .inr ⟨by omega, h.next, Nat.le_refl _, rfl, q3⟩⟩)
    unfold aAppend
    rw [hu1, hu2]
    simp only [hs, hby, hz, lenA, hsrc, hlt, hsz, hzl, cond_true]
    have : Nat.beq 1 0 = false := rfl
    simp only [this, cond_false, growNew, q]
  · have hset : ∃ h2, h.set bs none = some h2 := by obtain ⟨tt, nx⟩ := h; exact ⟨_, rfl⟩
    obtain ⟨h2, hset⟩ := hset
    obtain ⟨h1, q⟩ := new_some h2 (.cells .grow (cs ++ new) el)
    obtain ⟨_, q2, q3⟩ := new_ext q
    obtain ⟨hnx, hgt⟩ := AH.get_set hset
    have hx2 : ExtF (fun b => AVal.gsl bs 0 0 n = .gsl b 0 0 n) h h2 := ⟨by omega, fun b hb hne => by rw [hgt, if_neg (fun q => hne (by rw [q]))]⟩
    refine GoR.op hl0 hw (v := .gsl h2.next 0 0 (n + 1)) (h' := h1) (hop ?_) (hput _) (g _ h1 (hx2.ext q2) ⟨by simp [e1, hcl, Nat.add_mul], .inr ⟨by omega, h2.next, by omega, rfl, q3⟩⟩)
    unfold aAppend
    rw [hu1, hu2]
    simp only [hs, hby, hz, lenA, hsrc, hlt, hsz, hzl, cond_true]
    unfold appGsl
    rw [hbs.2]
    have b1 : Nat.beq 0 (0 * sz) = true := by simp
    have b2 : eqSize P el sz = true := by unfold eqSize; rw [hs]; simp
    have b3 : Nat.beq el el = true := by simp
    have b4 : Nat.ble (0 + (n + 1) * sz) cs.length = false := by
      cases hq : Nat.ble (0 + (n + 1) * sz) cs.length with
      | false => rfl
      | true =>
        have := Nat.le_of_ble_eq_true hq
        have h3 : 0 < sz := blt_true hsz
        rw [hcl, Nat.zero_add, Nat.add_mul] at this
        omega
    have b5 : srcCells h sz n (.gsl bs 0 0 n) = some cs := by
      simp only [srcCells, loadCells, hbs.2]
      exact slice_all hcl
    simp only [b1, b2, b3, b4, b5, hns, cond_true, cond_false, hset, growNew, q]
    have : Nat.beq 0 0 = true := rfl
    simp only [this, cond_true]
/-- What grows, once other blocks changed. -/
theorem Grow.keep {h h' : AH} {el : TypeId} {sz lo : Nat} {s : AVal} {n : Nat} {cs : List AVal} (k : Grow h el sz lo s n cs) (hn : h.next ≤ h'.next) (he : ∀ b, lo ≤ b → b < h.next → s = .gsl b 0 0 n → h'.get b = h.get b) : Grow h' el sz lo s n cs := by
  obtain ⟨k1, k2⟩ := k
  refine ⟨k1, ?_⟩
  rcases k2 with k2 | ⟨h0, b, h1, h2, h3⟩
  · exact .inl k2
  · exact .inr ⟨h0, b, h1, h2, h3.keep hn (he b h1 h3.1 h2)⟩
theorem Grow.nil (h : AH) (el : TypeId) (sz lo : Nat) : Grow h el sz lo .nilslice 0 [] := ⟨by simp, .inl ⟨rfl, rfl⟩⟩
end
end Go.AbsE

namespace Go.Proofs.Ytmdheijpnlonoaa
open Go Go.AbsE
set_option linter.unusedSimpArgs false
set_option maxRecDepth 100000
set_option maxHeartbeats 0
set_option linter.unusedVariables false
theorem flds146 : ∃ fs, Try.prog.underlying 146 = some (.struct fs) ∧ placesT Try.prog fs.toList = some [(0, 1)] := ⟨_, Try.underlying146, by kernel_rfl⟩
theorem flds148 : ∃ fs, Try.prog.underlying 148 = some (.struct fs) ∧ placesT Try.prog fs.toList = some [(0, 1), (1, 3)] := ⟨_, Try.underlying148, by kernel_rfl⟩

def holdV (n : Int) : Int := if 100 < (if n < 0 then 0 else n) then 100 else (if n < 0 then 0 else n)
theorem holdV_in (n : Int) : 0 ≤ holdV n ∧ holdV n ≤ 100 := by
  unfold holdV
  refine ⟨?_, ?_⟩ <;> split <;> split <;> omega

theorem hold_ok (r n : Int) (h : AH) : Runs Try.prog 123 [.agg [.int .i64 r], .int .i64 n] h (fun en h' => en = .ret (.int .i64 (holdV n)) ∧ Ext h h') := by
  refine Runs.intro aFunc123 rfl rfl rfl rfl fun rest => ?_
  refine Go.seq noJ_ok ?_
  refine Go.region noJ_ok rfl ?_
  refine GoR.box rfl rfl rfl rfl rfl rfl fun h0 x0 f0 => ?_
  have e0 := x0
  have := f0.1
  refine GoR.op rfl rfl rfl rfl ?_
  refine GoR.end ?_
  refine Go.seq noJ_ok ?_
  refine Go.region noJ_ok rfl ?_
  refine GoR.op rfl rfl rfl rfl ?_
  refine GoR.op rfl rfl (aOp_max2 rfl rfl rfl) rfl ?_
  refine GoR.op rfl rfl (aOp_min2 rfl rfl rfl) rfl ?_
  refine GoR.op rfl rfl rfl rfl ?_
  refine GoR.end ?_
  exact Go.ret noJ_ok (ret_end (aResult_of Try.func123 rfl rfl) ⟨rfl, e0⟩)

theorem evR_ok (r p n : Int) (hr : 0 ≤ r ∧ r ≤ 10) (hn : 0 ≤ n ∧ n ≤ 100) (h : AH) : Runs Try.prog 122 [.agg [.int .i64 r], .int .i64 p, .int .i64 n] h (fun en h' => en = .ret (.int .i64 (holdV (n + r))) ∧ Ext h h') := by
  refine Runs.intro aFunc122 rfl rfl rfl rfl fun rest => ?_
  refine Go.seq noJ_ok ?_
  refine Go.region noJ_ok rfl ?_
  refine GoR.box rfl rfl rfl rfl rfl rfl fun h0 x0 f0 => ?_
  have e0 := x0
  have := f0.1
  refine GoR.op rfl rfl rfl rfl ?_
  refine GoR.end ?_
  refine Go.seq noJ_ok ?_
  refine Go.region noJ_ok rfl ?_
  refine GoR.op rfl rfl (ld146 rfl f0 rfl) rfl ?_
  refine GoR.op rfl rfl rfl rfl ?_
  refine GoR.op rfl rfl (fa146_0 rfl) rfl ?_
  refine GoR.op rfl rfl (ld3 rfl f0 rfl) rfl ?_
  refine GoR.op rfl rfl (aOp_add rfl rfl (by constructor <;> omega) rfl) rfl ?_
  refine GoR.call rfl rfl (aOp_callFunc aFunc123 rfl) (hold_ok r (n + r) _) ?_ (by rintro _ _ ⟨q, _⟩; cases q)
  rintro _ h1 ⟨q, x1⟩
  cases q
  refine ⟨_, rfl, ?_⟩
  replace f0 := f0.ext x1
  replace e0 := e0.trans x1
  refine GoR.op rfl rfl rfl rfl ?_
  refine GoR.end ?_
  exact Go.ret noJ_ok (ret_end (aResult_of Try.func122 rfl rfl) ⟨rfl, e0⟩)

theorem evF_ok (z a b c : Int) (p : Nat) {d : Int} (hp : p < 3) (hd : [a, b, c][p]? = some d) (n : Int) (hd0 : 0 ≤ d ∧ d ≤ 20) (hn : 0 ≤ n ∧ n ≤ 100) (h : AH) :
    Runs Try.prog 124 [.agg [.int .i64 z, .int .i64 a, .int .i64 b, .int .i64 c], .int .i64 p, .int .i64 n] h (fun en h' => en = .ret (.int .i64 (holdV (n - d))) ∧ Ext h h') := by
  have hld : [AVal.int .i64 z, .int .i64 a, .int .i64 b, .int .i64 c][0 + 1 + p * 1]? = some (.int .i64 d) := by
    match p, hp, hd with
    | 0, _, hd => cases hd; rfl
    | 1, _, hd => cases hd; rfl
    | 2, _, hd => cases hd; rfl
  refine Runs.intro aFunc124 rfl rfl rfl rfl fun rest => ?_
  refine Go.seq noJ_ok ?_
  refine Go.region noJ_ok rfl ?_
  refine GoR.box rfl rfl rfl rfl rfl rfl fun h0 x0 f0 => ?_
  have e0 := x0
  have := f0.1
  refine GoR.op rfl rfl rfl rfl ?_
  refine GoR.end ?_
  refine Go.seq noJ_ok ?_
  refine Go.drawnE plan124_0 ?_
  refine GoE.quiet rfl rfl (fa148_0 rfl) rfl ?_
  refine GoE.quiet rfl rfl (ld146 rfl f0 rfl) rfl ?_
  iterate 2 refine GoE.quiet rfl rfl rfl rfl ?_
  refine GoE.quiet rfl rfl (fa148_1 rfl) rfl ?_
  refine GoE.quiet rfl rfl (aOp_indexAddrArr Try.underlying24 sz3 rfl rfl (Nat.ble_eq_true_of_le hp)) rfl ?_
  refine GoE.quiet rfl rfl (ld3 rfl f0 hld) rfl ?_
  refine GoE.quiet rfl rfl (aOp_sub rfl rfl (by constructor <;> omega) rfl) rfl ?_
  refine GoE.call rfl rfl (aOp_callFunc aFunc123 rfl) (hold_ok z (n - d) _) (dropF_drop (show bit? 255 7 = true from rfl) (dropF_drop (show bit? 255 6 = true from rfl) (dropF_drop (show bit? 255 5 = true from rfl) (dropF_drop (show bit? 255 4 = true from rfl) (dropF_drop (show bit? 255 3 = true from rfl) (dropF_drop (show bit? 255 2 = true from rfl) (dropF_drop (show bit? 255 1 = true from rfl) (dropF_drop (show bit? 255 0 = true from rfl) rfl)))))))) ?_ (by rintro _ _ ⟨q, _⟩; cases q)
  rintro _ h1 ⟨q, x1⟩
  cases q
  replace f0 := f0.ext x1
  replace e0 := e0.trans x1
  refine ⟨recheck_nil, _, rfl, ?_⟩
  refine GoE.quiet rfl rfl rfl rfl ?_
  refine GoE.end rfl ?_
  exact Go.ret noJ_ok (ret_end (aResult_of Try.func124 rfl rfl) ⟨rfl, e0⟩)

def wV (a b c : Int) (r : Int) : AVal := if 0 < r then .iface 146 (.agg [.int .i64 r]) else .iface 148 (.agg [.int .i64 0, .int .i64 a, .int .i64 b, .int .i64 c])
theorem wV_cells (a b c r : Int) : (wV a b c r).cells = [wV a b c r] := by unfold wV; split <;> rfl

theorem weather_ok (hs rs ls : AVal) (a b c lim r : Int) (h : AH) : Runs Try.prog 94 [.agg [hs, rs, .int .i64 a, .int .i64 b, .int .i64 c, .int .i64 lim, ls], .int .i64 r] h (fun en h' => en = .ret (wV a b c r) ∧ Ext h h') := by
  obtain ⟨fs146, hu146, pl146⟩ := flds146
  obtain ⟨fs148, hu148, pl148⟩ := flds148
  by_cases hr : 0 < r
  · unfold wV
    rw [if_pos hr]
    refine Runs.intro aFunc94 rfl rfl rfl rfl fun rest => ?_
    refine Go.seq noJ_ok ?_
    refine Go.region noJ_ok rfl ?_
    refine GoR.box rfl rfl rfl rfl rfl rfl fun h0 x0 f0 => ?_
    have e0 := x0
    have := f0.1
    refine GoR.op rfl rfl rfl rfl ?_
    refine GoR.end ?_
    iterate 2 refine Go.seq noJ_ok ?_
    refine Go.region noJ_ok rfl ?_
    refine GoR.op rfl rfl rfl rfl ?_
    refine GoR.op rfl rfl (aOp_gtr rfl rfl (r := true) (decide_eq_true (by omega))) rfl ?_
    refine GoR.end ?_
    refine Go.cond noJ_ok (b := true) rfl ?_
    refine Go.seq noJ_ok ?_
    refine Go.region noJ_ok rfl ?_
    refine GoR.op rfl rfl rfl rfl ?_
    refine GoR.op rfl rfl (aOp_build (ps := [(0, .int .i64 r)]) (cs := [.int .i64 r]) zt146 hu146 pl146 rfl rfl) rfl ?_
    iterate 2 refine GoR.op rfl rfl rfl rfl ?_
    refine GoR.end ?_
    exact Go.ret noJ_ok (ret_end (aResult_of Try.func94 rfl rfl) ⟨rfl, e0⟩)
  · unfold wV
    rw [if_neg hr]
    refine Runs.intro aFunc94 rfl rfl rfl rfl fun rest => ?_
    refine Go.seq noJ_ok ?_
    refine Go.region noJ_ok rfl ?_
    refine GoR.box rfl rfl rfl rfl rfl rfl fun h0 x0 f0 => ?_
    have e0 := x0
    have := f0.1
    refine GoR.op rfl rfl rfl rfl ?_
    refine GoR.end ?_
    iterate 2 refine Go.seq noJ_ok ?_
    refine Go.region noJ_ok rfl ?_
    refine GoR.op rfl rfl rfl rfl ?_
    refine GoR.op rfl rfl (aOp_gtr rfl rfl (r := false) (decide_eq_false (by omega))) rfl ?_
    refine GoR.end ?_
    refine Go.cond noJ_ok (b := false) rfl ?_
    refine Go.code noJ_ok ?_
    refine Go.seq noJ_ok ?_
    refine Go.region noJ_ok rfl ?_
    refine GoR.op rfl rfl (fa74_2 rfl) rfl ?_
    refine GoR.op rfl rfl (ld24 rfl f0 rfl) rfl ?_
    refine GoR.op rfl rfl (aOp_build (ps := [(1, .agg [.int .i64 a, .int .i64 b, .int .i64 c])]) (cs := [.int .i64 0, .int .i64 a, .int .i64 b, .int .i64 c]) zt148 hu148 pl148 rfl rfl) rfl ?_
    iterate 2 refine GoR.op rfl rfl rfl rfl ?_
    refine GoR.end ?_
    exact Go.ret noJ_ok (ret_end (aResult_of Try.func94 rfl rfl) ⟨rfl, e0⟩)
theorem by134 : bytesT Try.prog 134 = some 16 := by kernel_rfl
theorem zt134 : zeroT Try.prog 134 = some .nilIface := by kernel_rfl
theorem repl_nil : ∀ n : Nat, repl (AVal.nilIface).cells n = List.replicate n .nilIface
  | 0 => rfl
  | n + 1 => by rw [List.replicate_succ, ← repl_nil n]; rfl

theorem days_ok (hs rs ls : AVal) (a b c lim : Int) (n : Nat) (hn : n ≤ 6) (hl : lenA rs = some n) (fell : List Int) (hf : fell.length = 6) (h : AH) :
    Runs Try.prog 69 [.agg [hs, rs, .int .i64 a, .int .i64 b, .int .i64 c, .int .i64 lim, ls], .agg (fell.map (.int .i64))] h
      (fun en h' => ∃ bb, en = .ret (.slice bb 0 n n) ∧ Ext h h' ∧ h.next ≤ bb ∧ Has h' bb (.cells .plain ((fell.take n).map (wV a b c)) 134)) := by
  obtain ⟨a1, a2, a3, a4, a5, a6, hff⟩ : ∃ a b c d e f, fell = [a, b, c, d, e, f] := six hf
  subst hff
  refine Runs.intro aFunc69 rfl rfl rfl rfl fun rest => ?_
  refine Go.seq noJ_ok ?_
  refine Go.region noJ_ok rfl ?_
  refine GoR.box rfl rfl rfl rfl rfl rfl fun h0 x0 f0 => ?_
  have e0 := x0
  have := f0.1
  refine GoR.box rfl rfl rfl rfl rfl rfl fun h1 x1 f1 => ?_
  have := e0.1
  have := f0.1
  replace f0 := f0.ext x1
  replace e0 := e0.trans x1
  have := f1.1
  refine GoR.op rfl rfl rfl rfl ?_
  refine GoR.end ?_
  refine Go.seq noJ_ok ?_
  refine Go.region noJ_ok rfl ?_
  refine GoR.op rfl rfl (fa74_1 rfl) rfl ?_
  refine GoR.op rfl rfl (ld23 rfl f0 rfl) rfl ?_
  refine GoR.op rfl rfl (aOp_lenSlice Try.underlying23 rfl hl) rfl ?_
  refine GoR.makeSl rfl rfl rfl Try.underlying103 rfl rfl sz134 by134 zt134 rfl (Nat.ble_eq_true_of_le (by omega)) rfl rfl fun h8 x8 f8 => ?_
  rw [repl_nil] at f8
  have hb1 := e0.1
  have hb2 := f0.1
  have hb3 := f1.1
  have hx := x8.1
  have hb8 := f8.1
  replace f0 := f0.ext x8
  replace f1 := f1.ext x8
  replace e0 := e0.trans x8
  refine GoR.op rfl rfl rfl rfl ?_
  refine GoR.end ?_
  iterate 2 refine Go.seq noJ_ok ?_
  refine Go.region noJ_ok rfl ?_
  iterate 3 refine GoR.op rfl rfl rfl rfl ?_
  refine GoR.end ?_
  refine Go.block noJ_ok ?_
  refine Go.loopKeep (fun i : Nat => [(2, .ptr h.next 0), (3, .ptr h0.next 0), (5, .slice h1.next 0 n n), (12, .int .i64 n), (13, .int .i64 (i : Nat))])
    (fun m i h' => m + i = n ∧ Ext h h' ∧ Has h' h.next (.cells .plain [hs, rs, .int .i64 a, .int .i64 b, .int .i64 c, .int .i64 lim, ls] 74) ∧ Has h' h0.next (.cells .plain [.int .i64 a1, .int .i64 a2, .int .i64 a3, .int .i64 a4, .int .i64 a5, .int .i64 a6] 102) ∧
      Has h' h1.next (.cells .plain (([a1, a2, a3, a4, a5, a6].take i).map (wV a b c) ++ List.replicate (n - i) AVal.nilIface) 134)) (n := n) 0 ⟨rfl, rfl, rfl, rfl, rfl, trivial⟩ ⟨rfl, e0, f0, f1, f8⟩ ?_
  clear e0 f0 f1 f8
  rintro m i hc ⟨hm, e0, f0, f1, f2⟩ again
  by_cases hi : i < n
  · obtain ⟨r, hr⟩ : ∃ r, [a1, a2, a3, a4, a5, a6][i]? = some r := ⟨[a1, a2, a3, a4, a5, a6][i]'(by simp; omega), by simp⟩
    have hld : [AVal.int .i64 a1, .int .i64 a2, .int .i64 a3, .int .i64 a4, .int .i64 a5, .int .i64 a6][0 + i * 1]? = some (.int .i64 r) := by
      have : [AVal.int .i64 a1, .int .i64 a2, .int .i64 a3, .int .i64 a4, .int .i64 a5, .int .i64 a6] = [a1, a2, a3, a4, a5, a6].map (.int .i64) := rfl
      rw [this, List.getElem?_map, Nat.zero_add, Nat.mul_one, hr]
      rfl
    have hi6 : i < 6 := by omega
    have hset : (([a1, a2, a3, a4, a5, a6].take i).map (wV a b c) ++ List.replicate (n - i) AVal.nilIface).set (0 + i * 1) (wV a b c r) = ([a1, a2, a3, a4, a5, a6].take (i + 1)).map (wV a b c) ++ List.replicate (n - (i + 1)) AVal.nilIface := by
      rw [List.take_add_one, hr, show n - i = (n - (i + 1)) + 1 by omega, List.replicate_succ, Nat.zero_add, Nat.mul_one, List.set_append_right _ _ (by simp; omega)]
      have : (List.map (wV a b c) (List.take i [a1, a2, a3, a4, a5, a6])).length = i := by simp; omega
      rw [this, Nat.sub_self]
      simp
    have hsp : splice (([a1, a2, a3, a4, a5, a6].take i).map (wV a b c) ++ List.replicate (n - i) AVal.nilIface) (0 + i * 1) (wV a b c r).cells = some (([a1, a2, a3, a4, a5, a6].take (i + 1)).map (wV a b c) ++ List.replicate (n - (i + 1)) AVal.nilIface) := by
      rw [wV_cells, splice_at (by simp; omega), hset]
    have hcl : Nat.beq (wV a b c r).cells.length 1 = true := by rw [wV_cells]; rfl
    have hsc : scalars (wV a b c r).cells = true := by rw [wV_cells]; unfold wV; split <;> rfl
    refine Go.seq noJ_ok ?_
    refine Go.region noJ_ok rfl ?_
    refine GoR.op rfl rfl (aOp_lss rfl rfl (r := true) (decide_eq_true (by omega))) rfl ?_
    refine GoR.end ?_
    refine Go.seq noJ_ok ?_
    refine Go.cond noJ_ok (b := true) rfl ?_
    refine Go.code noJ_ok ?_
    refine Go.seq noJ_ok ?_
    refine Go.block noJ_ok ?_
    refine Go.seq noJ_ok ?_
    refine Go.region noJ_ok rfl ?_
    iterate 2 refine GoR.op rfl rfl rfl rfl ?_
    refine GoR.end ?_
    refine Go.drawnE plan69_0 ?_
    iterate 2 refine GoE.quiet rfl rfl rfl rfl ?_
    refine GoE.quiet rfl rfl (ld74 rfl f0 rfl) rfl ?_
    refine GoE.quiet rfl rfl rfl rfl ?_
    refine GoE.quiet rfl rfl (aOp_indexAddrArr Try.underlying102 sz3 rfl rfl (Nat.ble_eq_true_of_le hi6)) rfl ?_
    refine GoE.quiet rfl rfl (ld3 rfl f1 hld) rfl ?_
    refine GoE.call rfl rfl (aOp_callFunc aFunc94 rfl) (weather_ok hs rs ls a b c lim r _) (dropF_drop (show bit? 60 5 = true from rfl) (dropF_drop (show bit? 60 4 = true from rfl) (dropF_drop (show bit? 60 3 = true from rfl) (dropF_drop (show bit? 60 2 = true from rfl) (dropF_keep (show bit? 60 1 = false from rfl) (dropF_keep (show bit? 60 0 = false from rfl) rfl)))))) ?_ (by rintro _ _ ⟨q, _⟩; cases q)
    rintro _ h9 ⟨q, x9⟩
    cases q
    replace f0 := f0.ext x9
    replace f1 := f1.ext x9
    replace f2 := f2.ext x9
    replace e0 := e0.trans x9
    refine ⟨(recheck_cons (h2 := h9) rfl (rfl) (by first | rfl | exact sameA_int _ _ | exact sameA_bool _ | exact sameA_agg2 _ _ | assumption | (simp [sameA, sameAs, eqI_eq]; done)) (recheck_cons (h2 := h9) rfl (rfl) (by first | rfl | exact sameA_int _ _ | exact sameA_bool _ | exact sameA_agg2 _ _ | assumption | (simp [sameA, sameAs, eqI_eq]; done)) recheck_nil)), _, rfl, ?_⟩
    refine GoE.quiet rfl rfl (aOp_indexAddr Try.underlying103 sz134 rfl rfl rfl (Nat.ble_eq_true_of_le hi)) rfl ?_
    refine GoE.store rfl rfl rfl rfl (dropF_drop (show bit? 255 7 = true from rfl) (dropF_drop (show bit? 255 1 = true from rfl) (dropF_drop (show bit? 255 0 = true from rfl) rfl))) rfl rfl f2 rfl sz134 hcl hsc hsp fun h10 u10 => ?_
    replace f0 := f0.upd u10 (by omega)
    replace f1 := f1.upd u10 (by omega)
    replace f2 := u10.has f2
    replace e0 := e0.upd u10 (by omega)
    refine ⟨recheck_nil, ?_⟩
    refine GoE.end rfl ?_
    refine Go.inBlock noJ_ok ?_
    refine Go.region noJ_ok rfl ?_
    refine GoR.op rfl rfl (aOp_add rfl rfl (by constructor <;> omega) rfl) rfl ?_
    refine GoR.op rfl rfl rfl rfl ?_
    refine GoR.end ?_
    exact again (m - 1) (i + 1) _ _ (by omega) ⟨rfl, rfl, rfl, rfl, rfl, trivial⟩ ⟨by omega, e0, f0, f1, f2⟩
  · have hin : i = n := by omega
    subst hin
    rw [Nat.sub_self, List.replicate_zero, List.append_nil] at f2
    refine Go.seq noJ_ok ?_
    refine Go.region noJ_ok rfl ?_
    refine GoR.op rfl rfl (aOp_lss rfl rfl (r := false) (decide_eq_false (by omega))) rfl ?_
    refine GoR.end ?_
    refine Go.seq noJ_ok ?_
    refine Go.cond noJ_ok (b := false) rfl ?_
    refine Go.code noJ_ok ?_
    refine Go.seq noJ_ok ?_
    refine Go.region noJ_ok rfl ?_
    iterate 2 refine GoR.op rfl rfl rfl rfl ?_
    refine GoR.end ?_
    exact Go.ret noJ_ok (ret_end (aResult_of Try.func69 rfl rfl) ⟨_, rfl, e0, by omega, f2⟩)
end Go.Proofs.Ytmdheijpnlonoaa

namespace Go.Proofs.Ytmdheijpnlonoaa
open Go Go.AbsE
set_option linter.unusedSimpArgs false
set_option maxRecDepth 100000
set_option maxHeartbeats 0
set_option linter.unusedVariables false

theorem set_pad {α : Type} (l : List α) (z v : α) {i N : Nat} (hl : l.length = i) (hi : i < N) : (l ++ List.replicate (N - i) z).set i v = (l ++ [v]) ++ List.replicate (N - (i + 1)) z := by
  subst hl
  rw [show N - l.length = (N - (l.length + 1)) + 1 by omega, List.replicate_succ, List.set_append_right _ _ (Nat.le_refl _), Nat.sub_self]
  simp

/-- How wet a heap is in the evening of a day. -/
def ev1 (a b c : Int) (p : Nat) (r w : Int) : Int := if 0 < r then holdV (w + r) else holdV (w - (([a, b, c][p]?).getD 0))
theorem ev1_in (a b c : Int) (p : Nat) (r w : Int) : 0 ≤ ev1 a b c p r w ∧ ev1 a b c p r w ≤ 100 := by unfold ev1; split <;> exact holdV_in _
def scan (a b c : Int) (p : Nat) : List Int → Int → List Int
  | [], _ => []
  | r :: rs, w => ev1 a b c p r w :: scan a b c p rs (ev1 a b c p r w)
def after (a b c : Int) (p : Nat) (rs : List Int) (w : Int) : Int := rs.foldl (fun w r => ev1 a b c p r w) w
theorem scan_len (a b c : Int) (p : Nat) : ∀ (rs : List Int) (w : Int), (scan a b c p rs w).length = rs.length
  | [], _ => rfl
  | r :: rs, w => by simp [scan, scan_len a b c p rs]
theorem scan_app (a b c : Int) (p : Nat) (r : Int) : ∀ (rs : List Int) (w : Int), scan a b c p (rs ++ [r]) w = scan a b c p rs w ++ [ev1 a b c p r (after a b c p rs w)]
  | [], _ => rfl
  | x :: rs, w => by simp only [List.cons_append, scan, scan_app a b c p r rs, after, List.foldl_cons]
theorem after_app (a b c : Int) (p : Nat) (r : Int) (rs : List Int) (w : Int) : after a b c p (rs ++ [r]) w = ev1 a b c p r (after a b c p rs w) := by simp [after]
theorem after_in (a b c : Int) (p : Nat) (rs : List Int) {w : Int} (hw : 0 ≤ w ∧ w ≤ 100) : 0 ≤ after a b c p rs w ∧ after a b c p rs w ≤ 100 := by
  rcases List.eq_nil_or_concat rs with rfl | ⟨l, r, rfl⟩
  · exact hw
  · rw [List.concat_eq_append, after_app]; exact ev1_in _ _ _ _ _ _
theorem scan_bd (a b c : Int) (p : Nat) : ∀ (rs : List Int) (w : Int) (x : Int), x ∈ scan a b c p rs w → 0 ≤ x ∧ x ≤ 100
  | [], _, _, h => by cases h
  | r :: rs, w, x, h => by
    unfold scan at h
    rcases List.mem_cons.1 h with rfl | h
    · exact ev1_in _ _ _ _ _ _
    · exact scan_bd a b c p rs _ x h
/-- How wet a heap is in each evening; behind the last day there are zeros. -/
def crs (a b c : Int) (p : Nat) (rs : List Int) (w : Int) : List Int := scan a b c p rs w ++ List.replicate (6 - rs.length) 0
theorem crs_len (a b c : Int) (p : Nat) {rs : List Int} (w : Int) (h : rs.length ≤ 6) : (crs a b c p rs w).length = 6 := by
  unfold crs; rw [List.length_append, scan_len, List.length_replicate]; omega
theorem crs_in (a b c : Int) (p : Nat) (rs : List Int) (w : Int) (x : Int) (h : x ∈ crs a b c p rs w) : 0 ≤ x ∧ x ≤ 100 := by
  unfold crs at h
  rcases List.mem_append.1 h with h | h
  · exact scan_bd _ _ _ _ _ _ _ h
  · rw [(List.mem_replicate.1 h).2]; omega
def i64s (l : List Int) : List AVal := l.map (.int .i64)

/-- The evening of a day: what is called. -/
theorem evening_in (a b c r : Int) (p : Nat) (w : Int) (hp : p < 3) (hd : 0 ≤ a ∧ a ≤ 20 ∧ 0 ≤ b ∧ b ≤ 20 ∧ 0 ≤ c ∧ c ≤ 20) (hr : r ≤ 10) (hw : 0 ≤ w ∧ w ≤ 100) (h : AH) :
    ∃ f args, aInvokeIface Try.prog (wV a b c r) "bogworks/heap.evening" [.int .i64 p, .int .i64 w] h = some (.enter f args h) ∧ Runs Try.prog f args h (fun en h' => en = .ret (.int .i64 (ev1 a b c p r w)) ∧ Ext h h') := by
  unfold wV ev1
  by_cases h0 : 0 < r
  · rw [if_pos h0, if_pos h0]
    exact ⟨122, [.agg [.int .i64 r], .int .i64 p, .int .i64 w], by kernel_rfl, evR_ok r p w ⟨by omega, hr⟩ hw h⟩
  · rw [if_neg h0, if_neg h0]
    obtain ⟨d, hdd, hd0⟩ : ∃ d, [a, b, c][p]? = some d ∧ 0 ≤ d ∧ d ≤ 20 := by
      match p, hp with
      | 0, _ => exact ⟨a, rfl, by omega, by omega⟩
      | 1, _ => exact ⟨b, rfl, by omega, by omega⟩
      | 2, _ => exact ⟨c, rfl, by omega, by omega⟩
    refine ⟨124, [.agg [.int .i64 0, .int .i64 a, .int .i64 b, .int .i64 c], .int .i64 p, .int .i64 w], by kernel_rfl, ?_⟩
    rw [hdd]
    exact evF_ok 0 a b c p hp hdd w hd0 hw h

theorem courses_ok (tv : List AVal) (htv : ∃ p lo hi sl, tv = [.int .i64 p, .int .i64 lo, .int .i64 hi, sl]) (ht : scalars tv = true) (s : AVal) (hs : scalars [s] = true) (hs' : s.cells = [s]) (h : AH) :
    Runs Try.prog 102 [.agg tv, s] h (fun en h' => ∃ b1 b2, en = .ret (.func (.func 106) [] [.ptr b1 0, .ptr b2 0]) ∧ Ext h h' ∧ h.next ≤ b1 ∧ h.next ≤ b2 ∧ Has h' b1 (.cells .plain tv 106) ∧ Has h' b2 (.cells .plain [s] 103)) := by
  obtain ⟨p, lo, hi, sl, rfl⟩ := htv
  refine Runs.intro aFunc102 rfl rfl rfl rfl fun rest => ?_
  refine Go.seq noJ_ok ?_
  refine Go.region noJ_ok rfl ?_
  refine GoR.box rfl rfl rfl rfl rfl rfl fun h0 x0 f0 => ?_
  have e0 := x0
  have := f0.1
  refine GoR.box rfl rfl rfl rfl rfl rfl fun h1 x1 f1 => ?_
  have := e0.1
  have := f0.1
  replace f0 := f0.ext x1
  replace e0 := e0.trans x1
  have := f1.1
  refine GoR.op rfl rfl rfl rfl ?_
  refine GoR.end ?_
  refine Go.seq noJ_ok ?_
  refine Go.region noJ_ok rfl ?_
  iterate 2 refine GoR.op rfl rfl rfl rfl ?_
  refine GoR.end ?_
  exact Go.ret noJ_ok (ret_end (aResult_of Try.func102 rfl rfl) ⟨_, _, rfl, e0, by omega, by omega, f0, (by rw [hs'] at f1; exact f1)⟩)

/-- What the courses of a heap are made of. -/
structure CrsA (b1 b2 bb n : Nat) (tv : List AVal) (ws : List AVal) (h : AH) : Prop where
  t : Has h b1 (.cells .plain tv 106)
  d : Has h b2 (.cells .plain [.slice bb 0 n n] 103)
  w : Has h bb (.cells .plain ws 134)

def crsItems (a b c : Int) (p : Nat) (rs : List Int) (lo : Int) (m : Nat) : List (List AVal) := (List.range m).map fun k : Nat => i64s (crs a b c p rs (lo + k))
theorem crsItems_at (a b c : Int) (p : Nat) (rs : List Int) (lo : Int) {m k : Nat} (h : k < m) : (crsItems a b c p rs lo m)[k]? = some (i64s (crs a b c p rs (lo + k))) := by
  unfold crsItems
  rw [List.getElem?_map, List.getElem?_range h]
  rfl

theorem courses1_it (a b c : Int) (hd : 0 ≤ a ∧ a ≤ 20 ∧ 0 ≤ b ∧ b ≤ 20 ∧ 0 ≤ c ∧ c ≤ 20) (p : Nat) (hp : p < 3) (lo hi : Int) (sl : AVal) (hw : 0 ≤ lo ∧ lo ≤ hi ∧ hi ≤ 100) (b1 b2 bb n : Nat) (rs : List Int) (hn : rs.length = n) (hn6 : n ≤ 6) (hr : ∀ r, r ∈ rs → r ≤ 10) :
    Iter Try.prog 106 [] [.ptr b1 0, .ptr b2 0] (crsItems a b c p rs lo (hi - lo + 1).toNat) (CrsA b1 b2 bb n [.int .i64 p, .int .i64 lo, .int .i64 hi, sl] (rs.map (wV a b c))) := by
  intro y base S J E h hyc hys hA hb T j0
  show Runs Try.prog 106 [y, .ptr b1 0, .ptr b2 0] h _
  obtain ⟨m0, hm0⟩ : ∃ m0, (hi - lo + 1).toNat = m0 := ⟨_, rfl⟩
  have hlen : (crsItems a b c p rs lo m0).length = m0 := by simp [crsItems]
  rw [hm0] at T ⊢
  rw [hlen]
  have e0 : Ext h h := Ext.refl _
  obtain ⟨f0, f1, f2⟩ := hA h (ExtF.of e0)
  refine Runs.intro aFunc106 rfl rfl rfl rfl fun rest => ?_
  refine Go.seq noJ_ok ?_
  refine Go.region noJ_ok rfl ?_
  refine GoR.op rfl rfl (fa106_0 rfl) rfl ?_
  refine GoR.op rfl rfl (fa63_1 rfl) rfl ?_
  refine GoR.op rfl rfl (fa30_0 rfl) rfl ?_
  refine GoR.op rfl rfl (ld3 rfl f0 rfl) rfl ?_
  refine GoR.op rfl rfl rfl rfl ?_
  refine GoR.end ?_
  refine Go.block noJ_ok ?_
  refine Go.loopKeep (fun k : Nat => [(0, y), (1, .ptr b1 0), (2, .ptr b2 0), (4, .int .i64 (lo + k))]) (fun m k h' => m + k = m0 ∧ ExtF S h h' ∧ J k h') (n := m0) 0 ⟨rfl, rfl, rfl, (by simp; rfl), trivial⟩ ⟨rfl, ExtF.of e0, j0⟩ ?_
  clear e0 f0 f1 f2
  rintro m k h1 ⟨hm, x1, j1⟩ again
  obtain ⟨f0, f1, f2⟩ := hA h1 x1
  have e0 : Ext h1 h1 := Ext.refl _
  have hx1 := x1.1
  by_cases hk : k < m0
  · have hk2 : lo + k ≤ hi := by omega
    iterate 2 refine Go.seq noJ_ok ?_
    refine Go.region noJ_ok rfl ?_
    refine GoR.op rfl rfl rfl rfl ?_
    refine GoR.op rfl rfl (fa106_0 rfl) rfl ?_
    refine GoR.op rfl rfl (fa63_1 rfl) rfl ?_
    refine GoR.op rfl rfl (fa30_1 rfl) rfl ?_
    refine GoR.op rfl rfl (ld3 rfl f0 rfl) rfl ?_
    refine GoR.op rfl rfl (aOp_leq rfl rfl (r := true) (decide_eq_true (by omega))) rfl ?_
    refine GoR.end ?_
    refine Go.cond noJ_ok (b := true) rfl ?_
    refine Go.code noJ_ok ?_
    refine Go.seq noJ_ok ?_
    refine Go.block noJ_ok ?_
    refine Go.seq noJ_ok ?_
    refine Go.region noJ_ok rfl ?_
    refine GoR.alloc rfl rfl rfl zt140 rfl rfl fun h3 x3 f3 => ?_
    have := e0.1
    have := f0.1
    have := f1.1
    have := f2.1
    replace f0 := f0.ext x3
    replace f1 := f1.ext x3
    replace f2 := f2.ext x3
    replace e0 := e0.trans x3
    have := f3.1
    refine GoR.end ?_
    refine Go.seq noJ_ok ?_
    refine Go.region noJ_ok rfl ?_
    iterate 2 refine GoR.op rfl rfl rfl rfl ?_
    refine GoR.end ?_
    iterate 2 refine Go.seq noJ_ok ?_
    refine Go.region noJ_ok rfl ?_
    refine GoR.op rfl rfl (ld103 rfl f1 rfl) rfl ?_
    iterate 2 refine GoR.op rfl rfl rfl rfl ?_
    refine GoR.end ?_
    refine Go.block noJ_ok ?_
    refine Go.loopKeep (fun i : Nat => [(0, y), (1, .ptr b1 0), (2, .ptr b2 0), (4, .int .i64 (lo + k)), (5, .ptr h1.next 0), (6, .int .i64 (after a b c p (rs.take i) (lo + k))), (22, .slice bb 0 n n), (23, .int .i64 n), (24, .int .i64 (i : Nat))])
      (fun m i h' => m + i = n ∧ Ext h1 h' ∧ Has h' b1 (.cells .plain [.int .i64 p, .int .i64 lo, .int .i64 hi, sl] 106) ∧ Has h' b2 (.cells .plain [.slice bb 0 n n] 103) ∧ Has h' bb (.cells .plain (rs.map (wV a b c)) 134) ∧ Has h' h1.next (.cells .plain (i64s (scan a b c p (rs.take i) (lo + k) ++ List.replicate (6 - i) 0)) 140))
      (n := n) 0 ⟨rfl, rfl, rfl, rfl, rfl, rfl, rfl, rfl, rfl, trivial⟩ ⟨rfl, e0, f0, f1, f2, (by rw [List.take_zero]; exact f3)⟩ ?_
    clear e0 f0 f1 f2 f3
    rintro q i h4 ⟨hq, e0, f0, f1, f2, f3⟩ again2
    by_cases hi' : i < n
    · obtain ⟨r, hr0⟩ : ∃ r, rs[i]? = some r := ⟨rs[i], by simp [hn, hi']⟩
      have hr1 := hr r (List.mem_of_getElem? hr0)
      have hin := after_in a b c p (rs.take i) (w := lo + k) (by omega)
      have hld : (rs.map (wV a b c))[0 + i * 1]? = some (wV a b c r) := by rw [Nat.zero_add, Nat.mul_one, List.getElem?_map, hr0]; rfl
      have haf : ev1 a b c p r (after a b c p (rs.take i) (lo + k)) = after a b c p (rs.take (i + 1)) (lo + k) := by rw [List.take_add_one, hr0, Option.toList_some, after_app]
      obtain ⟨ff, fargs, hk1, hk2'⟩ := evening_in a b c r p (after a b c p (rs.take i) (lo + k)) hp hd hr1 hin h4
      rw [haf] at hk2'
      have hi6 : i < 6 := by omega
      have hset : splice (i64s (scan a b c p (rs.take i) (lo + k) ++ List.replicate (6 - i) 0)) (0 + i * 1) (AVal.int .i64 (after a b c p (rs.take (i + 1)) (lo + k))).cells = some (i64s (scan a b c p (rs.take (i + 1)) (lo + k) ++ List.replicate (6 - (i + 1)) 0)) := by
        have hl : (scan a b c p (rs.take i) (lo + k)).length = i := by rw [scan_len, List.length_take]; omega
        rw [Nat.zero_add, Nat.mul_one]
        show splice _ _ [_] = _
        rw [splice_at (by simp [i64s, scan_len]; omega)]
        have := set_pad (scan a b c p (rs.take i) (lo + k)) 0 (after a b c p (rs.take (i + 1)) (lo + k)) hl hi6
        rw [← haf, ← scan_app] at this
        rw [List.take_add_one, hr0, Option.toList_some, ← this, haf]
        unfold i64s
        rw [List.map_set]
        rw [List.take_add_one, hr0, Option.toList_some]
      refine Go.seq noJ_ok ?_
      refine Go.region noJ_ok rfl ?_
      refine GoR.op rfl rfl (aOp_lss rfl rfl (r := true) (decide_eq_true (by omega))) rfl ?_
      refine GoR.end ?_
      refine Go.seq noJ_ok ?_
      refine Go.cond noJ_ok (b := true) rfl ?_
      refine Go.code noJ_ok ?_
      refine Go.seq noJ_ok ?_
      refine Go.block noJ_ok ?_
      refine Go.seq noJ_ok ?_
      refine Go.region noJ_ok rfl ?_
      refine GoR.op rfl rfl rfl rfl ?_
      refine GoR.op rfl rfl (aOp_indexAddr Try.underlying103 sz134 rfl rfl rfl (Nat.ble_eq_true_of_le hi')) rfl ?_
      refine GoR.op rfl rfl (ld134 rfl f2 hld) rfl ?_
      iterate 2 refine GoR.op rfl rfl rfl rfl ?_
      refine GoR.end ?_
      refine Go.seq noJ_ok ?_
      refine Go.region noJ_ok rfl ?_
      refine GoR.op rfl rfl rfl rfl ?_
      refine GoR.op rfl rfl (fa106_0 rfl) rfl ?_
      refine GoR.op rfl rfl (fa63_0 rfl) rfl ?_
      refine GoR.op rfl rfl (ld3 rfl f0 rfl) rfl ?_
      refine GoR.op rfl rfl rfl rfl ?_
      refine GoR.call rfl rfl (aOp_invoke rfl rfl (hk1)) (hk2') ?_ (by rintro _ _ ⟨q, _⟩; cases q)
      rintro _ h5 ⟨q, x5⟩
      cases q
      refine ⟨_, rfl, ?_⟩
      replace f0 := f0.ext x5
      replace f1 := f1.ext x5
      replace f2 := f2.ext x5
      replace f3 := f3.ext x5
      replace e0 := e0.trans x5
      refine GoR.op rfl rfl rfl rfl ?_
      refine GoR.end ?_
      refine Go.region noJ_ok rfl ?_
      iterate 2 refine GoR.op rfl rfl rfl rfl ?_
      refine GoR.op rfl rfl (aOp_indexAddrArr Try.underlying140 sz3 rfl rfl (Nat.ble_eq_true_of_le hi6)) rfl ?_
      refine GoR.store rfl rfl rfl rfl rfl rfl f3 rfl sz3 rfl rfl hset fun h6 u6 => ?_
      replace f0 := f0.upd u6 (by omega)
      replace f1 := f1.upd u6 (by omega)
      replace f2 := f2.upd u6 (by omega)
      replace f3 := u6.has f3
      replace e0 := e0.upd u6 (by omega)
      refine GoR.end ?_
      refine Go.inBlock noJ_ok ?_
      refine Go.region noJ_ok rfl ?_
      refine GoR.op rfl rfl (aOp_add rfl rfl (by constructor <;> omega) rfl) rfl ?_
      refine GoR.op rfl rfl rfl rfl ?_
      refine GoR.end ?_
      exact again2 (q - 1) (i + 1) _ _ (by omega) ⟨rfl, rfl, rfl, rfl, rfl, rfl, rfl, rfl, rfl, trivial⟩ ⟨by omega, e0, f0, f1, f2, f3⟩
    · have hin : i = n := by omega
      subst hin
      have hsc : i64s (scan a b c p (rs.take i) (lo + k) ++ List.replicate (6 - i) 0) = i64s (crs a b c p rs (lo + k)) := by
        unfold crs
        rw [List.take_of_length_le (by omega), hn]
      rw [hsc] at f3
      have hl6 : (i64s (crs a b c p rs (lo + k))).length = 6 := by unfold i64s; rw [List.length_map]; exact crs_len a b c p (lo + k) (by omega)
      have hit := crsItems_at a b c p rs lo hk
      obtain ⟨ax, a1, a2, a3⟩ := T.take hit (T.ext j1 e0)
      refine Go.seq noJ_ok ?_
      refine Go.region noJ_ok rfl ?_
      refine GoR.op rfl rfl (aOp_lss rfl rfl (r := false) (decide_eq_false (by omega))) rfl ?_
      refine GoR.end ?_
      refine Go.seq noJ_ok ?_
      refine Go.cond noJ_ok (b := false) rfl ?_
      refine Go.code noJ_ok ?_
      refine Go.seq noJ_ok ?_
      refine Go.region noJ_ok rfl ?_
      refine GoR.op rfl rfl rfl rfl ?_
      refine GoR.op rfl rfl (ld140 rfl f3 (slice_all hl6)) rfl ?_
      refine GoR.does rfl rfl (aOp_callY rfl rfl a1) a2 a3 ?_ (by rintro _ _ ⟨_, ⟨q, _⟩ | ⟨q, _⟩⟩ <;> cases q)
      rintro v h6 ⟨x6, ⟨q, j6⟩ | ⟨q, e6⟩⟩
      · cases q
        refine ⟨_, rfl, ?_⟩
        refine GoR.op rfl rfl rfl rfl ?_
        refine GoR.end ?_
        refine Go.cond noJ_ok (b := false) rfl ?_
        refine Go.code noJ_ok ?_
        refine Go.inBlock noJ_ok ?_
        refine Go.region noJ_ok rfl ?_
        refine GoR.op rfl rfl rfl rfl ?_
        refine GoR.op rfl rfl (aOp_add rfl rfl (by constructor <;> omega) rfl) rfl ?_
        refine GoR.op rfl rfl rfl rfl ?_
        refine GoR.end ?_
        exact again (m - 1) (k + 1) _ _ (by omega) ⟨rfl, rfl, rfl, (by simp [Int.add_assoc]; rfl), trivial⟩ ⟨by omega, (x1.trans (fun _ q => .inl q) (.of e0)).trans (fun _ q => .inl q) x6, j6⟩
      · cases q
        refine ⟨_, rfl, ?_⟩
        refine GoR.op rfl rfl rfl rfl ?_
        refine GoR.end ?_
        refine Go.cond noJ_ok (b := true) rfl ?_
        exact Go.ret noJ_ok (ret_end (aResult_of Try.func106 rfl rfl) ⟨rfl, (x1.trans (fun _ q => .inl q) (.of e0)).trans (fun _ q => .inl q) x6, .inr ⟨k, hk, e6⟩⟩)
  · have hk2 : ¬ (lo + k ≤ hi) := by omega
    iterate 2 refine Go.seq noJ_ok ?_
    refine Go.region noJ_ok rfl ?_
    refine GoR.op rfl rfl rfl rfl ?_
    refine GoR.op rfl rfl (fa106_0 rfl) rfl ?_
    refine GoR.op rfl rfl (fa63_1 rfl) rfl ?_
    refine GoR.op rfl rfl (fa30_1 rfl) rfl ?_
    refine GoR.op rfl rfl (ld3 rfl f0 rfl) rfl ?_
    refine GoR.op rfl rfl (aOp_leq rfl rfl (r := false) (decide_eq_false (by omega))) rfl ?_
    refine GoR.end ?_
    refine Go.cond noJ_ok (b := false) rfl ?_
    refine Go.code noJ_ok ?_
    have : k = m0 := by omega
    subst this
    exact Go.endL (FLeft.ret (v := .tuple []) (aResult_of Try.func106 rfl rfl) ⟨rfl, x1, .inl j1⟩)
end Go.Proofs.Ytmdheijpnlonoaa
