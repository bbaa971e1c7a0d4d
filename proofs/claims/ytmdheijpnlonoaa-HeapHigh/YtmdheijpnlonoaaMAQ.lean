import Derived.Test.YtmdheijpnlonoaaMAP
import Derived.Test.YtmdheijpnlonoaaMAO
import Derived.Deep.Slices
import Derived.Lib.SmallJoins
import Derived.Carry
import Derived.Laws.IdiomArrays
import Derived.Test.YtmdheijpnlonoaaRows
import Derived.WalkKit
import Derived.ProofKit
import Derived.OpenShut
namespace Go.Proofs.Ytmdheijpnlonoaa
open Go Go.AbsE
set_option linter.unusedSimpArgs false
set_option maxRecDepth 100000
set_option maxHeartbeats 0
set_option linter.unusedVariables false
theorem flds63 : ∃ fs, Try.prog.underlying 63 = some (.struct fs) ∧ placesT Try.prog fs.toList = some [(0, 1), (1, 2)] := ⟨_, Try.underlying63, by kernel_rfl⟩
theorem span11_ok (a b : Int) (h : AH) : Runs Try.prog 11 [.int .i64 a, .int .i64 b] h (fun en h' => en = .ret (.agg [.int .i64 a, .int .i64 b]) ∧ Ext h h') := by
  obtain ⟨fs30, hu30, pl30⟩ := flds30
  refine Runs.intro aFunc11 rfl rfl rfl rfl fun rest => ?_
  refine Go.seq noJ_ok ?_
  refine Go.region noJ_ok rfl ?_
  refine GoR.alloc rfl rfl rfl zt30 rfl rfl fun h0 x0 f0 => ?_
  have e0 := x0
  have := f0.1
  refine GoR.end ?_
  refine Go.seq noJ_ok ?_
  refine Go.region noJ_ok rfl ?_
  iterate 2 refine GoR.op rfl rfl rfl rfl ?_
  refine GoR.op rfl rfl (aOp_build (ps := [(0, .int .i64 a), (1, .int .i64 b)]) (cs := [.int .i64 a, .int .i64 b]) zt30 hu30 pl30 rfl rfl) rfl ?_
  refine GoR.store rfl rfl rfl rfl rfl rfl f0 rfl sz30 rfl rfl rfl fun h1 u1 => ?_
  replace f0 := u1.has f0
  first | replace e0 := e0.upd u1 (by omega) | clear e0
  refine GoR.end ?_
  exact Go.ret noJ_ok (ret_end (aResult_of Try.func11 rfl (aResults_cell rfl f0 (inCells_agg ag30 sz30 rfl))) ⟨rfl, e0⟩)

theorem law7_long (F : FieldV) (hsl rsl lsl : AVal) (n1 n2 n3 : Nat) (hl1 : lenA hsl = some n1) (hl2 : lenA rsl = some n2) (hl3 : lenA lsl = some n3) (hr : decide (40 < n1 ∨ 40 < n2 ∨ 40 < n3) = true) (w o z : Int) (h : AH) :
    Runs Try.prog 7 [.agg (F.cells hsl rsl lsl), .int .u8 w, .int .u8 o, .int .u8 z] h (fun en h' => en = .ret (.bool true) ∧ Ext h h') := by
  have hlo := long_ok F hsl rsl lsl n1 n2 n3 hl1 hl2 hl3 hr
  unfold FieldV.cells fieldC at hlo ⊢
  refine Runs.intro aFunc7 rfl rfl rfl rfl fun rest => ?_
  refine Go.seq noJ_ok ?_
  refine Go.region noJ_ok rfl ?_
  refine GoR.box rfl rfl rfl rfl rfl rfl fun h0 x0 f0 => ?_
  have e0 := x0
  have := f0.1
  refine GoR.op rfl rfl rfl rfl ?_
  refine GoR.end ?_
  iterate 2 refine Go.seq noJ_ok ?_
  refine Go.region noJ_ok rfl ?_
  refine GoR.op rfl rfl (ld27 rfl f0 rfl) rfl ?_
  refine GoR.call rfl rfl (aOp_callFunc aFunc22 rfl) (hlo _) ?_ (by rintro _ _ ⟨q, _⟩; cases q)
  rintro v1 h1 ⟨q, x1⟩
  cases q
  refine ⟨_, rfl, ?_⟩
  replace f0 := f0.ext x1
  replace e0 := e0.trans x1
  refine GoR.op rfl rfl rfl rfl ?_
  iterate 3 refine GoR.skip rfl rfl rfl ?_
  refine GoR.op rfl rfl rfl rfl ?_
  refine GoR.end ?_
  refine Go.cond noJ_ok (b := true) rfl ?_
  refine Go.seq noJ_ok ?_
  refine Go.region JA_ok rfl ?_
  refine GoR.jump JA_ok rfl rfl (aOp_callFunc aFunc21 rfl) (v := .bool true) rfl rfl ?_
  refine GoR.op rfl rfl rfl rfl ?_
  refine GoR.end ?_
  exact Go.ret noJ_ok (ret_end (aResult_of Try.func7 rfl rfl) ⟨rfl, e0⟩)

theorem scal_one {v : AVal} (h : scalars [v] = true) : scalar v = true := by
  cases q : scalar v with
  | true => rfl
  | false =>
    unfold scalars at h
    rw [q] at h
    cases h
theorem by30 : bytesT Try.prog 30 = some 16 := by kernel_rfl
theorem grow_same {h : AH} {el : TypeId} {sz lo : Nat} {s : AVal} {n : Nat} {cs : List AVal} (k : Grow h el sz lo s n cs) : sameA s s = true := by
  rcases k.2 with ⟨rfl, _⟩ | ⟨_, b', h1, rfl, h3⟩
  · rfl
  · simp [sameA, sameAs, eqI_eq]
theorem flat_self {α : Type} : ∀ l : List α, (l.map fun x => [x]).flatten = l
  | [] => rfl
  | a :: l => by rw [List.map_cons, List.flatten_cons, flat_self l]; rfl
theorem spanT : SpanT Try.prog 30 := ⟨⟨_, _, Try.underlying30, by decide, by decide, rfl, rfl, ⟨_, Try.underlying3⟩, ⟨_, Try.underlying3⟩⟩, by kernel_rfl, by kernel_rfl⟩
theorem sl23 {h : AH} {b : Nat} {x y : HTurf} {g : Kd} {el : TypeId} (f : Has h b (.cells g (x.cells ++ y.cells) el)) : SliceOf h 3 (.slice b 0 2 2) [x.cells, y.cells] :=
  SliceOf.mk' rfl rfl f rfl (fun i l hl => by
    match i, hl with
    | 0, hl => cases hl; rfl
    | 1, hl => cases hl; rfl)

/-- What the law looks at: two heaps. -/
def twoF (F : FieldV) (rs : List (Int × Int)) (pa pb lo hi hi2 : Int) : FieldV := ⟨[⟨pa, lo, hi⟩, ⟨pb, lo, hi2⟩], rs, F.a, F.b, F.c, F.lim, []⟩
theorem twoF_ok {F : FieldV} (O : F.Ok) {rs : List (Int × Int)} (hr : 1 ≤ rs.length ∧ rs.length ≤ 6) (hr2 : ∀ r, r ∈ rs → 0 ≤ r.1 ∧ r.1 ≤ r.2 ∧ r.2 ≤ 10 ∧ r.2 - r.1 ≤ 3) {pa pb lo hi hi2 : Int} (hp : 0 ≤ pa ∧ pa ≤ 2 ∧ 0 ≤ pb ∧ pb ≤ 2) (hw : 0 ≤ lo ∧ lo ≤ hi ∧ hi ≤ 100 ∧ hi - lo ≤ 5 ∧ lo ≤ hi2 ∧ hi2 ≤ 100 ∧ hi2 - lo ≤ 5) : (twoF F rs pa pb lo hi hi2).Ok := by
  refine ⟨⟨Nat.le_add_left 1 1, Nat.le_add_left 2 1⟩, ?_, hr, hr2, O.d, O.lim, Nat.zero_le _, ?_⟩
  · intro x hx
    rcases List.mem_cons.1 hx with rfl | hx
    · dsimp only; omega
    · rcases List.mem_cons.1 hx with rfl | hx
      · dsimp only; omega
      · cases hx
  · intro l hl
    cases hl

theorem law7_short {F : FieldV} (hsl rsl lsl : AVal) (h : AH) (A : FieldAt h F hsl rsl lsl) (hb1 : F.hs.length ≤ 40) (hb2 : F.rs.length ≤ 40) (hb3 : F.looks.length ≤ 40) {w o z : Int} (hw : 0 ≤ w ∧ w < 256) (ho : 0 ≤ o ∧ o < 256) (hz : 0 ≤ z ∧ z < 256) :
    Runs Try.prog 7 [.agg (F.cells hsl rsl lsl), .int .u8 w, .int .u8 o, .int .u8 z] h (fun en h' => en = .ret (.bool true) ∧ Ext h h') := by
  obtain ⟨fs63, hu63, pl63⟩ := flds63
  have hl1 := A.hs.len
  have hl2 := A.rs.len
  have hl3 := A.ls.len
  rw [List.length_map] at hl1 hl2 hl3
  have hlo := long_ok F hsl rsl lsl _ _ _ hl1 hl2 hl3 (r := false) (decide_eq_false (by omega))
  have hHe := fun h A => heaps23_ok F hsl rsl lsl h A hb1 hb2 hb3
  obtain ⟨hs1, hc1⟩ := A.hs.scal
  obtain ⟨hs2, hc2⟩ := A.rs.scal
  obtain ⟨hs3, hc3⟩ := A.ls.scal
  have hsc : scalars [hsl, rsl, .int .i64 F.a, .int .i64 F.b, .int .i64 F.c, .int .i64 F.lim, lsl] = true := by
    unfold scalars
    rw [scal_one hs1]
    simp only [scalars, scal_one hs2, scal_one hs3, cond_true]
    rfl
  unfold FieldV.cells fieldC at hlo hHe ⊢
  refine Runs.intro aFunc7 rfl rfl rfl rfl fun rest => ?_
  refine Go.seq noJ_ok ?_
  refine Go.region noJ_ok rfl ?_
  refine GoR.box rfl rfl rfl rfl rfl rfl fun h0 x0 f0 => ?_
  have e0 := x0
  have := f0.1
  refine GoR.op rfl rfl rfl rfl ?_
  refine GoR.end ?_
  iterate 2 refine Go.seq noJ_ok ?_
  refine Go.region noJ_ok rfl ?_
  refine GoR.op rfl rfl (ld27 rfl f0 rfl) rfl ?_
  refine GoR.call rfl rfl (aOp_callFunc aFunc22 rfl) (hlo _) ?_ (by rintro _ _ ⟨q, _⟩; cases q)
  rintro v1 h1 ⟨q, x1⟩
  cases q
  refine ⟨_, rfl, ?_⟩
  replace f0 := f0.ext x1
  replace e0 := e0.trans x1
  refine GoR.op rfl rfl rfl rfl ?_
  refine GoR.op rfl rfl (ld27 rfl f0 rfl) rfl ?_
  refine GoR.call rfl rfl (aOp_callFunc aFunc23 rfl) (hHe _ (A.ext e0)) ?_ (by rintro _ _ ⟨_, q, _⟩; cases q)
  rintro v9 h9 ⟨r, q, hok, x9⟩
  cases q
  refine ⟨_, rfl, ?_⟩
  replace f0 := f0.ext x9
  replace e0 := e0.trans x9
  cases r with
  | false =>
    iterate 2 refine GoR.op rfl rfl rfl rfl ?_
    refine GoR.end ?_
    refine Go.cond noJ_ok (b := true) rfl ?_
    refine Go.seq noJ_ok ?_
    refine Go.region JA_ok rfl ?_
    refine GoR.jump JA_ok rfl rfl (aOp_callFunc aFunc21 rfl) (v := .bool true) rfl rfl ?_
    refine GoR.op rfl rfl rfl rfl ?_
    refine GoR.end ?_
    exact Go.ret noJ_ok (ret_end (aResult_of Try.func7 rfl rfl) ⟨rfl, e0⟩)
  | true =>
  have O := hok rfl
  have hnr := O.nr
  obtain ⟨a0, ha0⟩ : ∃ a0, w.tmod 3 = a0 := ⟨_, rfl⟩
  obtain ⟨b0, hb0⟩ : ∃ b0, o.tmod 3 = b0 := ⟨_, rfl⟩
  obtain ⟨lo, hlo'⟩ : ∃ lo, z.tmod 101 = lo := ⟨_, rfl⟩
  obtain ⟨o3, ho3⟩ : ∃ o3, o.tdiv 3 = o3 := ⟨_, rfl⟩
  obtain ⟨ad, had⟩ : ∃ ad, o3.tmod 6 = ad := ⟨_, rfl⟩
  obtain ⟨pa, hpa⟩ : ∃ pa, (if b0 < a0 then b0 else a0) = pa := ⟨_, rfl⟩
  obtain ⟨pb, hpb⟩ : ∃ pb, (if a0 < b0 then b0 else a0) = pb := ⟨_, rfl⟩
  obtain ⟨hi, hhi⟩ : ∃ hi, (if lo + ad < 100 then lo + ad else 100) = hi := ⟨_, rfl⟩
  have ha0' : 0 ≤ a0 ∧ a0 ≤ 2 := by rw [← ha0, Int.tmod_eq_emod_of_nonneg hw.1]; omega
  have hb0' : 0 ≤ b0 ∧ b0 ≤ 2 := by rw [← hb0, Int.tmod_eq_emod_of_nonneg ho.1]; omega
  have hlo2 : 0 ≤ lo ∧ lo ≤ 100 := by rw [← hlo', Int.tmod_eq_emod_of_nonneg hz.1]; omega
  have ho3' : 0 ≤ o3 ∧ o3 ≤ 255 := by rw [← ho3, Int.tdiv_eq_ediv_of_nonneg ho.1]; omega
  have had' : 0 ≤ ad ∧ ad ≤ 5 := by rw [← had, Int.tmod_eq_emod_of_nonneg ho3'.1]; omega
  have hpab : 0 ≤ pa ∧ pa ≤ pb ∧ pb ≤ 2 := by subst hpa hpb; split <;> split <;> omega
  have hhi2 : lo ≤ hi ∧ hi ≤ 100 ∧ hi - lo ≤ 5 := by subst hhi; split <;> omega
  iterate 2 refine GoR.op rfl rfl rfl rfl ?_
  refine GoR.end ?_
  refine Go.cond noJ_ok (b := false) rfl ?_
  refine Go.code noJ_ok ?_
  refine Go.seq noJ_ok ?_
  refine Go.region noJ_ok rfl ?_
  refine GoR.op rfl rfl (ld27 rfl f0 rfl) rfl ?_
  refine GoR.alloc rfl rfl rfl zt27 rfl rfl fun h10 x10 f10 => ?_
  have := e0.1
  have := f0.1
  replace f0 := f0.ext x10
  replace e0 := e0.trans x10
  have := f10.1
  refine GoR.store rfl rfl rfl rfl rfl rfl f10 rfl sz27 rfl hsc rfl fun h11 u11 => ?_
  replace f10 := u11.has f10
  replace f0 := f0.upd u11 (by omega)
  first | replace e0 := e0.upd u11 (by omega) | clear e0
  refine GoR.end ?_
  refine Go.seq noJ_ok ?_
  refine Go.region noJ_ok rfl ?_
  refine GoR.op rfl rfl rfl rfl ?_
  refine GoR.op rfl rfl (aOp_convU8 rfl Try.underlying5 Try.underlying3 hw) rfl ?_
  refine GoR.op rfl rfl (aOp_rem rfl rfl (by decide) ha0) rfl ?_
  refine GoR.op rfl rfl rfl rfl ?_
  refine GoR.op rfl rfl (aOp_convU8 rfl Try.underlying5 Try.underlying3 ho) rfl ?_
  refine GoR.op rfl rfl (aOp_rem rfl rfl (by decide) hb0) rfl ?_
  iterate 2 refine GoR.op rfl rfl rfl rfl ?_
  refine GoR.end ?_
  refine Go.seq noJ_ok ?_
  refine Go.region noJ_ok rfl ?_
  iterate 2 refine GoR.op rfl rfl rfl rfl ?_
  refine GoR.op rfl rfl (aOp_min2 rfl rfl hpa) rfl ?_
  iterate 2 refine GoR.op rfl rfl rfl rfl ?_
  refine GoR.op rfl rfl (aOp_max2 rfl rfl hpb) rfl ?_
  iterate 2 refine GoR.op rfl rfl rfl rfl ?_
  refine GoR.end ?_
  refine Go.seq noJ_ok ?_
  refine Go.region noJ_ok rfl ?_
  refine GoR.op rfl rfl rfl rfl ?_
  refine GoR.op rfl rfl (aOp_convU8 rfl Try.underlying5 Try.underlying3 hz) rfl ?_
  refine GoR.op rfl rfl (aOp_rem rfl rfl (by decide) hlo') rfl ?_
  refine GoR.op rfl rfl rfl rfl ?_
  refine GoR.end ?_
  refine Go.seq noJ_ok ?_
  refine Go.region noJ_ok rfl ?_
  iterate 3 refine GoR.op rfl rfl rfl rfl ?_
  refine GoR.op rfl rfl (aOp_convU8 rfl Try.underlying5 Try.underlying3 ho) rfl ?_
  refine GoR.op rfl rfl (aOp_quo rfl rfl (by decide) ho3 (by omega)) rfl ?_
  refine GoR.op rfl rfl (aOp_rem rfl rfl (by decide) had) rfl ?_
  refine GoR.op rfl rfl (aOp_add rfl rfl (by constructor <;> omega) rfl) rfl ?_
  refine GoR.op rfl rfl (aOp_min2 rfl rfl hhi) rfl ?_
  refine GoR.call rfl rfl (aOp_callFunc aFunc11 rfl) (span11_ok lo hi _) ?_ (by rintro _ _ ⟨q, _⟩; cases q)
  rintro v12 h12 ⟨q, x12⟩
  cases q
  refine ⟨_, rfl, ?_⟩
  replace f10 := f10.ext x12
  replace f0 := f0.ext x12
  replace e0 := e0.trans x12
  refine GoR.alloc rfl rfl rfl zt30 rfl rfl fun h13 x13 f13 => ?_
  have := e0.1
  have := f10.1
  have := f0.1
  replace f10 := f10.ext x13
  replace f0 := f0.ext x13
  replace e0 := e0.trans x13
  have := f13.1
  refine GoR.store rfl rfl rfl rfl rfl rfl f13 rfl sz30 rfl rfl rfl fun h14 u14 => ?_
  replace f13 := u14.has f13
  replace f10 := f10.upd u14 (by omega)
  replace f0 := f0.upd u14 (by omega)
  first | replace e0 := e0.upd u14 (by omega) | clear e0
  refine GoR.end ?_
  refine Go.seq noJ_ok ?_
  refine Go.region noJ_ok rfl ?_
  refine GoR.op rfl rfl rfl rfl ?_
  refine GoR.op rfl rfl (ld30 rfl f13 rfl) rfl ?_
  refine GoR.op rfl rfl (aOp_build (ps := [(0, .int .i64 pa), (1, .agg [.int .i64 lo, .int .i64 hi])]) (cs := [.int .i64 pa, .int .i64 lo, .int .i64 hi]) zt63 hu63 pl63 rfl rfl) rfl ?_
  refine GoR.op rfl rfl rfl rfl ?_
  refine GoR.op rfl rfl (ld30 rfl f13 rfl) rfl ?_
  refine GoR.op rfl rfl (aOp_build (ps := [(0, .int .i64 pb), (1, .agg [.int .i64 lo, .int .i64 hi])]) (cs := [.int .i64 pb, .int .i64 lo, .int .i64 hi]) zt63 hu63 pl63 rfl rfl) rfl ?_
  refine GoR.buildSl rfl rfl (ps := [(0, .agg [.int .i64 pa, .int .i64 lo, .int .i64 hi]), (1, .agg [.int .i64 pb, .int .i64 lo, .int .i64 hi])]) (cs := [.int .i64 pa, .int .i64 lo, .int .i64 hi, .int .i64 pb, .int .i64 lo, .int .i64 hi]) Try.underlying22 rfl sz63 zt63 rfl rfl rfl rfl fun h15 x15 f15 => ?_
  have := e0.1
  have := f13.1
  have := f10.1
  have := f0.1
  replace f13 := f13.ext x15
  replace f10 := f10.ext x15
  replace f0 := f0.ext x15
  replace e0 := e0.trans x15
  have := f15.1
  refine GoR.op rfl rfl (fa27_0 rfl) rfl ?_
  refine GoR.store rfl rfl rfl rfl rfl rfl f10 rfl sz22 rfl rfl rfl fun h16 u16 => ?_
  replace f15 := f15.upd u16 (by omega)
  replace f13 := f13.upd u16 (by omega)
  replace f10 := u16.has f10
  replace f0 := f0.upd u16 (by omega)
  first | replace e0 := e0.upd u16 (by omega) | clear e0
  refine GoR.op rfl rfl (fa27_4 rfl) rfl ?_
  refine GoR.store rfl rfl rfl rfl rfl rfl f10 rfl sz25 rfl rfl rfl fun h17 u17 => ?_
  replace f15 := f15.upd u17 (by omega)
  replace f13 := f13.upd u17 (by omega)
  replace f10 := u17.has f10
  replace f0 := f0.upd u17 (by omega)
  first | replace e0 := e0.upd u17 (by omega) | clear e0
  refine GoR.end ?_
  iterate 2 refine Go.seq noJ_ok ?_
  refine Go.region noJ_ok rfl ?_
  refine GoR.op rfl rfl (fa27_1 rfl) rfl ?_
  refine GoR.op rfl rfl (ld23 rfl f10 rfl) rfl ?_
  refine GoR.op rfl rfl (aOp_lenSlice Try.underlying23 rfl hl2) rfl ?_
  refine GoR.op rfl rfl rfl rfl ?_
  refine GoR.end ?_
  refine Go.block noJ_ok ?_
  obtain ⟨G, hG⟩ : ∃ G, twoF F F.rs pa pb lo hi hi = G := ⟨_, rfl⟩
  have GO : G.Ok := by rw [← hG]; exact twoF_ok O O.nr O.r (by omega) (by omega)
  have hGl : G.looks = [] := by rw [← hG]; rfl
  have hGx : G.hs[0]? = some ⟨pa, lo, hi⟩ := by rw [← hG]; rfl
  have hGy : G.hs[1]? = some ⟨pb, lo, hi⟩ := by rw [← hG]; rfl
  have hGr : G.rs = F.rs := by rw [← hG]; rfl
  have hG2 : G.hs.length = 2 := by rw [← hG]; rfl
  have hGc : G.cells (.slice h14.next 0 2 2) rsl .nilslice = [.slice h14.next 0 2 2, rsl, .int .i64 F.a, .int .i64 F.b, .int .i64 F.c, .int .i64 F.lim, .nilslice] := by rw [← hG]; rfl
  have hne := bare_ne GO hGl
  have hAG : ∀ h', Ext h h' → Has h' h14.next (.cells .plain [.int .i64 pa, .int .i64 lo, .int .i64 hi, .int .i64 pb, .int .i64 lo, .int .i64 hi] 63) → FieldAt h' G (.slice h14.next 0 2 2) rsl .nilslice := by
    intro h' e f
    rw [← hG]
    exact ⟨sl23 (x := ⟨pa, lo, hi⟩) (y := ⟨pb, lo, hi⟩) f, A.rs.ext e, .nil⟩
  have hWe : ∀ (i d : Nat), i < 2 → d < F.rs.length → ∀ h', Ext h h' → Has h' h14.next (.cells .plain [.int .i64 pa, .int .i64 lo, .int .i64 hi, .int .i64 pb, .int .i64 lo, .int .i64 hi] 63) →
      Runs Try.prog 13 [.agg [.slice h14.next 0 2 2, rsl, .int .i64 F.a, .int .i64 F.b, .int .i64 F.c, .int .i64 F.lim, .nilslice], .int .i64 (i : Nat), .int .i64 (d : Nat)] h' (fun en h2 => en = .ret (.tuple [.agg (spC (G.wet (i : Nat) d)), .int .i64 0]) ∧ Ext h' h2) := by
    intro i d hi hd h' e f
    have := Wet_yes GO hne (.slice h14.next 0 2 2) rsl .nilslice i (by omega) d (by rw [hGr]; exact hd) h' (hAG h' e f)
    rw [hGc] at this
    exact this
  have hWh : ∀ (i : Nat), i < 2 → ∀ h', Ext h h' → Has h' h14.next (.cells .plain [.int .i64 pa, .int .i64 lo, .int .i64 hi, .int .i64 pb, .int .i64 lo, .int .i64 hi] 63) →
      Runs Try.prog 16 [.agg [.slice h14.next 0 2 2, rsl, .int .i64 F.a, .int .i64 F.b, .int .i64 F.c, .int .i64 F.lim, .nilslice], .int .i64 (i : Nat)] h' (fun en h2 => en = .ret (.tuple [.int .i64 (whenD (whenV G [(i : Nat)])), .int .i64 (whenE (whenV G [(i : Nat)]))]) ∧ Ext h' h2) := by
    intro i hi h' e f
    have := When_any GO hne (.slice h14.next 0 2 2) rsl .nilslice i (by omega) h' (hAG h' e f)
    rw [hGc] at this
    exact this
  have hwhen : (whenE (whenV G [((0 : Nat) : Int)]) = 4) ∨ (whenE (whenV G [((0 : Nat) : Int)]) = 0 ∧ whenE (whenV G [((1 : Nat) : Int)]) = 0 ∧ whenD (whenV G [((1 : Nat) : Int)]) ≤ whenD (whenV G [((0 : Nat) : Int)])) := by
    cases q : whenV G [((0 : Nat) : Int)] with
    | none => exact .inl rfl
    | some n =>
      obtain ⟨m, hm, hmn⟩ := high_when GO hGl hGx hGy rfl rfl hpab.2.1 q
      rw [hm]
      exact .inr ⟨rfl, rfl, by show (m : Int) ≤ n; omega⟩
  obtain ⟨n1, hn1⟩ : ∃ n1, whenD (whenV G [((0 : Nat) : Int)]) = n1 := ⟨_, rfl⟩
  obtain ⟨n2, hn2⟩ : ∃ n2, whenE (whenV G [((0 : Nat) : Int)]) = n2 := ⟨_, rfl⟩
  obtain ⟨n3, hn3⟩ : ∃ n3, whenD (whenV G [((1 : Nat) : Int)]) = n3 := ⟨_, rfl⟩
  obtain ⟨n4, hn4⟩ : ∃ n4, whenE (whenV G [((1 : Nat) : Int)]) = n4 := ⟨_, rfl⟩
  have hWh0 := hWh 0 (by omega)
  have hWh1 := hWh 1 (by omega)
  rw [hn1, hn2] at hWh0
  rw [hn3, hn4] at hWh1
  rw [hn1, hn2, hn3, hn4] at hwhen
  clear hn1 hn2 hn3 hn4 hWh
  refine Go.loopKeep (fun d : Nat => [(4, .ptr h.next 0), (9, .ptr h9.next 0), (10, .int .i64 pa), (11, .int .i64 pb), (12, .int .i64 lo), (73, rsl), (74, .int .i64 F.rs.length), (75, .int .i64 (d : Nat))])
    (fun m d h' => m + d = F.rs.length ∧ Ext h h' ∧ Has h' h.next (.cells .plain [hsl, rsl, .int .i64 F.a, .int .i64 F.b, .int .i64 F.c, .int .i64 F.lim, lsl] 27) ∧ Has h' h9.next (.cells .plain [.slice h14.next 0 2 2, rsl, .int .i64 F.a, .int .i64 F.b, .int .i64 F.c, .int .i64 F.lim, .nilslice] 27) ∧ Has h' h14.next (.cells .plain [.int .i64 pa, .int .i64 lo, .int .i64 hi, .int .i64 pb, .int .i64 lo, .int .i64 hi] 63))
    (n := F.rs.length) 0 ⟨rfl, rfl, rfl, rfl, rfl, rfl, rfl, rfl, trivial⟩ ⟨rfl, e0, f0, f10, f15⟩ ?_
  have l1 := f0.1
  have l2 := f10.1
  have l3 := f15.1
  clear e0 f0 f10 f15 f13
  rintro m d hh ⟨hm, e0, f0, f10, f15⟩ again
  by_cases hd : d < F.rs.length
  · have hk0 := hWe 0 d (by omega) hd
    have hk1 := hWe 1 d (by omega) hd
    have hg0 := wet_good GO hne (i := 0) (d := d) (by omega) (by rw [hGr]; exact hd)
    have hg1 := wet_good GO hne (i := 1) (d := d) (by omega) (by rw [hGr]; exact hd)
    have hle := high_wet GO hGl hGx hGy rfl rfl hpab.2.1 (d := d) (by rw [hGr]; exact hd)
    have heq : pa = pb → G.wet ((1 : Nat) : Int) d = G.wet ((0 : Nat) : Int) d := fun q => same_wet GO hGl hGx hGy rfl rfl q (by rw [hGr]; exact hd)
    obtain ⟨c, hc⟩ : ∃ c, G.wet ((0 : Nat) : Int) d = c := ⟨_, rfl⟩
    obtain ⟨k, hk⟩ : ∃ k, G.wet ((1 : Nat) : Int) d = k := ⟨_, rfl⟩
    rw [hc] at hk0 hg0 hle heq
    rw [hk] at hk1 hg1 hle heq
    obtain ⟨c1, c2⟩ := c
    obtain ⟨k1, k2⟩ := k
    unfold spC at hk0 hk1
    unfold Good at hg0 hg1
    dsimp only at hk0 hk1 hg0 hg1 hle
    by_cases hab : pa = pb
    · have hkc := heq hab
      injection hkc with q1 q2
      subst q1 q2
      have hne' : (!(k1 == k1 && k2 == k2)) = false := by simp
      refine Go.seq noJ_ok ?_
      refine Go.region noJ_ok rfl ?_
      refine GoR.op rfl rfl (aOp_lss rfl rfl (r := true) (decide_eq_true (by omega))) rfl ?_
      refine GoR.end ?_
      refine Go.seq noJ_ok ?_
      refine Go.cond noJ_ok (b := true) rfl ?_
      refine Go.code noJ_ok ?_
      refine Go.seq noJ_ok ?_
      refine Go.block noJ_ok ?_
      refine Go.seq noJ_ok ?_
      refine Go.region noJ_ok rfl ?_
      iterate 2 refine GoR.op rfl rfl rfl rfl ?_
      refine GoR.end ?_
      refine Go.seq noJ_ok ?_
      refine Go.region noJ_ok rfl ?_
      refine GoR.op rfl rfl (ld27 rfl f10 rfl) rfl ?_
      refine GoR.op rfl rfl rfl rfl ?_
      refine GoR.call rfl rfl (aOp_callFunc aFunc13 rfl) (hk0 _ e0 f15) ?_ (by rintro _ _ ⟨q, _⟩; cases q)
      rintro v18 h18 ⟨q, x18⟩
      cases q
      refine ⟨_, rfl, ?_⟩
      replace f0 := f0.ext x18
      replace f10 := f10.ext x18
      replace f15 := f15.ext x18
      replace e0 := e0.trans x18
      iterate 3 refine GoR.op rfl rfl rfl rfl ?_
      refine GoR.alloc rfl rfl rfl zt30 rfl rfl fun h19 x19 f19 => ?_
      have := e0.1
      have := f0.1
      have := f10.1
      have := f15.1
      replace f0 := f0.ext x19
      replace f10 := f10.ext x19
      replace f15 := f15.ext x19
      replace e0 := e0.trans x19
      have := f19.1
      refine GoR.store rfl rfl rfl rfl rfl rfl f19 rfl sz30 rfl rfl rfl fun h20 u20 => ?_
      replace f19 := u20.has f19
      replace f0 := f0.upd u20 (by omega)
      replace f10 := f10.upd u20 (by omega)
      replace f15 := f15.upd u20 (by omega)
      first | replace e0 := e0.upd u20 (by omega) | clear e0
      refine GoR.op rfl rfl rfl rfl ?_
      refine GoR.end ?_
      refine Go.seq noJ_ok ?_
      refine Go.region noJ_ok rfl ?_
      refine GoR.op rfl rfl (ld27 rfl f10 rfl) rfl ?_
      refine GoR.op rfl rfl rfl rfl ?_
      refine GoR.call rfl rfl (aOp_callFunc aFunc13 rfl) (hk1 _ e0 f15) ?_ (by rintro _ _ ⟨q, _⟩; cases q)
      rintro v21 h21 ⟨q, x21⟩
      cases q
      refine ⟨_, rfl, ?_⟩
      replace f19 := f19.ext x21
      replace f0 := f0.ext x21
      replace f10 := f10.ext x21
      replace f15 := f15.ext x21
      replace e0 := e0.trans x21
      iterate 3 refine GoR.op rfl rfl rfl rfl ?_
      refine GoR.alloc rfl rfl rfl zt30 rfl rfl fun h22 x22 f22 => ?_
      have := e0.1
      have := f19.1
      have := f0.1
      have := f10.1
      have := f15.1
      replace f19 := f19.ext x22
      replace f0 := f0.ext x22
      replace f10 := f10.ext x22
      replace f15 := f15.ext x22
      replace e0 := e0.trans x22
      have := f22.1
      refine GoR.store rfl rfl rfl rfl rfl rfl f22 rfl sz30 rfl rfl rfl fun h23 u23 => ?_
      replace f22 := u23.has f22
      replace f19 := f19.upd u23 (by omega)
      replace f0 := f0.upd u23 (by omega)
      replace f10 := f10.upd u23 (by omega)
      replace f15 := f15.upd u23 (by omega)
      first | replace e0 := e0.upd u23 (by omega) | clear e0
      refine GoR.op rfl rfl rfl rfl ?_
      refine GoR.end ?_
      refine Go.seq noJ_ok ?_
      refine Go.region noJ_ok rfl ?_
      refine GoR.op rfl rfl rfl rfl ?_
      refine GoR.op rfl rfl (aOp_neq rfl rfl (r := false) (decide_eq_true (by omega))) rfl ?_
      iterate 2 refine GoR.op rfl rfl rfl rfl ?_
      refine GoR.op rfl rfl (aOp_neq rfl rfl (r := false) (decide_eq_true (by omega))) rfl ?_
      iterate 2 refine GoR.op rfl rfl rfl rfl ?_
      refine GoR.op rfl rfl (fa30_0 rfl) rfl ?_
      refine GoR.op rfl rfl (ld3 rfl f22 rfl) rfl ?_
      refine GoR.op rfl rfl (fa30_0 rfl) rfl ?_
      refine GoR.op rfl rfl (ld3 rfl f19 rfl) rfl ?_
      refine GoR.op rfl rfl (aOp_gtr rfl rfl (r := false) (decide_eq_false (by omega))) rfl ?_
      iterate 2 refine GoR.op rfl rfl rfl rfl ?_
      refine GoR.op rfl rfl (fa30_1 rfl) rfl ?_
      refine GoR.op rfl rfl (ld3 rfl f22 rfl) rfl ?_
      refine GoR.op rfl rfl (fa30_1 rfl) rfl ?_
      refine GoR.op rfl rfl (ld3 rfl f19 rfl) rfl ?_
      refine GoR.op rfl rfl (aOp_gtr rfl rfl (r := false) (decide_eq_false (by omega))) rfl ?_
      iterate 4 refine GoR.op rfl rfl rfl rfl ?_
      refine GoR.op rfl rfl (aOp_eql rfl rfl (decide_eq_true hab)) rfl ?_
      refine GoR.op rfl rfl rfl rfl ?_
      refine GoR.op rfl rfl (ld30 rfl f22 rfl) rfl ?_
      refine GoR.op rfl rfl (ld30 rfl f19 rfl) rfl ?_
      refine GoR.op rfl rfl (aOp_neqSpan spanT rfl rfl hne') rfl ?_
      iterate 2 refine GoR.op rfl rfl rfl rfl ?_
      refine GoR.end ?_
      refine Go.cond noJ_ok (b := false) rfl ?_
      refine Go.code noJ_ok ?_
      refine Go.inBlock noJ_ok ?_
      refine Go.region noJ_ok rfl ?_
      refine GoR.op rfl rfl (aOp_add rfl rfl (by constructor <;> omega) rfl) rfl ?_
      refine GoR.op rfl rfl rfl rfl ?_
      refine GoR.end ?_
      exact again (m - 1) (d + 1) _ _ (by omega) ⟨rfl, rfl, rfl, rfl, rfl, rfl, rfl, rfl, trivial⟩ ⟨by omega, e0, f0, f10, f15⟩
    · refine Go.seq noJ_ok ?_
      refine Go.region noJ_ok rfl ?_
      refine GoR.op rfl rfl (aOp_lss rfl rfl (r := true) (decide_eq_true (by omega))) rfl ?_
      refine GoR.end ?_
      refine Go.seq noJ_ok ?_
      refine Go.cond noJ_ok (b := true) rfl ?_
      refine Go.code noJ_ok ?_
      refine Go.seq noJ_ok ?_
      refine Go.block noJ_ok ?_
      refine Go.seq noJ_ok ?_
      refine Go.region noJ_ok rfl ?_
      iterate 2 refine GoR.op rfl rfl rfl rfl ?_
      refine GoR.end ?_
      refine Go.seq noJ_ok ?_
      refine Go.region noJ_ok rfl ?_
      refine GoR.op rfl rfl (ld27 rfl f10 rfl) rfl ?_
      refine GoR.op rfl rfl rfl rfl ?_
      refine GoR.call rfl rfl (aOp_callFunc aFunc13 rfl) (hk0 _ e0 f15) ?_ (by rintro _ _ ⟨q, _⟩; cases q)
      rintro v18 h18 ⟨q, x18⟩
      cases q
      refine ⟨_, rfl, ?_⟩
      replace f0 := f0.ext x18
      replace f10 := f10.ext x18
      replace f15 := f15.ext x18
      replace e0 := e0.trans x18
      iterate 3 refine GoR.op rfl rfl rfl rfl ?_
      refine GoR.alloc rfl rfl rfl zt30 rfl rfl fun h19 x19 f19 => ?_
      have := e0.1
      have := f0.1
      have := f10.1
      have := f15.1
      replace f0 := f0.ext x19
      replace f10 := f10.ext x19
      replace f15 := f15.ext x19
      replace e0 := e0.trans x19
      have := f19.1
      refine GoR.store rfl rfl rfl rfl rfl rfl f19 rfl sz30 rfl rfl rfl fun h20 u20 => ?_
      replace f19 := u20.has f19
      replace f0 := f0.upd u20 (by omega)
      replace f10 := f10.upd u20 (by omega)
      replace f15 := f15.upd u20 (by omega)
      first | replace e0 := e0.upd u20 (by omega) | clear e0
      refine GoR.op rfl rfl rfl rfl ?_
      refine GoR.end ?_
      refine Go.seq noJ_ok ?_
      refine Go.region noJ_ok rfl ?_
      refine GoR.op rfl rfl (ld27 rfl f10 rfl) rfl ?_
      refine GoR.op rfl rfl rfl rfl ?_
      refine GoR.call rfl rfl (aOp_callFunc aFunc13 rfl) (hk1 _ e0 f15) ?_ (by rintro _ _ ⟨q, _⟩; cases q)
      rintro v21 h21 ⟨q, x21⟩
      cases q
      refine ⟨_, rfl, ?_⟩
      replace f19 := f19.ext x21
      replace f0 := f0.ext x21
      replace f10 := f10.ext x21
      replace f15 := f15.ext x21
      replace e0 := e0.trans x21
      iterate 3 refine GoR.op rfl rfl rfl rfl ?_
      refine GoR.alloc rfl rfl rfl zt30 rfl rfl fun h22 x22 f22 => ?_
      have := e0.1
      have := f19.1
      have := f0.1
      have := f10.1
      have := f15.1
      replace f19 := f19.ext x22
      replace f0 := f0.ext x22
      replace f10 := f10.ext x22
      replace f15 := f15.ext x22
      replace e0 := e0.trans x22
      have := f22.1
      refine GoR.store rfl rfl rfl rfl rfl rfl f22 rfl sz30 rfl rfl rfl fun h23 u23 => ?_
      replace f22 := u23.has f22
      replace f19 := f19.upd u23 (by omega)
      replace f0 := f0.upd u23 (by omega)
      replace f10 := f10.upd u23 (by omega)
      replace f15 := f15.upd u23 (by omega)
      first | replace e0 := e0.upd u23 (by omega) | clear e0
      refine GoR.op rfl rfl rfl rfl ?_
      refine GoR.end ?_
      refine Go.seq noJ_ok ?_
      refine Go.region noJ_ok rfl ?_
      refine GoR.op rfl rfl rfl rfl ?_
      refine GoR.op rfl rfl (aOp_neq rfl rfl (r := false) (decide_eq_true (by omega))) rfl ?_
      iterate 2 refine GoR.op rfl rfl rfl rfl ?_
      refine GoR.op rfl rfl (aOp_neq rfl rfl (r := false) (decide_eq_true (by omega))) rfl ?_
      iterate 2 refine GoR.op rfl rfl rfl rfl ?_
      refine GoR.op rfl rfl (fa30_0 rfl) rfl ?_
      refine GoR.op rfl rfl (ld3 rfl f22 rfl) rfl ?_
      refine GoR.op rfl rfl (fa30_0 rfl) rfl ?_
      refine GoR.op rfl rfl (ld3 rfl f19 rfl) rfl ?_
      refine GoR.op rfl rfl (aOp_gtr rfl rfl (r := false) (decide_eq_false (by omega))) rfl ?_
      iterate 2 refine GoR.op rfl rfl rfl rfl ?_
      refine GoR.op rfl rfl (fa30_1 rfl) rfl ?_
      refine GoR.op rfl rfl (ld3 rfl f22 rfl) rfl ?_
      refine GoR.op rfl rfl (fa30_1 rfl) rfl ?_
      refine GoR.op rfl rfl (ld3 rfl f19 rfl) rfl ?_
      refine GoR.op rfl rfl (aOp_gtr rfl rfl (r := false) (decide_eq_false (by omega))) rfl ?_
      iterate 4 refine GoR.op rfl rfl rfl rfl ?_
      refine GoR.op rfl rfl (aOp_eql rfl rfl (decide_eq_false hab)) rfl ?_
      refine GoR.op rfl rfl rfl rfl ?_
      iterate 3 refine GoR.skip rfl rfl rfl ?_
      iterate 2 refine GoR.op rfl rfl rfl rfl ?_
      refine GoR.end ?_
      refine Go.cond noJ_ok (b := false) rfl ?_
      refine Go.code noJ_ok ?_
      refine Go.inBlock noJ_ok ?_
      refine Go.region noJ_ok rfl ?_
      refine GoR.op rfl rfl (aOp_add rfl rfl (by constructor <;> omega) rfl) rfl ?_
      refine GoR.op rfl rfl rfl rfl ?_
      refine GoR.end ?_
      exact again (m - 1) (d + 1) _ _ (by omega) ⟨rfl, rfl, rfl, rfl, rfl, rfl, rfl, rfl, trivial⟩ ⟨by omega, e0, f0, f10, f15⟩
  · refine Go.seq noJ_ok ?_
    refine Go.region noJ_ok rfl ?_
    refine GoR.op rfl rfl (aOp_lss rfl rfl (r := false) (decide_eq_false (by omega))) rfl ?_
    refine GoR.end ?_
    refine Go.seq noJ_ok ?_
    refine Go.cond noJ_ok (b := false) rfl ?_
    refine Go.code noJ_ok ?_
    refine Go.seq noJ_ok ?_
    refine Go.region noJ_ok rfl ?_
    refine GoR.op rfl rfl (ld27 rfl f10 rfl) rfl ?_
    refine GoR.call rfl rfl (aOp_callFunc aFunc16 rfl) (hWh0 _ e0 f15) ?_ (by rintro _ _ ⟨q, _⟩; cases q)
    rintro v18 h18 ⟨q, x18⟩
    cases q
    refine ⟨_, rfl, ?_⟩
    replace f0 := f0.ext x18
    replace f10 := f10.ext x18
    replace f15 := f15.ext x18
    replace e0 := e0.trans x18
    iterate 5 refine GoR.op rfl rfl rfl rfl ?_
    refine GoR.end ?_
    refine Go.seq noJ_ok ?_
    refine Go.region noJ_ok rfl ?_
    refine GoR.op rfl rfl (ld27 rfl f10 rfl) rfl ?_
    refine GoR.call rfl rfl (aOp_callFunc aFunc16 rfl) (hWh1 _ e0 f15) ?_ (by rintro _ _ ⟨q, _⟩; cases q)
    rintro v19 h19 ⟨q, x19⟩
    cases q
    refine ⟨_, rfl, ?_⟩
    replace f0 := f0.ext x19
    replace f10 := f10.ext x19
    replace f15 := f15.ext x19
    replace e0 := e0.trans x19
    iterate 5 refine GoR.op rfl rfl rfl rfl ?_
    refine GoR.end ?_
    refine Go.seq noJ_ok (Go.join (fun _ : Unit => [(4, .ptr h.next 0), (9, .ptr h9.next 0), (12, .int .i64 lo)]) (fun _ h' => Ext h h' ∧ Has h' h.next (.cells .plain [hsl, rsl, .int .i64 F.a, .int .i64 F.b, .int .i64 F.c, .int .i64 F.lim, lsl] 27) ∧ Has h' h9.next (.cells .plain [.slice h14.next 0 2 2, rsl, .int .i64 F.a, .int .i64 F.b, .int .i64 F.c, .int .i64 F.lim, .nilslice] 27) ∧ Has h' h14.next (.cells .plain [.int .i64 pa, .int .i64 lo, .int .i64 hi, .int .i64 pb, .int .i64 lo, .int .i64 hi] 63)) ?_ ?_)
    · intro k' done
      rcases hwhen with q | ⟨q1, q2, q3⟩
      · subst q
        refine Go.seq noJ_ok ?_
        refine Go.region noJ_ok rfl ?_
        refine GoR.op rfl rfl rfl rfl ?_
        refine GoR.op rfl rfl (aOp_eql rfl rfl (r := false) (decide_eq_false (by omega))) rfl ?_
        refine GoR.op rfl rfl rfl rfl ?_
        iterate 7 refine GoR.skip rfl rfl rfl ?_
        refine GoR.op rfl rfl rfl rfl ?_
        refine GoR.end ?_
        refine Go.cond noJ_ok (b := false) rfl ?_
        refine Go.code noJ_ok ?_
        exact done () _ _ ⟨rfl, rfl, rfl, trivial⟩ ⟨e0, f0, f10, f15⟩
      · subst q1 q2
        refine Go.seq noJ_ok ?_
        refine Go.region noJ_ok rfl ?_
        refine GoR.op rfl rfl rfl rfl ?_
        refine GoR.op rfl rfl (aOp_eql rfl rfl (r := true) (decide_eq_true (by omega))) rfl ?_
        iterate 2 refine GoR.op rfl rfl rfl rfl ?_
        refine GoR.op rfl rfl (aOp_neq rfl rfl (r := false) (decide_eq_true (by omega))) rfl ?_
        iterate 3 refine GoR.op rfl rfl rfl rfl ?_
        refine GoR.op rfl rfl (aOp_gtr rfl rfl (r := false) (decide_eq_false (by omega))) rfl ?_
        iterate 2 refine GoR.op rfl rfl rfl rfl ?_
        refine GoR.end ?_
        refine Go.cond noJ_ok (b := false) rfl ?_
        refine Go.code noJ_ok ?_
        exact done () _ _ ⟨rfl, rfl, rfl, trivial⟩ ⟨e0, f0, f10, f15⟩
    clear e0 f0 f10 f15
    rintro ⟨⟩ h20 ⟨e0, f0, f10, f15⟩
    refine Go.seq noJ_ok ?_
    refine Go.drawnE plan7_0 ?_
    refine GoE.quiet rfl rfl (fa27_0 rfl) rfl ?_
    refine GoE.quiet rfl rfl (ld22 rfl f10 rfl) rfl ?_
    iterate 2 refine GoE.quiet rfl rfl rfl rfl ?_
    refine GoE.call rfl rfl (aOp_callFunc aFunc11 rfl) (span11_ok lo lo _) (dropF_drop (show bit? 12 3 = true from rfl) (dropF_drop (show bit? 12 2 = true from rfl) (dropF_keep (show bit? 12 1 = false from rfl) (dropF_keep (show bit? 12 0 = false from rfl) rfl)))) ?_ (by rintro _ _ ⟨q, _⟩; cases q)
    rintro v21 h21 ⟨q, x21⟩
    cases q
    replace f0 := f0.ext x21
    replace f10 := f10.ext x21
    replace f15 := f15.ext x21
    replace e0 := e0.trans x21
    refine ⟨(recheck_cons (h2 := h21) rfl (ld22 rfl f10 rfl) (by first | rfl | exact sameA_int _ _ | exact sameA_bool _ | exact sameA_agg2 _ _ | assumption | (simp [sameA, sameAs, eqI_eq]; done)) (recheck_cons (h2 := h21) rfl (fa27_0 rfl) (by first | rfl | exact sameA_int _ _ | exact sameA_bool _ | exact sameA_agg2 _ _ | assumption | (simp [sameA, sameAs, eqI_eq]; done)) recheck_nil)), _, rfl, ?_⟩
    refine GoE.quiet rfl rfl rfl rfl ?_
    refine GoE.quiet rfl rfl (fa63_1 rfl) rfl ?_
    refine GoE.store rfl rfl rfl rfl (dropF_drop (show bit? 127 6 = true from rfl) (dropF_drop (show bit? 127 5 = true from rfl) (dropF_drop (show bit? 127 1 = true from rfl) (dropF_drop (show bit? 127 0 = true from rfl) rfl)))) rfl rfl f15 rfl sz30 rfl rfl rfl fun h22 u22 => ?_
    replace f0 := f0.upd u22 (by omega)
    replace f10 := f10.upd u22 (by omega)
    replace f15 := u22.has f15
    first | replace e0 := e0.upd u22 (by omega) | clear e0
    refine ⟨recheck_nil, ?_⟩
    refine GoE.end rfl ?_
    refine Go.seq noJ_ok ?_
    refine Go.region noJ_ok rfl ?_
    refine GoR.op rfl rfl (fa27_1 rfl) rfl ?_
    refine GoR.store rfl rfl rfl rfl rfl rfl f10 rfl sz23 rfl rfl rfl fun h23 u23 => ?_
    replace f0 := f0.upd u23 (by omega)
    replace f10 := u23.has f10
    replace f15 := f15.upd u23 (by omega)
    first | replace e0 := e0.upd u23 (by omega) | clear e0
    refine GoR.end ?_
    refine Go.seq noJ_ok ?_
    refine Go.region noJ_ok rfl ?_
    refine GoR.op rfl rfl rfl rfl ?_
    refine GoR.end ?_
    iterate 2 refine Go.seq noJ_ok ?_
    refine Go.region noJ_ok rfl ?_
    refine GoR.op rfl rfl (fa27_1 rfl) rfl ?_
    refine GoR.op rfl rfl (ld23 rfl f0 rfl) rfl ?_
    refine GoR.op rfl rfl (aOp_lenSlice Try.underlying23 rfl hl2) rfl ?_
    refine GoR.op rfl rfl rfl rfl ?_
    refine GoR.end ?_
    refine Go.block noJ_ok ?_
    have l4 : h23.next = h23.next := rfl
    have l5 := f0.1
    have l6 := f10.1
    have l7 := f15.1
    refine Go.loopKeep (fun a : Nat × AVal × AVal => [(4, .ptr h.next 0), (9, .ptr h9.next 0), (12, .int .i64 lo), (23, a.2.2), (151, rsl), (152, .int .i64 F.rs.length), (153, .int .i64 (a.1 : Nat))])
      (fun m a h' => m + a.1 = F.rs.length ∧ Ext h h' ∧ h23.next ≤ h'.next ∧ Has h' h.next (.cells .plain [hsl, rsl, .int .i64 F.a, .int .i64 F.b, .int .i64 F.c, .int .i64 F.lim, lsl] 27) ∧ Has h' h9.next (.cells .plain [.slice h14.next 0 2 2, a.2.1, .int .i64 F.a, .int .i64 F.b, .int .i64 F.c, .int .i64 F.lim, .nilslice] 27) ∧ Has h' h14.next (.cells .plain [.int .i64 pa, .int .i64 lo, .int .i64 lo, .int .i64 pb, .int .i64 lo, .int .i64 hi] 63) ∧
        Grow h' 30 2 h23.next a.2.1 a.1 (((F.rs.take a.1).map fun r => (r.2, r.2)).flatMap spC) ∧ Grow h' 3 1 h23.next a.2.2 a.1 (i64s ((F.rs.take a.1).map fun r => r.2)))
      (n := F.rs.length) (0, .nilslice, .nilslice) ⟨rfl, rfl, rfl, rfl, rfl, rfl, rfl, trivial⟩ ⟨rfl, e0, Nat.le_refl _, f0, f10, f15, Grow.nil _ _ _ _, Grow.nil _ _ _ _⟩ ?_
    clear e0 f0 f10 f15
    rintro m2 ⟨i, xs, ks⟩ h40 ⟨hm2, e0, hn40, f0, f10, f15, G1, G2⟩ again2
    dsimp only at hm2 f10 G1 G2 ⊢
    by_cases hi2 : i < F.rs.length
    · obtain ⟨r, hr⟩ : ∃ r, F.rs[i]? = some r := ⟨F.rs[i], by simp [hi2]⟩
      obtain ⟨r1, r2⟩ := r
      obtain ⟨bq, off, q1, q2⟩ := (A.rs.ext e0).at (i := i) (l := spC (r1, r2)) (by rw [List.getElem?_map, hr]; rfl)
      rw [List.length_map] at q1
      unfold spC at q2
      dsimp only at q2
      have e1 : Ext h40 h40 := Ext.refl _
      have hsx := grow_same G1
      have hsk := grow_same G2
      refine Go.seq noJ_ok ?_
      refine Go.region noJ_ok rfl ?_
      refine GoR.op rfl rfl (aOp_lss rfl rfl (r := true) (decide_eq_true (by omega))) rfl ?_
      refine GoR.end ?_
      refine Go.seq noJ_ok ?_
      refine Go.cond noJ_ok (b := true) rfl ?_
      refine Go.code noJ_ok ?_
      refine Go.seq noJ_ok ?_
      refine Go.block noJ_ok ?_
      refine Go.seq noJ_ok ?_
      refine Go.region noJ_ok rfl ?_
      refine GoR.op rfl rfl (aOp_indexAddr Try.underlying23 sz30 rfl q1 rfl (Nat.ble_eq_true_of_le hi2)) rfl ?_
      refine GoR.op rfl rfl (aOp_loadE ag30 sz30 rfl (q2.ext e1)) rfl ?_
      refine GoR.alloc rfl rfl rfl zt30 rfl rfl fun h41 x41 f41 => ?_
      have := e0.1
      have := e1.1
      have := f0.1
      have := f10.1
      have := f15.1
      replace f0 := f0.ext x41
      replace f10 := f10.ext x41
      replace f15 := f15.ext x41
      replace e0 := e0.trans x41
      replace e1 := e1.trans x41
      have := f41.1
      refine GoR.store rfl rfl rfl rfl rfl rfl f41 rfl sz30 rfl rfl rfl fun h42 u42 => ?_
      replace f41 := u42.has f41
      replace f0 := f0.upd u42 (by omega)
      replace f10 := f10.upd u42 (by omega)
      replace f15 := f15.upd u42 (by omega)
      first | replace e0 := e0.upd u42 (by omega) | clear e0
      first | replace e1 := e1.upd u42 (by omega) | clear e1
      refine GoR.end ?_
      refine Go.drawnE plan7_1 ?_
      refine GoE.quiet rfl rfl (fa27_1 rfl) rfl ?_
      refine GoE.quiet rfl rfl (ld23 rfl f10 rfl) rfl ?_
      refine GoE.quiet rfl rfl (fa30_1 rfl) rfl ?_
      refine GoE.quiet rfl rfl (ld3 rfl f41 rfl) rfl ?_
      refine GoE.quiet rfl rfl (fa30_1 rfl) rfl ?_
      refine GoE.quiet rfl rfl (ld3 rfl f41 rfl) rfl ?_
      refine GoE.quiet rfl rfl rfl rfl ?_
      refine GoE.quiet rfl rfl (fa30_1 rfl) rfl ?_
      refine GoE.quiet rfl rfl (ld3 rfl f41 rfl) rfl ?_
      refine GoE.quietX rfl rfl (aOpX_lit (ps := [(0, .int .i64 r2)]) (cs := [.int .i64 r2]) Try.underlying50 rfl sz3 zt3 rfl rfl rfl) rfl ?_
      refine GoE.call rfl rfl (aOp_callFunc aFunc11 rfl) (span11_ok r2 r2 _) (dropF_keep (show bit? 60 12 = false from rfl) (dropF_keep (show bit? 60 11 = false from rfl) (dropF_keep (show bit? 60 10 = false from rfl) (dropF_keep (show bit? 60 9 = false from rfl) (dropF_drop (show bit? 60 5 = true from rfl) (dropF_drop (show bit? 60 4 = true from rfl) (dropF_drop (show bit? 60 3 = true from rfl) (dropF_drop (show bit? 60 2 = true from rfl) (dropF_keep (show bit? 60 1 = false from rfl) (dropF_keep (show bit? 60 0 = false from rfl) rfl)))))))))) ?_ (by rintro _ _ ⟨q, _⟩; cases q)
      rintro v43 h43 ⟨q, x43⟩
      cases q
      replace f41 := f41.ext x43
      replace f0 := f0.ext x43
      replace f10 := f10.ext x43
      replace f15 := f15.ext x43
      replace e0 := e0.trans x43
      replace e1 := e1.trans x43
      refine ⟨(recheck_consX (h2 := h43) rfl (aOpX_lit (ps := [(0, .int .i64 r2)]) (cs := [.int .i64 r2]) Try.underlying50 rfl sz3 zt3 rfl rfl rfl) (by simp [sameA, sameAs, eqI_eq]) (recheck_cons (h2 := h43) rfl (ld3 rfl f41 rfl) (by first | rfl | exact sameA_int _ _ | exact sameA_bool _ | exact sameA_agg2 _ _ | assumption | (simp [sameA, sameAs, eqI_eq]; done)) (recheck_cons (h2 := h43) rfl (fa30_1 rfl) (by first | rfl | exact sameA_int _ _ | exact sameA_bool _ | exact sameA_agg2 _ _ | assumption | (simp [sameA, sameAs, eqI_eq]; done)) (recheck_cons (h2 := h43) rfl (rfl) (by first | rfl | exact sameA_int _ _ | exact sameA_bool _ | exact sameA_agg2 _ _ | assumption | (simp [sameA, sameAs, eqI_eq]; done)) (recheck_cons (h2 := h43) rfl (ld23 rfl f10 rfl) (by first | rfl | exact sameA_int _ _ | exact sameA_bool _ | exact sameA_agg2 _ _ | assumption | (simp [sameA, sameAs, eqI_eq]; done)) (recheck_cons (h2 := h43) rfl (fa27_1 rfl) (by first | rfl | exact sameA_int _ _ | exact sameA_bool _ | exact sameA_agg2 _ _ | assumption | (simp [sameA, sameAs, eqI_eq]; done)) recheck_nil)))))), _, rfl, ?_⟩
      refine GoE.quietX rfl rfl (aOpX_lit (ps := [(0, .agg [.int .i64 r2, .int .i64 r2])]) (cs := [.int .i64 r2, .int .i64 r2]) Try.underlying23 rfl sz30 zt30 rfl rfl rfl) rfl ?_
      refine GoE.append1L rfl rfl Try.underlying23 Try.underlying23 sz30 by30 zt30 rfl rfl rfl rfl rfl rfl (G1.ext e1) (by omega) (dropF_drop (show bit? 255 7 = true from rfl) (dropF_keep (show bit? 255 12 = false from rfl) (dropF_keep (show bit? 255 11 = false from rfl) (dropF_keep (show bit? 255 10 = false from rfl) (dropF_keep (show bit? 255 9 = false from rfl) (dropF_drop (show bit? 255 1 = true from rfl) (dropF_drop (show bit? 255 0 = true from rfl) rfl))))))) rfl rfl fun s44 h44 y44 g44 => ?_
      replace f41 := f41.extF y44 (fun q => by have := grow_own G1 q; omega)
      replace f0 := f0.extF y44 (fun q => by have := grow_own G1 q; omega)
      replace f10 := f10.extF y44 (fun q => by have := grow_own G1 q; omega)
      replace f15 := f15.extF y44 (fun q => by have := grow_own G1 q; omega)
      first | replace e0 := y44.low e0 (fun b q => by have := grow_own G1 q; omega) | skip
      first | replace e1 := y44.low e1 (fun b q => by have := grow_own G1 q; omega) | skip
      have := y44.1
      refine ⟨(recheck_consX (h2 := h44) rfl (aOpX_lit (ps := [(0, .int .i64 r2)]) (cs := [.int .i64 r2]) Try.underlying50 rfl sz3 zt3 rfl rfl rfl) (by simp [sameA, sameAs, eqI_eq]) (recheck_cons (h2 := h44) rfl (ld3 rfl f41 rfl) (by first | rfl | exact sameA_int _ _ | exact sameA_bool _ | exact sameA_agg2 _ _ | assumption | (simp [sameA, sameAs, eqI_eq]; done)) (recheck_cons (h2 := h44) rfl (fa30_1 rfl) (by first | rfl | exact sameA_int _ _ | exact sameA_bool _ | exact sameA_agg2 _ _ | assumption | (simp [sameA, sameAs, eqI_eq]; done)) (recheck_cons (h2 := h44) rfl (rfl) (by first | rfl | exact sameA_int _ _ | exact sameA_bool _ | exact sameA_agg2 _ _ | assumption | (simp [sameA, sameAs, eqI_eq]; done)) recheck_nil)))), ?_⟩
      have hy := y44.1
      have hx43 := e1.1
      have G2' := (G2.ext e1).keep hy fun b hb1 hb2 hb3 => y44.2 b hb2 fun q => grow_other (G2.ext e1) (G1.ext e1) (by decide) hb3 q
      clear e1
      obtain ⟨hk1, hk2⟩ := grow_scal g44
      have hst1 : Nat.beq s44.cells.length 1 = true := by rw [hk2]; rfl
      have hst2 : scalars s44.cells = true := by rw [hk2]; exact hk1
      have hst3 : splice [.slice h14.next 0 2 2, xs, AVal.int .i64 F.a, .int .i64 F.b, .int .i64 F.c, .int .i64 F.lim, .nilslice] (0 + 1) s44.cells = some [.slice h14.next 0 2 2, s44, .int .i64 F.a, .int .i64 F.b, .int .i64 F.c, .int .i64 F.lim, .nilslice] := by rw [hk2]; rfl
      clear y44
      refine GoE.quiet rfl rfl (fa27_1 rfl) rfl ?_
      refine GoE.append1L rfl rfl Try.underlying50 Try.underlying50 sz3 by3 zt3 rfl rfl rfl rfl rfl rfl G2' (by omega) (dropF_keep (show bit? 8191 14 = false from rfl) (dropF_drop (show bit? 8191 12 = true from rfl) (dropF_drop (show bit? 8191 11 = true from rfl) (dropF_drop (show bit? 8191 10 = true from rfl) (dropF_drop (show bit? 8191 9 = true from rfl) rfl))))) rfl rfl fun s45 h45 y45 g45 => ?_
      replace f41 := f41.extF y45 (fun q => by have := grow_own G2 q; omega)
      replace f0 := f0.extF y45 (fun q => by have := grow_own G2 q; omega)
      replace f10 := f10.extF y45 (fun q => by have := grow_own G2 q; omega)
      replace f15 := f15.extF y45 (fun q => by have := grow_own G2 q; omega)
      first | replace e0 := y45.low e0 (fun b q => by have := grow_own G2 q; omega) | skip
      have := y45.1
      refine ⟨(recheck_cons (h2 := h45) rfl (fa27_1 rfl) (by first | rfl | exact sameA_int _ _ | exact sameA_bool _ | exact sameA_agg2 _ _ | assumption | (simp [sameA, sameAs, eqI_eq]; done)) recheck_nil), ?_⟩
      refine GoE.store rfl rfl rfl rfl (dropF_drop (show bit? 32767 14 = true from rfl) rfl) rfl rfl f10 rfl sz23 hst1 hst2 hst3 fun h46 u46 => ?_
      replace f41 := f41.upd u46 (by omega)
      replace f0 := f0.upd u46 (by omega)
      replace f10 := u46.has f10
      replace f15 := f15.upd u46 (by omega)
      first | replace e0 := e0.upd u46 (by omega) | clear e0
      first | replace y45 := y45.upd u46 (by first | exact .inl rfl | exact .inl (.inl rfl) | exact .inl (.inr rfl) | exact .inl (by assumption) | exact .inr (by omega)) | skip
      refine ⟨recheck_nil, ?_⟩
      refine GoE.quiet rfl rfl rfl rfl ?_
      refine GoE.end rfl ?_
      refine Go.inBlock noJ_ok ?_
      refine Go.region noJ_ok rfl ?_
      refine GoR.op rfl rfl (aOp_add rfl rfl (by constructor <;> omega) rfl) rfl ?_
      refine GoR.op rfl rfl rfl rfl ?_
      refine GoR.end ?_
      have hn45 := y45.1
      have hn46 : h46.next = h45.next := u46.1
      have gg := (g44.keep y45.1 fun b hb1 hb2 hb3 => y45.2 b hb2 fun q => by have := grow_own G2 q; omega).keep (h' := h46) (by rw [u46.1]; exact Nat.le_refl _) fun b hb1 hb2 hb3 => u46.2.2 b (by omega)
      have gk := g45.keep (h' := h46) (by rw [u46.1]; exact Nat.le_refl _) fun b hb1 hb2 hb3 => u46.2.2 b (by omega)
      refine again2 (m2 - 1) (i + 1, s44, s45) _ _ (by omega) ⟨rfl, rfl, rfl, rfl, rfl, rfl, rfl, trivial⟩ ⟨by dsimp only; omega, e0, by omega, f0, f10, f15, ?_, ?_⟩
      · dsimp only
        rw [take_succ hr, List.map_append, List.flatMap_append]
        exact gg.low (by omega)
      · dsimp only
        rw [take_succ hr, List.map_append]
        unfold i64s at gk ⊢
        rw [List.map_append]
        exact gk.low (by omega)
    · have hin : i = F.rs.length := by omega
      subst hin
      rw [List.take_length] at G1 G2
      obtain ⟨rs', hrs'⟩ : ∃ rs', (F.rs.map fun r => (r.2, r.2)) = rs' := ⟨_, rfl⟩
      obtain ⟨G3, hG3⟩ : ∃ G3, twoF F rs' pa pb lo lo hi = G3 := ⟨_, rfl⟩
      have hrl : rs'.length = F.rs.length := by rw [← hrs', List.length_map]
      have GO3 : G3.Ok := by
        rw [← hG3]
        refine twoF_ok O (by rw [hrl]; exact O.nr) (fun r hr => ?_) (by omega) (by omega)
        rw [← hrs'] at hr
        obtain ⟨r0, h0, rfl⟩ := List.mem_map.1 hr
        have := O.r r0 h0
        dsimp only
        omega
      have hG3l : G3.looks = [] := by rw [← hG3]; rfl
      have hG3x : G3.hs[0]? = some ⟨pa, lo, lo⟩ := by rw [← hG3]; rfl
      have hG3r : G3.rs = rs' := by rw [← hG3]; rfl
      have hG32 : G3.hs.length = 2 := by rw [← hG3]; rfl
      have hG3h : G3.hs = [⟨pa, lo, lo⟩, ⟨pb, lo, hi⟩] := by rw [← hG3]; rfl
      have hG3d : G3.a = F.a ∧ G3.b = F.b ∧ G3.c = F.c := by rw [← hG3]; exact ⟨rfl, rfl, rfl⟩
      have hG3c : G3.cells (.slice h14.next 0 2 2) xs .nilslice = [.slice h14.next 0 2 2, xs, .int .i64 F.a, .int .i64 F.b, .int .i64 F.c, .int .i64 F.lim, .nilslice] := by rw [← hG3]; rfl
      rw [hrs'] at G1
      have hs14 : ∀ h', Has h' h14.next (.cells .plain [.int .i64 pa, .int .i64 lo, .int .i64 lo, .int .i64 pb, .int .i64 lo, .int .i64 hi] 63) → SliceOf h' 3 (.slice h14.next 0 2 2) (G3.hs.map HTurf.cells) := by
        intro h' f
        rw [hG3h]
        exact sl23 (x := ⟨pa, lo, lo⟩) (y := ⟨pb, lo, hi⟩) f
      have hxl : SliceOf h40 2 xs (rs'.map spC) := by
        have k : Grow h40 30 2 h23.next xs (rs'.map spC).length ((rs'.map spC).flatten) := by
          rw [List.length_map, hrl, ← List.flatMap_def]
          exact G1
        exact k.sliceOf (slice_flatten fun l hl => by obtain ⟨_, _, rfl⟩ := List.mem_map.1 hl; rfl)
      have hkl : SliceOf h40 1 ks ((F.rs.map fun r => r.2).map fun x => [AVal.int .i64 x]) := by
        have k : Grow h40 3 1 h23.next ks ((F.rs.map fun r => r.2).map fun x => [AVal.int .i64 x]).length (((F.rs.map fun r => r.2).map fun x => [AVal.int .i64 x]).flatten) := by
          rw [List.length_map, List.length_map, ← List.flatMap_def, flat_one]
          exact G2
        exact k.sliceOf (slice_flatten fun l hl => by obtain ⟨_, _, rfl⟩ := List.mem_map.1 hl; rfl)
      have hwn := fun (fsl : AVal) (h' : AH) (e : Ext h40 h') (f : Has h' h14.next (.cells .plain [.int .i64 pa, .int .i64 lo, .int .i64 lo, .int .i64 pb, .int .i64 lo, .int .i64 hi] 63)) (hf : SliceOf h' 1 fsl ([lo, lo].map fun x => [AVal.int .i64 x])) =>
        wetness_ok (F := G3) (.slice h14.next 0 2 2) xs .nilslice fsl ks [lo, lo] (F.rs.map fun r => r.2) h' (hs14 h' f) hf (hkl.ext e) (fun x hx => by have := GO3.h x hx; omega) (by omega) GO3.dries (by rw [hG32]; rfl)
          (fun w hw => by
            rcases List.mem_cons.1 hw with rfl | hw
            · omega
            · rcases List.mem_cons.1 hw with rfl | hw
              · omega
              · cases hw)
          (fun r hr => by
            obtain ⟨r0, h0, rfl⟩ := List.mem_map.1 hr
            have := O.r r0 h0
            omega)
          (by rw [List.length_map]; omega)
      rw [hG3c] at hwn
      have hsl2 : ∀ (h' : AH) (b : Nat), Has h' b (.cells .plain [.int .i64 lo, .int .i64 lo] 3) → SliceOf h' 1 (.slice b 0 2 2) ([lo, lo].map fun x => [AVal.int .i64 x]) := fun h' b f => SliceOf.mk' rfl rfl f rfl (fun i l hl => by
        match i, hl with
        | 0, hl => cases hl; rfl
        | 1, hl => cases hl; rfl)
      have hxn := hxl.len
      rw [List.length_map, hrl] at hxn
      have e1 : Ext h40 h40 := Ext.refl _
      refine Go.seq noJ_ok ?_
      refine Go.region noJ_ok rfl ?_
      refine GoR.op rfl rfl (aOp_lss rfl rfl (r := false) (decide_eq_false (by omega))) rfl ?_
      refine GoR.end ?_
      refine Go.seq noJ_ok ?_
      refine Go.cond noJ_ok (b := false) rfl ?_
      refine Go.code noJ_ok ?_
      refine Go.seq noJ_ok ?_
      refine Go.region noJ_ok rfl ?_
      refine GoR.op rfl rfl (ld27 rfl f10 rfl) rfl ?_
      iterate 2 refine GoR.op rfl rfl rfl rfl ?_
      refine GoR.buildSl rfl rfl (ps := [(0, .int .i64 lo), (1, .int .i64 lo)]) (cs := [.int .i64 lo, .int .i64 lo]) Try.underlying50 rfl sz3 zt3 rfl rfl rfl rfl fun h41 x41 f41 => ?_
      have := e0.1
      have := e1.1
      have := f0.1
      have := f10.1
      have := f15.1
      replace f0 := f0.ext x41
      replace f10 := f10.ext x41
      replace f15 := f15.ext x41
      replace e0 := e0.trans x41
      replace e1 := e1.trans x41
      have := f41.1
      refine GoR.op rfl rfl rfl rfl ?_
      refine GoR.call rfl rfl (aOp_callFunc aFunc30 rfl) (hwn _ _ e1 f15 (hsl2 _ _ f41)) ?_ (by rintro _ _ ⟨os, osl, q, _, hol, GO1, WG⟩; cases q)
      rintro v42 h42 ⟨os, osl, q, x42, hol, GO1, WG⟩
      cases q
      refine ⟨_, rfl, ?_⟩
      have := e0.1
      have := e1.1
      replace f41 := f41.ext x42
      replace f0 := f0.ext x42
      replace f10 := f10.ext x42
      replace f15 := f15.ext x42
      replace e0 := e0.trans x42
      replace e1 := e1.trans x42
      refine GoR.op rfl rfl rfl rfl ?_
      refine GoR.end ?_
      iterate 2 refine Go.seq noJ_ok ?_
      refine Go.region noJ_ok rfl ?_
      refine GoR.op rfl rfl (fa27_1 rfl) rfl ?_
      refine GoR.op rfl rfl (ld23 rfl f10 rfl) rfl ?_
      refine GoR.op rfl rfl (aOp_lenSlice Try.underlying23 rfl hxn) rfl ?_
      refine GoR.op rfl rfl rfl rfl ?_
      refine GoR.end ?_
      refine Go.block noJ_ok ?_
      have hne3 := bare_ne GO3 hG3l
      have hWe3 : ∀ (d : Nat), d < F.rs.length → ∀ h', Ext h40 h' → Has h' h14.next (.cells .plain [.int .i64 pa, .int .i64 lo, .int .i64 lo, .int .i64 pb, .int .i64 lo, .int .i64 hi] 63) →
          Runs Try.prog 13 [.agg [.slice h14.next 0 2 2, xs, .int .i64 F.a, .int .i64 F.b, .int .i64 F.c, .int .i64 F.lim, .nilslice], .int .i64 ((0 : Nat) : Int), .int .i64 (d : Nat)] h' (fun en h2 => en = .ret (.tuple [.agg (spC (G3.wet ((0 : Nat) : Int) d)), .int .i64 0]) ∧ Ext h' h2) := by
        intro d hd h' e f
        have := Wet_yes GO3 hne3 (.slice h14.next 0 2 2) xs .nilslice 0 (by omega) d (by rw [hG3r, hrl]; exact hd) h' ⟨hs14 h' f, by rw [hG3r]; exact hxl.ext e, by rw [hG3l]; exact .nil⟩
        rw [hG3c] at this
        exact this
      obtain ⟨sl0, hsl0⟩ : ∃ sl0, osl[0]? = some sl0 := ⟨osl[0]'(by omega), by simp⟩
      have hW0 := WG 0 _ lo sl0 hG3x rfl hsl0
      have hol2 : osl.length = 2 := by omega
      have hosl : SliceOf h42 1 v42 (osl.map fun x => [x]) := by
        have k : Grow h42 50 1 h41.next v42 (osl.map fun x => [x]).length ((osl.map fun x => [x]).flatten) := by
          rw [List.length_map, hol, flat_self]
          exact GO1
        exact k.sliceOf (slice_flatten fun l hl => by obtain ⟨_, _, rfl⟩ := List.mem_map.1 hl; rfl)
      obtain ⟨bo, oo, p1, p2⟩ := hosl.at (i := 0) (l := [sl0]) (by rw [List.getElem?_map, hsl0]; rfl)
      rw [List.length_map, hol2] at p1
      obtain ⟨sc, hsc2⟩ : ∃ sc, scan G3.a G3.b G3.c pa.toNat (F.rs.map fun r => r.2) lo = sc := ⟨_, rfl⟩
      have hscl : sc.length = F.rs.length := by rw [← hsc2, scan_len, List.length_map]
      dsimp only at hW0
      rw [hsc2, List.length_map] at hW0
      have hss := grow_same hW0
      have hos := grow_same GO1
      have hslS : SliceOf h42 1 sl0 (sc.map fun x => [AVal.int .i64 x]) := by
        have k : Grow h42 3 1 h41.next sl0 (sc.map fun x => [AVal.int .i64 x]).length ((sc.map fun x => [AVal.int .i64 x]).flatten) := by
          rw [List.length_map, hscl, ← List.flatMap_def, flat_one]
          exact hW0
        exact k.sliceOf (slice_flatten fun l hl => by obtain ⟨_, _, rfl⟩ := List.mem_map.1 hl; rfl)
      have l8 := f10.1
      have l9 := f15.1
      have F10 := fun h' (e : Ext h42 h') => f10.ext e
      have F15 := fun h' (e : Ext h42 h') => f15.ext e
      have E40 := fun h' (e : Ext h42 h') => e1.trans e
      refine Go.loopKeep (fun d : Nat => [(9, .ptr h9.next 0), (26, v42), (180, xs), (181, .int .i64 F.rs.length), (182, .int .i64 (d : Nat))])
        (fun m d h' => m + d = F.rs.length ∧ Ext h h' ∧ Ext h42 h') (n := F.rs.length) 0 ⟨rfl, rfl, rfl, rfl, rfl, trivial⟩ ⟨rfl, e0, Ext.refl _⟩ ?_
      clear e0 e1 f0 f10 f15 f41
      rintro m d h50 ⟨hm, e0, e2⟩ again3
      have f10 := F10 _ e2
      have f15 := F15 _ e2
      have e1 := E40 _ e2
      by_cases hd : d < F.rs.length
      · obtain ⟨v, hv⟩ : ∃ v, after G3.a G3.b G3.c pa.toNat ((F.rs.map fun r => r.2).take (d + 1)) lo = v := ⟨_, rfl⟩
        have hkw := known_wet GO3 hG3l hG3x rfl (hG3r.trans hrs'.symm) (d := d) (by rw [hG3r, hrl]; exact hd)
        dsimp only at hkw
        rw [hv] at hkw
        have hscd : sc[d]? = some v := by
          rw [← hsc2, ← hv]
          exact scan_at _ _ _ _ _ _ _ (by rw [List.length_map]; exact hd)
        obtain ⟨bs, os2, r1, r2⟩ := hslS.at (i := d) (l := [AVal.int .i64 v]) (by rw [List.getElem?_map, hscd]; rfl)
        rw [List.length_map, hscl] at r1
        have hw3 := hWe3 d hd
        rw [hkw] at hw3
        unfold spC at hw3
        have hne' : (!(v == v && v == v)) = false := by simp
        refine Go.seq noJ_ok ?_
        refine Go.region noJ_ok rfl ?_
        refine GoR.op rfl rfl (aOp_lss rfl rfl (r := true) (decide_eq_true (by omega))) rfl ?_
        refine GoR.end ?_
        refine Go.seq noJ_ok ?_
        refine Go.cond noJ_ok (b := true) rfl ?_
        refine Go.code noJ_ok ?_
        refine Go.seq noJ_ok ?_
        refine Go.block noJ_ok ?_
        refine Go.seq noJ_ok ?_
        refine Go.region noJ_ok rfl ?_
        iterate 2 refine GoR.op rfl rfl rfl rfl ?_
        refine GoR.end ?_
        refine Go.seq noJ_ok ?_
        refine Go.region noJ_ok rfl ?_
        refine GoR.op rfl rfl (ld27 rfl f10 rfl) rfl ?_
        refine GoR.op rfl rfl rfl rfl ?_
        refine GoR.call rfl rfl (aOp_callFunc aFunc13 rfl) (hw3 _ e1 f15) ?_ (by rintro _ _ ⟨q, _⟩; cases q)
        rintro v51 h51 ⟨q, x51⟩
        cases q
        refine ⟨_, rfl, ?_⟩
        replace f10 := f10.ext x51
        replace f15 := f15.ext x51
        replace e0 := e0.trans x51
        replace e2 := e2.trans x51
        replace e1 := e1.trans x51
        iterate 3 refine GoR.op rfl rfl rfl rfl ?_
        refine GoR.alloc rfl rfl rfl zt30 rfl rfl fun h52 x52 f52 => ?_
        have := e0.1
        have := e2.1
        have := e1.1
        have := f10.1
        have := f15.1
        replace f10 := f10.ext x52
        replace f15 := f15.ext x52
        replace e0 := e0.trans x52
        replace e2 := e2.trans x52
        replace e1 := e1.trans x52
        have := f52.1
        refine GoR.store rfl rfl rfl rfl rfl rfl f52 rfl sz30 rfl rfl rfl fun h53 u53 => ?_
        replace f52 := u53.has f52
        replace f10 := f10.upd u53 (by omega)
        replace f15 := f15.upd u53 (by omega)
        first | replace e0 := e0.upd u53 (by omega) | clear e0
        first | replace e2 := e2.upd u53 (by omega) | clear e2
        first | replace e1 := e1.upd u53 (by omega) | clear e1
        refine GoR.op rfl rfl rfl rfl ?_
        refine GoR.end ?_
        refine Go.seq noJ_ok ?_
        refine Go.drawnE plan7_2 ?_
        refine GoE.quiet rfl rfl rfl rfl ?_
        refine GoE.quiet rfl rfl (aOp_neq rfl rfl (r := false) (decide_eq_true (by omega))) rfl ?_
        refine GoE.quiet rfl rfl rfl rfl ?_
        refine GoE.quiet rfl rfl (ld30 rfl f52 rfl) rfl ?_
        refine GoE.quiet rfl rfl rfl rfl ?_
        refine GoE.quiet rfl rfl (aOp_indexAddr Try.underlying49 sz50 rfl p1 rfl rfl) rfl ?_
        refine GoE.quiet rfl rfl (aOp_loadE1 (k := 0) ag50 rfl (p2.ext e2) rfl) rfl ?_
        refine GoE.quiet rfl rfl rfl rfl ?_
        refine GoE.quiet rfl rfl (aOp_indexAddr Try.underlying50 sz3 rfl r1 rfl (Nat.ble_eq_true_of_le hd)) rfl ?_
        refine GoE.quiet rfl rfl (aOp_loadE1 (k := 0) ag3 rfl (r2.ext e2) rfl) rfl ?_
        refine GoE.quiet rfl rfl rfl rfl ?_
        refine GoE.quiet rfl rfl (aOp_indexAddr Try.underlying49 sz50 rfl p1 rfl rfl) rfl ?_
        refine GoE.quiet rfl rfl (aOp_loadE1 (k := 0) ag50 rfl (p2.ext e2) rfl) rfl ?_
        refine GoE.quiet rfl rfl rfl rfl ?_
        refine GoE.quiet rfl rfl (aOp_indexAddr Try.underlying50 sz3 rfl r1 rfl (Nat.ble_eq_true_of_le hd)) rfl ?_
        refine GoE.quiet rfl rfl (aOp_loadE1 (k := 0) ag3 rfl (r2.ext e2) rfl) rfl ?_
        refine GoE.call rfl rfl (aOp_callFunc aFunc11 rfl) (span11_ok v v _) (dropF_drop (show bit? 65527 15 = true from rfl) (dropF_drop (show bit? 65527 14 = true from rfl) (dropF_drop (show bit? 65527 13 = true from rfl) (dropF_drop (show bit? 65527 12 = true from rfl) (dropF_drop (show bit? 65527 11 = true from rfl) (dropF_drop (show bit? 65527 10 = true from rfl) (dropF_drop (show bit? 65527 9 = true from rfl) (dropF_drop (show bit? 65527 8 = true from rfl) (dropF_drop (show bit? 65527 7 = true from rfl) (dropF_drop (show bit? 65527 6 = true from rfl) (dropF_drop (show bit? 65527 5 = true from rfl) (dropF_drop (show bit? 65527 4 = true from rfl) (dropF_keep (show bit? 65527 3 = false from rfl) (dropF_drop (show bit? 65527 2 = true from rfl) (dropF_drop (show bit? 65527 1 = true from rfl) (dropF_drop (show bit? 65527 0 = true from rfl) rfl)))))))))))))))) ?_ (by rintro _ _ ⟨q, _⟩; cases q)
        rintro v54 h54 ⟨q, x54⟩
        cases q
        replace f52 := f52.ext x54
        replace f10 := f10.ext x54
        replace f15 := f15.ext x54
        replace e0 := e0.trans x54
        replace e2 := e2.trans x54
        replace e1 := e1.trans x54
        refine ⟨(recheck_cons (h2 := h54) rfl (ld30 rfl f52 rfl) (by first | rfl | exact sameA_int _ _ | exact sameA_bool _ | exact sameA_agg2 _ _ | assumption | (simp [sameA, sameAs, eqI_eq]; done)) recheck_nil), _, rfl, ?_⟩
        refine GoE.quiet rfl rfl (aOp_neqSpan spanT rfl rfl hne') rfl ?_
        refine GoE.quiet rfl rfl rfl rfl ?_
        refine GoE.end rfl ?_
        refine Go.cond noJ_ok (b := false) rfl ?_
        refine Go.code noJ_ok ?_
        refine Go.inBlock noJ_ok ?_
        refine Go.region noJ_ok rfl ?_
        refine GoR.op rfl rfl (aOp_add rfl rfl (by constructor <;> omega) rfl) rfl ?_
        refine GoR.op rfl rfl rfl rfl ?_
        refine GoR.end ?_
        exact again3 (m - 1) (d + 1) _ _ (by omega) ⟨rfl, rfl, rfl, rfl, rfl, trivial⟩ ⟨by omega, e0, e2⟩
      · refine Go.seq noJ_ok ?_
        refine Go.region noJ_ok rfl ?_
        refine GoR.op rfl rfl (aOp_lss rfl rfl (r := false) (decide_eq_false (by omega))) rfl ?_
        refine GoR.end ?_
        refine Go.seq noJ_ok ?_
        refine Go.cond noJ_ok (b := false) rfl ?_
        refine Go.code noJ_ok ?_
        refine Go.seq noJ_ok ?_
        refine Go.region JA_ok rfl ?_
        refine GoR.jump JA_ok rfl rfl (aOp_callFunc aFunc21 rfl) (v := .bool true) rfl rfl ?_
        refine GoR.op rfl rfl rfl rfl ?_
        refine GoR.end ?_
        exact Go.ret noJ_ok (ret_end (aResult_of Try.func7 rfl rfl) ⟨rfl, e0⟩)
end Go.Proofs.Ytmdheijpnlonoaa

namespace Go.AbsE
open Go Go.RowKit

/-! What a call is handed: windows on blocks that are there. -/
section
variable {P : Program}
theorem VRs.ints {e : Env} : ∀ l : List Int, VRs e (l.map fun x => AVal.int .i64 x) (l.map fun x => Value.int .i64 x) := by
  intro l
  induction l with
  | nil => exact .nil
  | cons a l ih => exact .cons (.int _ _) ih
/-- A window on a block. -/
theorem HR.openWin {e : Env} {h : AH} {W : World} (r : HR P (Base.all W) e h W) {B lo : Nat} {PRE CS junk : List Value} {el : TypeId} {fr : Nat × Nat} {cs : List AVal} (hB : W.heap[B]? = some (.cells (PRE ++ (CS ++ junk)).toArray el fr)) (hp : PRE.length = lo) (hv : ∀ e, VRs e cs CS) :
    ∃ e' h', Env.le e e' ∧ HR P (Base.all W) e' h' W ∧ Ext h h' ∧ e' h.next = some (B, 0) ∧ Has h' h.next (.win lo cs) := by
  obtain ⟨h', k⟩ := new_some h (.win lo cs)
  obtain ⟨_, x1, x2⟩ := new_ext k
  obtain ⟨n1, n2, n3⟩ := AH.get_new k
  have hle := Env.le_ext (x := (B, 0)) r.fresh
  have hlt := (Array.getElem?_eq_some_iff.1 hB).1
  refine ⟨e.ext h.next (B, 0), h', hle, ?_, x1, Env.ext_same _ _ _, x2⟩
  refine { dom := ?_, blk := ?_, inj := ?_, imm := ?_, os := r.os, tape := r.tape, output := r.output, size := r.size, old := r.old, young := r.young }
  · intro b' x kx
    rw [Env.ext_at] at kx
    by_cases hb' : b' = h.next
    · omega
    · rw [if_neg hb'] at kx; have := r.dom _ _ kx; omega
  · intro b' o' kx
    rw [n3] at kx
    by_cases hb' : b' = h.next
    · rw [if_pos hb'] at kx
      cases kx
      subst hb'
      exact ⟨B, 0, _, Env.ext_same _ _ _, (fun q => by cases q), hB, .win (hv _) hp⟩
    · rw [if_neg hb'] at kx
      obtain ⟨B', c', O', k1, k2, k3, k4⟩ := r.blk _ _ kx
      exact ⟨B', c', O', hle.1 _ _ k1, k2, k3, k4.mono hle⟩
  · intro b1 b2 B1 c1 c2 o1 o2 k1 k2 hro e1 e2
    rw [n3] at k1 k2
    rw [Env.ext_at] at e1 e2
    by_cases q1 : b1 = h.next
    · rw [if_pos q1] at k1; cases k1; cases hro
    · rw [if_neg q1] at k1 e1
      by_cases q2 : b2 = h.next
      · rw [if_pos q2] at e2
        cases e2
        obtain ⟨B', c', O', j1, j2, _, _⟩ := r.blk _ _ k1
        rw [e1] at j1
        cases j1
        exact absurd hlt (j2 hro)
      · rw [if_neg q2] at k2 e2
        exact r.inj _ _ _ _ _ _ _ k1 k2 hro e1 e2
  · intro B1 CS' hi
    obtain ⟨i1, i2⟩ := r.imm B1 CS' hi
    refine ⟨i1, fun b' o' c' kx hro ke => ?_⟩
    rw [n3] at kx
    rw [Env.ext_at] at ke
    by_cases q : b' = h.next
    · rw [if_pos q] at kx; cases kx; cases hro
    · rw [if_neg q] at kx ke; exact i2 b' o' c' kx hro ke

/-- Rows of numbers, one behind the other. -/
theorem rows_eq {C : List Value} {off sz : Nat} : ∀ (len : Nat) (f : Nat → List Int), (∀ i, i < len → (f i).length = sz ∧ ∀ k n, (f i)[k]? = some n → C[off + i * sz + k]? = some (.int .i64 n)) →
    (C.drop off).take (len * sz) = (((List.range len).map f).flatten).map fun x => Value.int .i64 x := by
  intro len
  induction len with
  | zero => intro f _; simp
  | succ len ih =>
    intro f hf
    have h1 := ih f fun i hi => hf i (by omega)
    obtain ⟨l1, l2⟩ := hf len (by omega)
    rw [Nat.add_mul, Nat.one_mul, List.take_add, h1, List.range_succ, List.map_append, List.flatten_append, List.map_append]
    congr 1
    simp only [List.map_cons, List.map_nil, List.flatten_cons, List.flatten_nil, List.append_nil]
    rw [List.drop_drop]
    refine List.ext_getElem? fun k => ?_
    rw [List.getElem?_take, List.getElem?_drop, List.getElem?_map]
    by_cases hk : k < sz
    · rw [if_pos hk]
      obtain ⟨n, hn⟩ : ∃ n, (f len)[k]? = some n := ⟨(f len)[k]'(by omega), by simp⟩
      rw [hn]
      exact l2 k n hn
    · rw [if_neg hk]
      have : (f len)[k]? = none := by simp; omega
      rw [this]
      rfl

/-- A slice of rows of numbers, as it is handed to a call. -/
theorem HR.openRows {e : Env} {h : AH} {W : World} (r : HR P (Base.all W) e h W) {a : Addr} {len cap sz : Nat} {C : Array Value} {el : TypeId} {fr : Nat × Nat} (hB : W.heap[a.block]? = some (.cells C el fr)) (hspot : a.spot = none) (f : Nat → List Int)
    (hf : ∀ i, i < len → (f i).length = sz ∧ ∀ k n, (f i)[k]? = some n → W.cell? (a.add (i * sz + k)) = some (.int .i64 n)) :
    ∃ e' h' s, Env.le e e' ∧ HR P (Base.all W) e' h' W ∧ Ext h h' ∧ VR e' s (.slice (some a) len cap) ∧ SliceOf h' sz s (((List.range len).map f).map fun l => l.map fun x => AVal.int .i64 x) ∧ sameA s s = true := by
  obtain ⟨B, off, spot⟩ := a
  dsimp only at hB hspot
  subst hspot
  have hcell : ∀ i, i < len → (f i).length = sz ∧ ∀ k n, (f i)[k]? = some n → C.toList[off + i * sz + k]? = some (.int .i64 n) := fun i hi => by
    obtain ⟨h1, h2⟩ := hf i hi
    refine ⟨h1, fun k n hn => ?_⟩
    have := h2 k n hn
    have e1 := addr_add B off (i * sz + k)
    rw [e1] at this
    unfold World.cell? at this
    rw [hB] at this
    simp only [Option.isSome_none, Bool.false_eq_true, if_false] at this
    rw [Array.getElem?_toList, Nat.add_assoc]
    exact this
  have hrows := rows_eq len f hcell
  let R := (List.range len).map f
  have hRl : ∀ l, l ∈ R → l.length = sz := fun l hl => by
    obtain ⟨i, hi, rfl⟩ := List.mem_map.1 hl
    exact (hf i (List.mem_range.1 hi)).1
  have hRlen : R.length = len := by simp [R]
  have hlen : (C.toList.drop off).take (len * sz) = (R.flatten).map fun x => Value.int .i64 x := hrows
  have hfl : R.flatten.length = len * sz := by
    have : ∀ {L : List (List Int)}, (∀ l, l ∈ L → l.length = sz) → L.flatten.length = L.length * sz := by
      intro L
      induction L with
      | nil => intro _; simp
      | cons a L ih => intro h; simp only [List.flatten_cons, List.length_append, h a (by simp), ih fun l q => h l (by simp [q]), List.length_cons, Nat.add_mul]; omega
    rw [this hRl, hRlen]
  by_cases h0 : len * sz = 0
  · -- nothing of it is read
    obtain ⟨e', h', k1, k2, k3, k4, k5⟩ := r.openWin (B := B) (lo := 0) (PRE := []) (CS := []) (junk := C.toList) (el := el) (fr := fr) (cs := []) (by simpa using hB) rfl (fun _ => .nil)
    refine ⟨e', h', .slice h.next off len cap, k1, k2, k3, .slice k4, .mk rfl rfl k5.1 (by simp) (fun l hl => ?_) ?_, by simp [sameA]⟩
    · obtain ⟨x, hx, rfl⟩ := List.mem_map.1 hl
      rw [List.length_map]
      exact hRl x hx
    · have hnil : R.flatten = [] := List.eq_nil_of_length_eq_zero (by omega)
      unfold loadCells
      rw [k5.2]
      have e1 : ((R.map fun l => l.map fun x => AVal.int .i64 x).length * sz) = 0 := by rw [List.length_map, hRlen]; exact h0
      have e2 : (R.map fun l => l.map fun x => AVal.int .i64 x).flatten = [] := by rw [← List.map_flatten, hnil]; rfl
      show cond (Nat.ble 0 off) (slice? [] (off - 0) ((R.map fun l => l.map fun x => AVal.int .i64 x).length * sz)) none = some _
      rw [e1, e2, show Nat.ble 0 off = true from Nat.ble_eq_true_of_le (Nat.zero_le _)]
      simp [slice?]
  · have hle : off + len * sz ≤ C.toList.length := by
      have : ((C.toList.drop off).take (len * sz)).length = len * sz := by rw [hlen, List.length_map, hfl]
      rw [List.length_take, List.length_drop] at this
      omega
    have hC : C = (C.toList.take off ++ ((R.flatten.map fun x => Value.int .i64 x) ++ C.toList.drop (off + len * sz))).toArray := by
      rw [← hlen]
      have : C.toList.take off ++ ((C.toList.drop off).take (len * sz) ++ C.toList.drop (off + len * sz)) = C.toList := by
        rw [← List.drop_drop, List.take_append_drop, List.take_append_drop]
      rw [this]
    obtain ⟨e', h', k1, k2, k3, k4, k5⟩ := r.openWin (B := B) (lo := off) (PRE := C.toList.take off) (CS := R.flatten.map fun x => Value.int .i64 x) (junk := C.toList.drop (off + len * sz)) (el := el) (fr := fr) (cs := R.flatten.map fun x => AVal.int .i64 x) (by rw [← hC]; exact hB) (by rw [List.length_take]; omega) (fun _ => VRs.ints _)
    refine ⟨e', h', .slice h.next off len cap, k1, k2, k3, .slice k4, .mk rfl rfl k5.1 (by simp) (fun l hl => ?_) ?_, by simp [sameA]⟩
    · obtain ⟨x, hx, rfl⟩ := List.mem_map.1 hl
      rw [List.length_map]
      exact hRl x hx
    · unfold loadCells
      rw [k5.2]
      have e1 : ((R.map fun l => l.map fun x => AVal.int .i64 x).length * sz) = len * sz := by rw [List.length_map, hRlen]
      have e2 : (R.map fun l => l.map fun x => AVal.int .i64 x).flatten = R.flatten.map fun x => AVal.int .i64 x := by rw [← List.map_flatten]
      show cond (Nat.ble off off) (slice? (R.flatten.map fun x => AVal.int .i64 x) (off - off) ((R.map fun l => l.map fun x => AVal.int .i64 x).length * sz)) none = some _
      rw [e1, e2, show Nat.ble off off = true from Nat.ble_eq_true_of_le (Nat.le_refl _), Nat.sub_self]
      exact slice_all (by rw [List.length_map, hfl])
end
end Go.AbsE

namespace Go.Proofs.Ytmdheijpnlonoaa
open Go Go.AbsE Go.ChangeShapes Go.WideShapes Go.ChangeAt Go.RowKit
set_option linter.unusedSimpArgs false
set_option maxRecDepth 100000
set_option linter.unusedVariables false

/-! Heaps, as they are handed to a law. -/
theorem cells27 : Try.prog.cellsOf 27 = 7 := by kernel_rfl
theorem cells3 : Try.prog.cellsOf 3 = 1 := by kernel_rfl
theorem cells63 : Try.prog.cellsOf 63 = 3 := by kernel_rfl
theorem cells59 : Try.prog.cellsOf 59 = 4 := by kernel_rfl
theorem cells30 : Try.prog.cellsOf 30 = 2 := by kernel_rfl
theorem cells22 : Try.prog.cellsOf 22 = 1 := by kernel_rfl
theorem cells23 : Try.prog.cellsOf 23 = 1 := by kernel_rfl
theorem cells24 : Try.prog.cellsOf 24 = 3 := by kernel_rfl
theorem cells25 : Try.prog.cellsOf 25 = 1 := by kernel_rfl
theorem ctypes27 : Try.prog.cellTypes Try.prog.depth 27 = some [22, 23, 3, 3, 3, 3, 25] := by kernel_rfl
theorem laidOut : laidOutB Try.prog = true := by kernel_rfl
def inI64 (n : Int) : Prop := -9223372036854775808 ≤ n ∧ n ≤ 9223372036854775807

theorem wf_in {n : Int} (h : (Lit.int .i64 n).wf = true) : inI64 n := by
  simp only [Lit.wf, Bool.and_eq_true, decide_eq_true_eq] at h
  have h1 : IntKind.i64.min = -9223372036854775808 := by decide
  have h2 : IntKind.i64.max = 9223372036854775807 := by decide
  rw [h1, h2] at h
  constructor <;> omega
variable {H : Type} {enc : TypeId × Value → H} {W : World} {base : Nat} {spare : Nat → Bool} {held : Bool}
theorem int_row {n : Nat} {cs : List Value} {x : DataW H × List MemPlace} (h : DataW.trod enc Try.prog W base spare held n 3 cs = some x) : ∃ a : Int, cs = [.int .i64 a] ∧ inI64 a := by
  obtain ⟨a, h1, _, h3⟩ := DataW.trod_int Try.underlying3 h
  exact ⟨a, h1, wf_in h3⟩
theorem span_row {n : Nat} {cs : List Value} {x : DataW H × List MemPlace} (h : DataW.trod enc Try.prog W base spare held n 30 cs = some x) : ∃ a b : Int, cs = [.int .i64 a, .int .i64 b] := by
  obtain ⟨y0, y1, k, _, hl, h0, h1⟩ := ChangeShapes.trod_struct2 Try.underlying30 h
  rw [cells30] at hl
  dsimp only at h0 h1
  rw [cells3] at h0 h1
  obtain ⟨a, ha, _⟩ := int_row h0
  obtain ⟨b, hb, _⟩ := int_row h1
  match cs, hl with
  | [c0, c1], _ =>
    simp at ha hb
    exact ⟨a, b, by rw [ha, hb]⟩
theorem rain_row {n : Nat} {cs : List Value} {x : DataW H × List MemPlace} (h : DataW.trod enc Try.prog W base spare held n 30 cs = some x) : ∃ r : List Int, r.length = 2 ∧ cs = r.map fun x => Value.int .i64 x := by
  obtain ⟨a, b, q⟩ := span_row h
  exact ⟨[a, b], rfl, q⟩
theorem hturf_row {n : Nat} {cs : List Value} {x : DataW H × List MemPlace} (h : DataW.trod enc Try.prog W base spare held n 63 cs = some x) : ∃ r : List Int, r.length = 3 ∧ cs = r.map fun x => Value.int .i64 x := by
  obtain ⟨y0, y1, k, _, hl, h0, h1⟩ := ChangeShapes.trod_struct2 Try.underlying63 h
  rw [cells63] at hl
  dsimp only at h0 h1
  rw [cells3] at h0
  rw [cells30] at h1
  obtain ⟨a, ha, _⟩ := int_row h0
  obtain ⟨b, c, hb⟩ := span_row h1
  match cs, hl with
  | [c0, c1, c2], _ =>
    simp at ha hb
    exact ⟨[a, b, c], rfl, by rw [ha, hb.1, hb.2]; rfl⟩
theorem look_row {n : Nat} {cs : List Value} {x : DataW H × List MemPlace} (h : DataW.trod enc Try.prog W base spare held n 59 cs = some x) : ∃ r : List Int, r.length = 4 ∧ cs = r.map fun x => Value.int .i64 x := by
  obtain ⟨xs, k, _, _, hl, _, hf⟩ := DataW.trod_struct Try.underlying59 h
  rw [cells59] at hl
  have h0 : DataW.trod enc Try.prog W base spare held k 3 ((cs.drop 0).take (Try.prog.cellsOf 3)) = xs[0]? := hf 0 _ rfl
  have h1 : DataW.trod enc Try.prog W base spare held k 3 ((cs.drop 1).take (Try.prog.cellsOf 3)) = xs[1]? := hf 1 _ rfl
  have h2 : DataW.trod enc Try.prog W base spare held k 30 ((cs.drop 2).take (Try.prog.cellsOf 30)) = xs[2]? := hf 2 _ rfl
  rw [cells3] at h0 h1
  rw [cells30] at h2
  have hx : xs.length = 3 := by assumption
  match xs, hx with
  | [x0, x1, x2], _ =>
    obtain ⟨a, ha, _⟩ := int_row (x := x0) h0
    obtain ⟨b, hb, _⟩ := int_row (x := x1) h1
    obtain ⟨d, e, hd⟩ := span_row (x := x2) h2
    match cs, hl with
    | [c0, c1, c2, c3], _ =>
      simp at ha hb hd
      exact ⟨[a, b, d, e], rfl, by rw [ha, hb, hd.1, hd.2]; rfl⟩

theorem slice_okw {t el : TypeId} {a : Addr} {len cap : Nat} {bs : Nat} (ht : Try.prog.underlying t = some (.slice el)) (h : Cell.okWide Try.prog W .any bs t (.slice (some a) len cap)) : a.spot = none ∧ ∃ C e fr, W.heap[a.block]? = some (.cells C e fr) := by
  unfold Cell.okWide at h
  rw [ht] at h
  dsimp only at h
  unfold Cell.ok at h
  rw [ht] at h
  dsimp only at h
  obtain ⟨_, _, _, h2, row, n, h3, _⟩ := h
  refine ⟨h2, ?_⟩
  unfold World.shape? at h3
  split at h3
  · rename_i c e fr hq
    exact ⟨c, e, fr, hq⟩
  · cases h3

/-- Rows of a slice, as windows. -/
theorem rows_of {t el : TypeId} {sz fuel : Nat} {c : Value} {y : DataW H × List MemPlace} {bs : Nat} (ht : Try.prog.underlying t = some (.slice el)) (hsz : Try.prog.cellsOf el = sz)
    (hrow : ∀ {n : Nat} {cs : List Value} {x : DataW H × List MemPlace}, DataW.trod enc Try.prog W 0 (fun _ => true) true n el cs = some x → ∃ r : List Int, r.length = sz ∧ cs = r.map fun x => Value.int .i64 x)
    (h : DataW.trod enc Try.prog W 0 (fun _ => true) true fuel t [c] = some y) (hok : Cell.okWide Try.prog W .any bs t c) {e : Env} {hh : AH} (r : HR Try.prog (Base.all W) e hh W) :
    ∃ e' h' s, ∃ R : List (List Int), Env.le e e' ∧ HR Try.prog (Base.all W) e' h' W ∧ Ext hh h' ∧ VR e' s c ∧ (∀ l, l ∈ R → l.length = sz) ∧ SliceOf h' sz s (R.map fun l => l.map fun x => AVal.int .i64 x) ∧ sameA s s = true := by
  rcases Deep.open_slice ht h with ⟨hcs, _⟩ | ⟨a, len, cap, m, n, D, Pl, hcs, _, hl, _, hmm, _, hx⟩
  · simp at hcs
    subst hcs
    exact ⟨e, hh, .nilslice, [], Env.le_refl e, r, Ext.refl _, .nilslice, (fun _ q => by cases q), .nil, rfl⟩
  · simp at hcs
    subst hcs
    obtain ⟨hs, C, el', fr, hB⟩ := slice_okw ht hok
    have hm : m = cap := by simpa using hmm
    have each : ∀ i, ∃ rr : List Int, i < len → rr.length = sz ∧ ∀ k n, rr[k]? = some n → W.cell? (a.add (i * sz + k)) = some (.int .i64 n) := by
      intro i
      by_cases hi : i < len
      · obtain ⟨cs', h1, h2⟩ := hx i (by omega)
        obtain ⟨rr, hr1, hr2⟩ := hrow h2
        rw [hsz] at h1
        obtain ⟨_, hlen, hc⟩ := World.cells?_some h1
        refine ⟨rr, fun _ => ⟨hr1, fun k n hk => ?_⟩⟩
        have hkl := (List.getElem?_eq_some_iff.1 hk).1
        have := hc k (by omega)
        obtain ⟨B, off, spot⟩ := a
        dsimp only at hs
        subst hs
        rw [addr_add, addr_add] at this
        rw [addr_add, ← Nat.add_assoc, this, hr2, List.getElem?_map, hk]
        rfl
      · exact ⟨[], fun q => absurd q hi⟩
    obtain ⟨f, hf⟩ := Classical.axiomOfChoice each
    obtain ⟨e', h', s, k1, k2, k3, k4, k5, k6⟩ := r.openRows (cap := cap) (len := len) hB hs f hf
    exact ⟨e', h', s, (List.range len).map f, k1, k2, k3, k4, fun l hl => by
      obtain ⟨i, hi, rfl⟩ := List.mem_map.1 hl
      exact (hf i (List.mem_range.1 hi)).1, k5, k6⟩

def toH : List Int → HTurf
  | [a, b, c] => ⟨a, b, c⟩
  | _ => ⟨0, 0, 0⟩
def toR : List Int → Int × Int
  | [a, b] => (a, b)
  | _ => (0, 0)
def toL : List Int → LookV
  | [a, b, c, d] => ⟨a, b, c, d⟩
  | _ => ⟨0, 0, 0, 0⟩
theorem hs_eq {R : List (List Int)} (h : ∀ l, l ∈ R → l.length = 3) : (R.map fun l => l.map fun x => AVal.int .i64 x) = (R.map toH).map HTurf.cells := by
  rw [List.map_map]
  refine List.map_congr_left fun l hl => ?_
  match l, h l hl with
  | [a, b, c], _ => rfl
theorem rs_eq {R : List (List Int)} (h : ∀ l, l ∈ R → l.length = 2) : (R.map fun l => l.map fun x => AVal.int .i64 x) = (R.map toR).map spC := by
  rw [List.map_map]
  refine List.map_congr_left fun l hl => ?_
  match l, h l hl with
  | [a, b], _ => rfl
theorem ls_eq {R : List (List Int)} (h : ∀ l, l ∈ R → l.length = 4) : (R.map fun l => l.map fun x => AVal.int .i64 x) = (R.map toL).map LookV.cells := by
  rw [List.map_map]
  refine List.map_congr_left fun l hl => ?_
  match l, h l hl with
  | [a, b, c, d], _ => rfl
theorem array7 {α : Type} {cs : Array α} (h : cs.size = 7) : ∃ c0 c1 c2 c3 c4 c5 c6, cs = #[c0, c1, c2, c3, c4, c5, c6] := by
  obtain ⟨l⟩ := cs
  match l, h with
  | [c0, c1, c2, c3, c4, c5, c6], _ => exact ⟨c0, c1, c2, c3, c4, c5, c6, rfl⟩
theorem list5 {α : Type} {l : List α} (h : l.length = 5) : ∃ c0 c1 c2 c3 c4, l = [c0, c1, c2, c3, c4] := by
  match l, h with
  | [c0, c1, c2, c3, c4], _ => exact ⟨c0, c1, c2, c3, c4, rfl⟩

/-- Heaps that are handed over. -/
theorem heap_of {bs : Nat} {v : Value} {d : DataW H} {p : List MemPlace} (hv : Value.okWide Try.prog W .any bs 27 v) (h : DataW.Trod enc Try.prog W 0 (fun _ => true) true 27 v d p) {e : Env} {hh : AH} (r : HR Try.prog (Base.all W) e hh W) :
    ∃ e' h' F hsl rsl lsl, Env.le e e' ∧ HR Try.prog (Base.all W) e' h' W ∧ Ext hh h' ∧ VR e' (.agg (FieldV.cells F hsl rsl lsl)) v ∧ FieldAt h' F hsl rsl lsl := by
  have hv2 := hv
  obtain ⟨cs, rfl, hsz⟩ := okWide_struct Try.underlying27 hv
  obtain ⟨c0, c1, c2, c3, c4, c5, c6, rfl⟩ := array7 (hsz.trans cells27)
  obtain ⟨fuel, hf⟩ := h
  obtain ⟨xs, n, _, _, hl, hlen, hfl⟩ := DataW.trod_struct Try.underlying27 hf
  obtain ⟨y0, y1, y2, y3, y4, rfl⟩ := list5 hlen
  have t0 : DataW.trod enc Try.prog W 0 (fun _ => true) true n 22 [c0] = some y0 := by
    have this : DataW.trod enc Try.prog W 0 (fun _ => true) true n 22 (([c0, c1, c2, c3, c4, c5, c6].drop 0).take (Try.prog.cellsOf 22)) = [y0, y1, y2, y3, y4][0]? := hfl 0 _ rfl
    rw [cells22] at this
    exact this
  have t1 : DataW.trod enc Try.prog W 0 (fun _ => true) true n 23 [c1] = some y1 := by
    have this : DataW.trod enc Try.prog W 0 (fun _ => true) true n 23 (([c0, c1, c2, c3, c4, c5, c6].drop 1).take (Try.prog.cellsOf 23)) = [y0, y1, y2, y3, y4][1]? := hfl 1 _ rfl
    rw [cells23] at this
    exact this
  have t2 : DataW.trod enc Try.prog W 0 (fun _ => true) true n 24 [c2, c3, c4] = some y2 := by
    have this : DataW.trod enc Try.prog W 0 (fun _ => true) true n 24 (([c0, c1, c2, c3, c4, c5, c6].drop 2).take (Try.prog.cellsOf 24)) = [y0, y1, y2, y3, y4][2]? := hfl 2 _ rfl
    rw [cells24] at this
    exact this
  have t3 : DataW.trod enc Try.prog W 0 (fun _ => true) true n 3 [c5] = some y3 := by
    have this : DataW.trod enc Try.prog W 0 (fun _ => true) true n 3 (([c0, c1, c2, c3, c4, c5, c6].drop 5).take (Try.prog.cellsOf 3)) = [y0, y1, y2, y3, y4][3]? := hfl 3 _ rfl
    rw [cells3] at this
    exact this
  have t4 : DataW.trod enc Try.prog W 0 (fun _ => true) true n 25 [c6] = some y4 := by
    have this : DataW.trod enc Try.prog W 0 (fun _ => true) true n 25 (([c0, c1, c2, c3, c4, c5, c6].drop 6).take (Try.prog.cellsOf 25)) = [y0, y1, y2, y3, y4][4]? := hfl 4 _ rfl
    rw [cells25] at this
    exact this
  obtain ⟨z0, z1, z2, n2, _, g0, g1, g2⟩ := trod_array3 Try.underlying24 cells3 t2
  obtain ⟨da, e2, _⟩ := int_row g0
  obtain ⟨db, e3, _⟩ := int_row g1
  obtain ⟨dc, e4, _⟩ := int_row g2
  obtain ⟨lim, e5, _⟩ := int_row t3
  simp at e2 e3 e4 e5
  subst e2 e3 e4 e5
  unfold Value.okWide at hv2
  rw [Try.underlying27] at hv2
  obtain ⟨cs, hcs, _, ts, hts, _, hrow⟩ := hv2
  injection hcs with hcs
  subst hcs
  rw [ctypes27] at hts
  cases hts
  obtain ⟨u0, hu0, ok0⟩ := hrow 0 c0 rfl
  obtain ⟨u1, hu1, ok1⟩ := hrow 1 c1 rfl
  obtain ⟨u6, hu6, ok6⟩ := hrow 6 c6 rfl
  cases hu0
  cases hu1
  cases hu6
  obtain ⟨ea, ha, s0, R0, a1, a2, a3, a4, a5, a6, a7⟩ := rows_of Try.underlying22 cells63 hturf_row t0 ok0 r
  obtain ⟨eb, hb, s1, R1, b1, b2, b3, b4, b5, b6, b7⟩ := rows_of Try.underlying23 cells30 rain_row t1 ok1 a2
  obtain ⟨ec, hc, s2, R2, k1, k2, k3, k4, k5, k6, k7⟩ := rows_of Try.underlying25 cells59 look_row t4 ok6 b2
  rw [hs_eq a5] at a6
  rw [rs_eq b5] at b6
  rw [ls_eq k5] at k6
  refine ⟨ec, hc, ⟨R0.map toH, R1.map toR, da, db, dc, lim, R2.map toL⟩, s0, s1, s2, Env.le_trans a1 (Env.le_trans b1 k1), k2, a3.trans (b3.trans k3), ?_, ⟨a6.ext (b3.trans k3), b6.ext k3, k6⟩⟩
  exact .agg (CS := [_, _, _, _, _, _, _]) (.cons (a4.mono (Env.le_trans b1 k1)) (.cons (b4.mono k1) (.cons (.int _ _) (.cons (.int _ _) (.cons (.int _ _) (.cons (.int _ _) (.cons k4 .nil)))))))
end Go.Proofs.Ytmdheijpnlonoaa
