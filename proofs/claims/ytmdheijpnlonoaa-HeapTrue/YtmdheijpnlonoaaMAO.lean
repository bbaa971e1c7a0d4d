import Derived.Test.YtmdheijpnlonoaaMAN
import Derived.KernelRfl
import Derived.Test.YtmdheijpnlonoaaMAH
namespace Go.Proofs.Ytmdheijpnlonoaa
open Go Go.AbsE
set_option linter.unusedSimpArgs false
set_option maxRecDepth 100000
noncomputable def knownA : List Go.AbsE.Ent := [entA1, entA2, entA3, entA4, entA5, entA6, entA7, entA8]
theorem knownAOk : JOk Try.prog (tblJ knownA) := tbl_ok (l := knownA) (EntOk.cons entA1Ok (EntOk.cons entA2Ok (EntOk.cons entA3Ok (EntOk.cons entA4Ok (EntOk.cons entA5Ok (EntOk.cons entA6Ok (EntOk.cons entA7Ok (EntOk.cons entA8Ok (EntOk.nil)))))))))
noncomputable def entAlive : Go.AbsE.Ent := ⟨21, [], [], .bool true⟩
theorem aliveOk : EntOk Try.prog entAlive := entRun_ok (orJ_ok JW_ok knownAOk) (fuel := 1000000) (by kernel_rfl)
noncomputable def JA : Jump := tblJ [entAlive]
theorem JA_ok : JOk Try.prog JA := tbl_ok (EntOk.cons aliveOk EntOk.nil)
end Go.Proofs.Ytmdheijpnlonoaa

namespace Go.Proofs.Ytmdheijpnlonoaa
open Go Go.AbsE
set_option linter.unusedSimpArgs false
set_option maxRecDepth 100000
set_option maxHeartbeats 0
set_option linter.unusedVariables false
theorem long_ok (F : FieldV) (hsl rsl lsl : AVal) (n1 n2 n3 : Nat) (h1 : lenA hsl = some n1) (h2 : lenA rsl = some n2) (h3 : lenA lsl = some n3) {r : Bool} (hr : decide (40 < n1 ∨ 40 < n2 ∨ 40 < n3) = r) (h : AH) :
    Runs Try.prog 22 [.agg (F.cells hsl rsl lsl)] h (fun en h' => en = .ret (.bool r) ∧ Ext h h') := by
  unfold FieldV.cells fieldC
  obtain ⟨m, hm⟩ : ∃ m : Int, (if (if ((n1 : Nat) : Int) < (n2 : Nat) then ((n2 : Nat) : Int) else (n1 : Nat)) < (n3 : Nat) then ((n3 : Nat) : Int) else (if ((n1 : Nat) : Int) < (n2 : Nat) then ((n2 : Nat) : Int) else (n1 : Nat))) = m := ⟨_, rfl⟩
  have hr' : decide (40 < m) = r := by
    rw [← hr]
    refine decide_eq_decide.2 ?_
    rw [← hm]
    split <;> split <;> omega
  refine Runs.intro aFunc22 rfl rfl rfl rfl fun rest => ?_
  refine Go.seq noJ_ok ?_
  refine Go.region noJ_ok rfl ?_
  refine GoR.box rfl rfl rfl rfl rfl rfl fun h4 x4 f4 => ?_
  have e0 := x4
  have := f4.1
  refine GoR.op rfl rfl rfl rfl ?_
  refine GoR.end ?_
  refine Go.seq noJ_ok ?_
  refine Go.region noJ_ok rfl ?_
  refine GoR.op rfl rfl (fa27_0 rfl) rfl ?_
  refine GoR.op rfl rfl (ld22 rfl f4 rfl) rfl ?_
  refine GoR.op rfl rfl (aOp_lenSlice Try.underlying22 rfl h1) rfl ?_
  refine GoR.op rfl rfl (fa27_1 rfl) rfl ?_
  refine GoR.op rfl rfl (ld23 rfl f4 rfl) rfl ?_
  refine GoR.op rfl rfl (aOp_lenSlice Try.underlying23 rfl h2) rfl ?_
  refine GoR.op rfl rfl (fa27_4 rfl) rfl ?_
  refine GoR.op rfl rfl (ld25 rfl f4 rfl) rfl ?_
  refine GoR.op rfl rfl (aOp_lenSlice Try.underlying25 rfl h3) rfl ?_
  refine GoR.op rfl rfl (aOp_max3 rfl rfl rfl hm) rfl ?_
  refine GoR.op rfl rfl (aOp_gtr rfl rfl hr') rfl ?_
  refine GoR.op rfl rfl rfl rfl ?_
  refine GoR.end ?_
  exact Go.ret noJ_ok (ret_end (aResult_of Try.func22 rfl rfl) ⟨rfl, e0⟩)
def FieldV.apart (F : FieldV) (k d : Nat) : Int := (F.wet (k : Nat) d).2 - (F.wet (k : Nat) d).1
end Go.Proofs.Ytmdheijpnlonoaa

namespace Go.Proofs.Ytmdheijpnlonoaa
open Go Go.AbsE
set_option linter.unusedSimpArgs false
set_option maxRecDepth 100000
set_option maxHeartbeats 0
set_option linter.unusedVariables false
theorem foldl_lo : ∀ (l : List (Int × Int)) (a : Int × Int), (∀ p, p = a ∨ p ∈ l → (l.foldl joinP a).1 ≤ p.1) ∧ ∃ p, (p = a ∨ p ∈ l) ∧ (l.foldl joinP a).1 = p.1
  | [], a => ⟨fun p hp => (by
      rcases hp with rfl | hp
      · exact Int.le_refl _
      · cases hp), a, Or.inl rfl, rfl⟩
  | x :: l, a => by
    obtain ⟨h1, p, hp, h2⟩ := foldl_lo l (joinP a x)
    have hj : (joinP a x).1 ≤ a.1 ∧ (joinP a x).1 ≤ x.1 ∧ ((joinP a x).1 = a.1 ∨ (joinP a x).1 = x.1) := by
      unfold joinP; dsimp only; split <;> omega
    have h0 := h1 _ (.inl rfl)
    rw [List.foldl_cons]
    refine ⟨fun q hq => ?_, ?_⟩
    · rcases hq with hq | hq
      · rw [hq]; omega
      · rcases List.mem_cons.1 hq with hq | hq
        · rw [hq]; omega
        · exact h1 q (.inr hq)
    · rcases hp with hp | hp
      · rw [hp] at h2
        rcases hj.2.2 with k | k
        · exact ⟨a, .inl rfl, by omega⟩
        · exact ⟨x, .inr (by simp), by omega⟩
      · exact ⟨p, .inr (by simp [hp]), h2⟩
theorem foldl_hi : ∀ (l : List (Int × Int)) (a : Int × Int), (∀ p, p = a ∨ p ∈ l → p.2 ≤ (l.foldl joinP a).2) ∧ ∃ p, (p = a ∨ p ∈ l) ∧ (l.foldl joinP a).2 = p.2
  | [], a => ⟨fun p hp => (by
      rcases hp with rfl | hp
      · exact Int.le_refl _
      · cases hp), a, Or.inl rfl, rfl⟩
  | x :: l, a => by
    obtain ⟨h1, p, hp, h2⟩ := foldl_hi l (joinP a x)
    have hj : a.2 ≤ (joinP a x).2 ∧ x.2 ≤ (joinP a x).2 ∧ ((joinP a x).2 = a.2 ∨ (joinP a x).2 = x.2) := by
      unfold joinP; dsimp only; split <;> omega
    have h0 := h1 _ (.inl rfl)
    rw [List.foldl_cons]
    refine ⟨fun q hq => ?_, ?_⟩
    · rcases hq with hq | hq
      · rw [hq]; omega
      · rcases List.mem_cons.1 hq with hq | hq
        · rw [hq]; omega
        · exact h1 q (.inr hq)
    · rcases hp with hp | hp
      · rw [hp] at h2
        rcases hj.2.2 with k | k
        · exact ⟨a, .inl rfl, by omega⟩
        · exact ⟨x, .inr (by simp), by omega⟩
      · exact ⟨p, .inr (by simp [hp]), h2⟩
theorem joinL_ends {l : List (Int × Int)} (hl : ∀ p, p ∈ l → NG p) (hg : ∃ p, p ∈ l ∧ Good p) :
    (∀ p, p ∈ l → (joinL l).1 ≤ p.1 ∧ p.2 ≤ (joinL l).2) ∧ (∃ p, p ∈ l ∧ Good p ∧ (joinL l).1 = p.1) ∧ (∃ p, p ∈ l ∧ Good p ∧ (joinL l).2 = p.2) := by
  obtain ⟨g, hgl, hgg⟩ := hg
  obtain ⟨a1, p, hp, a2⟩ := foldl_lo l noSp
  obtain ⟨b1, q, hq, b2⟩ := foldl_hi l noSp
  have a3 := a1 g (.inr hgl)
  have b3 := b1 g (.inr hgl)
  unfold Good at hgg
  have n1 : noSp.1 = 9223372036854775807 := rfl
  have n2 : noSp.2 = -9223372036854775808 := rfl
  refine ⟨fun x hx => ⟨a1 x (.inr hx), b1 x (.inr hx)⟩, ?_, ?_⟩
  · rcases hp with hp | hp
    · rw [hp] at a2; omega
    · rcases hl p hp with k | k
      · rw [k] at a2; omega
      · exact ⟨p, hp, k, a2⟩
  · rcases hq with hq | hq
    · rw [hq] at b2; omega
    · rcases hl q hq with k | k
      · rw [k] at b2; omega
      · exact ⟨q, hq, k, b2⟩
theorem fold_get {n d : Nat} (hd : d < n) (hd6 : d < 6) : ∀ (l : List (List Int)) (st : List (Int × Int)), InSp ((st[d]?).getD noE) → (∀ x, x ∈ l → InSp (atD x d, atD x d)) →
    ((l.foldl (fun st x => stepE n x st) st)[d]?).getD noE = (l.map fun x => (atD x d, atD x d)).foldl joinP ((st[d]?).getD noE)
  | [], st, _, _ => rfl
  | x :: l, st, h, hl => by
    have hx : ((stepE n x st)[d]?).getD noE = joinP ((st[d]?).getD noE) (atD x d, atD x d) := by
      unfold stepE
      rw [range_at _ hd6, if_pos hd, Option.getD_some, joinL_two h]
    rw [List.foldl_cons, fold_get hd hd6 l _ (by rw [hx]; exact joinP_in h (hl x (by simp))) fun y hy => hl y (by simp [hy]), hx]
    rfl
theorem atD_mem {c : List Int} {d : Nat} (hd : d < c.length) : atD c d ∈ c := by
  unfold atD
  have : c[d]? = some (c[d]'hd) := by simp
  rw [this]
  exact List.getElem_mem _
theorem evL_at {a b c : Int} {t : TurfV} {rs : List Int} {d : Nat} (hd : d < rs.length) (hn : rs.length ≤ 6) : ((evL a b c t rs)[d]?).getD noE = joinL ((rightC a b c t rs).map fun x => (atD x d, atD x d)) := by
  unfold evL
  have hs : ((startE rs.length)[d]?).getD noE = noSp := by
    unfold startE
    rw [range_at _ (by omega), if_pos hd]
    rfl
  rw [fold_get hd (by omega) _ _ (by rw [hs]; exact noSp_in) ?_, hs]
  · rfl
  · intro x hx
    have h6 := rightC_len hn hx
    have := rightC_in hx _ (atD_mem (d := d) (by omega))
    unfold InSp
    dsimp only
    omega
theorem right_good {a b c : Int} {t : TurfV} {rs : List Int} {d : Nat} (hd : d < rs.length) (hn : rs.length ≤ 6) {x : List Int} (hx : x ∈ rightC a b c t rs) : Good (atD x d, atD x d) := by
  have h6 := rightC_len hn hx
  have := rightC_in hx _ (atD_mem (d := d) (by omega))
  unfold Good
  dsimp only
  omega
theorem evL_ends {a b c : Int} {t : TurfV} {rs : List Int} {d : Nat} (hd : d < rs.length) (hn : rs.length ≤ 6) (hp : possB a b c t rs = true) :
    (∀ x, x ∈ rightC a b c t rs → (((evL a b c t rs)[d]?).getD noE).1 ≤ atD x d ∧ atD x d ≤ (((evL a b c t rs)[d]?).getD noE).2) ∧
    (∃ x, x ∈ rightC a b c t rs ∧ (((evL a b c t rs)[d]?).getD noE).1 = atD x d) ∧ (∃ x, x ∈ rightC a b c t rs ∧ (((evL a b c t rs)[d]?).getD noE).2 = atD x d) := by
  rw [evL_at hd hn]
  have hne : rightC a b c t rs ≠ [] := by
    intro q
    unfold possB at hp
    rw [q] at hp
    cases hp
  obtain ⟨y, hy⟩ := List.exists_mem_of_ne_nil _ hne
  obtain ⟨j1, ⟨p, hp1, _, hp2⟩, q, hq1, _, hq2⟩ := joinL_ends (l := (rightC a b c t rs).map fun x => (atD x d, atD x d))
    (fun p hp => by obtain ⟨x, hx, rfl⟩ := List.mem_map.1 hp; exact .inr (right_good hd hn hx)) ⟨_, List.mem_map.2 ⟨y, hy, rfl⟩, right_good hd hn hy⟩
  obtain ⟨x, hx, rfl⟩ := List.mem_map.1 hp1
  obtain ⟨z, hz, rfl⟩ := List.mem_map.1 hq1
  exact ⟨fun x hx => j1 _ (List.mem_map.2 ⟨x, hx, rfl⟩), ⟨x, hx, hp2⟩, z, hz, hq2⟩
def FieldV.fell (F : FieldV) (l : List Int) : Prop := l ∈ falls F.rs ∧ ∀ T, T ∈ F.ts → possB F.a F.b F.c T l = true
def FieldV.val (F : FieldV) (i d : Nat) (v : Int) : Prop := ∃ l T c, F.fell l ∧ F.ts[i]? = some T ∧ c ∈ rightC F.a F.b F.c T l ∧ v = atD c d
theorem ents_all {F : FieldV} {x : Ent} (h : x ∈ F.ents) : ∃ (l : List Int) (i : Nat) (T : TurfV), F.fell l ∧ F.ts[i]? = some T ∧ x = ((i : Int), padF l, evL F.a F.b F.c T l) := by
  obtain ⟨l, hl, hx⟩ := List.mem_flatMap.1 h
  have hx2 := entsOf_mem hx
  unfold entsOf at hx
  split at hx
  · cases hx
  · rename_i hany
    obtain ⟨i, hi, rfl⟩ := List.mem_mapIdx.1 hx2
    refine ⟨l, i, F.ts[i], ⟨hl, fun T hT => ?_⟩, by simp, rfl⟩
    cases q : possB F.a F.b F.c T l with
    | true => rfl
    | false => exact absurd (List.any_eq_true.2 ⟨T, hT, by rw [q]; rfl⟩) hany
theorem fell_ent {F : FieldV} {l : List Int} (h : F.fell l) {i : Nat} {T : TurfV} (hT : F.ts[i]? = some T) : ((i : Int), padF l, evL F.a F.b F.c T l) ∈ F.ents := by
  refine List.mem_flatMap.2 ⟨l, h.1, ?_⟩
  unfold entsOf
  rw [if_neg ?_]
  · exact List.mem_of_getElem? (entsF_at hT)
  · intro q
    obtain ⟨T, hT, k⟩ := List.any_eq_true.1 q
    rw [h.2 T hT] at k
    cases k
theorem fell_ne {F : FieldV} (O : F.Ok) {l : List Int} (h : F.fell l) : F.ents ≠ [] := by
  have hts : F.ts.length = F.hs.length := turfsOf_len _ _
  have := O.nh
  have h0 : F.ts[0]? = some (F.ts[0]'(by omega)) := by simp
  intro q
  have := fell_ent h h0
  rw [q] at this
  cases this
theorem ne_fell {F : FieldV} (h : F.ents ≠ []) : ∃ l, F.fell l := by
  obtain ⟨x, hx⟩ := List.exists_mem_of_ne_nil _ h
  obtain ⟨l, _, _, k, _⟩ := ents_all hx
  exact ⟨l, k⟩
theorem wet_ends {F : FieldV} (O : F.Ok) (hne : F.ents ≠ []) {i d : Nat} (hi : i < F.hs.length) (hd : d < F.rs.length) :
    (∀ v, F.val i d v → (F.wet i d).1 ≤ v ∧ v ≤ (F.wet i d).2) ∧ F.val i d (F.wet i d).1 ∧ F.val i d (F.wet i d).2 := by
  have hn6 := O.nr.2
  have hts : F.ts.length = F.hs.length := turfsOf_len _ _
  have hget : ∀ l T, l ∈ falls F.rs → ((evL F.a F.b F.c T l)[d]?).getD noSp = ((evL F.a F.b F.c T l)[d]?).getD noE := by
    intro l T hl
    have h6 := evL_len F.a F.b F.c T l
    have : (evL F.a F.b F.c T l)[d]? = some ((evL F.a F.b F.c T l)[d]'(by omega)) := by simp
    rw [this]
    rfl
  have hev : ∀ l T, F.fell l → T ∈ F.ts → Good (((evL F.a F.b F.c T l)[d]?).getD noE) := by
    intro l T hl hT
    have hll := falls_len hl.1
    exact evL_good (by omega) (hl.2 T hT) (by omega)
  obtain ⟨l0, hl0⟩ := ne_fell hne
  have hTi : F.ts[i]? = some (F.ts[i]'(by omega)) := by simp
  obtain ⟨j1, ⟨p, hp1, hp3, hp2⟩, q, hq1, hq3, hq2⟩ := joinL_ends (l := F.ents.map fun x => if x.1 = (i : Int) then (x.2.2[d]?).getD noSp else noSp)
    (fun p hp => by
      obtain ⟨x, hx, rfl⟩ := List.mem_map.1 hp
      obtain ⟨l, k, T, hl, hT, rfl⟩ := ents_all hx
      split
      · dsimp only
        rw [hget l T hl.1]
        exact .inr (hev l T hl (List.mem_of_getElem? hT))
      · exact .inl rfl)
    ⟨_, List.mem_map.2 ⟨_, fell_ent hl0 hTi, rfl⟩, by
      dsimp only
      rw [if_pos rfl, hget _ _ hl0.1]
      exact hev _ _ hl0 (List.mem_of_getElem? hTi)⟩
  have hng : ¬ Good noSp := by unfold Good noSp; omega
  have back : ∀ p, p ∈ F.ents.map (fun x => if x.1 = (i : Int) then (x.2.2[d]?).getD noSp else noSp) → Good p → F.val i d p.1 ∧ F.val i d p.2 := by
    intro p hp hg
    obtain ⟨x, hx, rfl⟩ := List.mem_map.1 hp
    obtain ⟨l, k, T, hl, hT, rfl⟩ := ents_all hx
    dsimp only at hg ⊢
    by_cases hk : (k : Int) = i
    · rw [if_pos hk, hget l T hl.1] at *
      have hk' : k = i := by omega
      subst hk'
      have hll := falls_len hl.1
      obtain ⟨_, ⟨y, hy, y2⟩, z, hz, z2⟩ := evL_ends (d := d) (a := F.a) (b := F.b) (c := F.c) (t := T) (rs := l) (by omega) (by omega) (hl.2 T (List.mem_of_getElem? hT))
      exact ⟨⟨l, T, y, hl, hT, hy, y2⟩, l, T, z, hl, hT, hz, z2⟩
    · rw [if_neg hk] at hg
      exact absurd hg hng
  refine ⟨?_, ?_, ?_⟩
  · rintro v ⟨l, T, c, hl, hT, hc, rfl⟩
    have hll := falls_len hl.1
    have h1 := j1 _ (List.mem_map.2 ⟨_, fell_ent hl hT, rfl⟩)
    dsimp only at h1
    rw [if_pos rfl, hget l T hl.1] at h1
    have h2 := (evL_ends (d := d) (a := F.a) (b := F.b) (c := F.c) (t := T) (rs := l) (by omega) (by omega) (hl.2 T (List.mem_of_getElem? hT))).1 c hc
    unfold FieldV.wet
    omega
  · unfold FieldV.wet; rw [hp2]; exact (back p hp1 hp3).1
  · unfold FieldV.wet; rw [hq2]; exact (back q hq1 hq3).2
end Go.Proofs.Ytmdheijpnlonoaa

namespace Go.Proofs.Ytmdheijpnlonoaa
open Go Go.AbsE
set_option linter.unusedSimpArgs false
set_option maxRecDepth 100000
set_option maxHeartbeats 0
set_option linter.unusedVariables false
theorem ts_at {F : FieldV} {i : Nat} {x : HTurf} (hx : F.hs[i]? = some x) : F.ts[i]? = some (turfAt F.looks i x) := by
  unfold FieldV.ts turfsOf
  rw [List.getElem?_mapIdx, hx]
  rfl
theorem sure_hi (F : FieldV) (i : Int) (d : Nat) : F.sure i d = decide ((F.wet i d).2 ≤ F.lim) := by
  unfold FieldV.sure dryV
  by_cases h : (F.wet i d).2 ≤ F.lim
  · simp [h]
  · rw [if_neg h]
    split <;> simp [h]
end Go.Proofs.Ytmdheijpnlonoaa

namespace Go.Proofs.Ytmdheijpnlonoaa
open Go Go.AbsE
set_option linter.unusedSimpArgs false
set_option maxRecDepth 100000
set_option maxHeartbeats 0
set_option linter.unusedVariables false
theorem zt50 : zeroT Try.prog 50 = some .nilslice := by kernel_rfl
theorem by50 : bytesT Try.prog 50 = some 24 := by kernel_rfl
theorem take_succ {α : Type} {l : List α} {i : Nat} {x : α} (h : l[i]? = some x) : l.take (i + 1) = l.take i ++ [x] := by
  rw [List.take_add_one, h, Option.toList_some]
theorem scan_take (a b c : Int) (p : Nat) {l : List Int} {q : Nat} {r : Int} (h : l[q]? = some r) (w : Int) : scan a b c p (l.take (q + 1)) w = scan a b c p (l.take q) w ++ [ev1 a b c p r (after a b c p (l.take q) w)] := by
  rw [take_succ h, scan_app]
theorem after_take (a b c : Int) (p : Nat) {l : List Int} {q : Nat} {r : Int} (h : l[q]? = some r) (w : Int) : after a b c p (l.take (q + 1)) w = ev1 a b c p r (after a b c p (l.take q) w) := by
  rw [take_succ h, after_app]
def WetG (h : AH) (lo : Nat) (F : FieldV) (fs rs : List Int) (sls : List AVal) : Prop := ∀ (k : Nat) x w sl, F.hs[k]? = some x → fs[k]? = some w → sls[k]? = some sl → Grow h 3 1 lo sl rs.length (i64s (scan F.a F.b F.c x.p.toNat rs w))
theorem fill_one {z ds : AVal} (hz : z.cells = [z]) (h : ds.cells = [ds]) : aFillA (fun i => some (i * 1, 1)) (repl z.cells 1) [(0, ds)] = some [ds] := by
  have hr : repl z.cells 1 = [z] := by rw [hz]; rfl
  rw [hr]
  unfold aFillA
  rw [h]
  rfl
theorem wetness_ok {F : FieldV} (hsl rsl lsl fsl ksl : AVal) (fs rs : List Int) (h : AH) (hS : SliceOf h 3 hsl (F.hs.map HTurf.cells)) (hf : SliceOf h 1 fsl (fs.map fun x => [AVal.int .i64 x])) (hk : SliceOf h 1 ksl (rs.map fun x => [AVal.int .i64 x]))
    (hp : ∀ x, x ∈ F.hs → 0 ≤ x.p ∧ x.p ≤ 2) (hn : F.hs.length ≤ 100) (hD : Dries F.a F.b F.c) (hfl : fs.length = F.hs.length) (hfi : ∀ w, w ∈ fs → 0 ≤ w ∧ w ≤ 100) (hri : ∀ r, r ∈ rs → 0 ≤ r ∧ r ≤ 10) (hrn : rs.length ≤ 100) :
    Runs Try.prog 30 [.agg (F.cells hsl rsl lsl), fsl, ksl] h (fun en h' => ∃ s sls, en = .ret s ∧ Ext h h' ∧ sls.length = F.hs.length ∧ Grow h' 50 1 h.next s F.hs.length sls ∧ WetG h' h.next F fs rs sls) := by
  have hl1 := hS.len
  have hl2 := hk.len
  rw [List.length_map] at hl1 hl2
  unfold FieldV.cells fieldC
  refine Runs.intro aFunc30 rfl rfl rfl rfl fun rest => ?_
  refine Go.seq noJ_ok ?_
  refine Go.region noJ_ok rfl ?_
  refine GoR.box rfl rfl rfl rfl rfl rfl fun h0 x0 f0 => ?_
  have e0 := x0
  have := f0.1
  refine GoR.op rfl rfl rfl rfl ?_
  refine GoR.end ?_
  iterate 2 refine Go.seq noJ_ok ?_
  refine Go.region noJ_ok rfl ?_
  refine GoR.op rfl rfl (fa27_0 rfl) rfl ?_
  refine GoR.op rfl rfl (ld22 rfl f0 rfl) rfl ?_
  refine GoR.op rfl rfl (aOp_lenSlice Try.underlying22 rfl hl1) rfl ?_
  refine GoR.op rfl rfl rfl rfl ?_
  refine GoR.end ?_
  refine Go.block noJ_ok ?_
  refine Go.loopKeep (fun a : Nat × AVal × List AVal => [(1, fsl), (2, ksl), (3, .ptr h.next 0), (6, a.2.1), (14, hsl), (15, .int .i64 F.hs.length), (16, .int .i64 (a.1 : Nat))])
    (fun m a h' => m + a.1 = F.hs.length ∧ Ext h h' ∧ h.next < h'.next ∧ Has h' h.next (.cells .plain [hsl, rsl, .int .i64 F.a, .int .i64 F.b, .int .i64 F.c, .int .i64 F.lim, lsl] 27) ∧ a.2.2.length = a.1 ∧ Grow h' 50 1 (h.next + 1) a.2.1 a.1 a.2.2 ∧ WetG h' (h.next + 1) F fs rs a.2.2)
    (n := F.hs.length) (0, .nilslice, []) ⟨rfl, rfl, rfl, rfl, rfl, rfl, rfl, trivial⟩ ⟨rfl, e0, f0.1, f0, rfl, Grow.nil _ _ _ _, (by intro k x w sl q1 q2 q3; simp at q3)⟩ ?_
  clear e0 f0
  rintro m ⟨i, s, sls⟩ h5 ⟨hm, e5, hnx, f0, hsl', G, LG⟩ again
  dsimp only at hm hsl' G LG ⊢
  have e0 : Ext h5 h5 := Ext.refl _
  have he5 := e5.1
  have hE5 := e5
  by_cases hi' : i < F.hs.length
  · obtain ⟨x, hx⟩ : ∃ x, F.hs[i]? = some x := ⟨F.hs[i], by simp [hi']⟩
    obtain ⟨w, hw⟩ : ∃ w, fs[i]? = some w := ⟨fs[i]'(by omega), by simp⟩
    have hwi := hfi w (List.mem_of_getElem? hw)
    have hxp := hp x (List.mem_of_getElem? hx)
    obtain ⟨bq, off, q1, q2⟩ := (hS.ext e5).at (i := i) (l := HTurf.cells x) (by rw [List.getElem?_map, hx]; rfl)
    obtain ⟨bf, off2, p1, p2⟩ := (hf.ext e5).at (i := i) (l := [AVal.int .i64 w]) (by rw [List.getElem?_map, hw]; rfl)
    rw [List.length_map] at q1 p1
    have hif : i < fs.length := by omega
    obtain ⟨xp, xlo, xhi⟩ := x
    unfold HTurf.cells at q2
    dsimp only at q2 hxp
    obtain ⟨pn, rfl⟩ := Int.eq_ofNat_of_zero_le hxp.1
    have F0 := fun h' (e : Ext h5 h') => f0.ext e
    refine Go.seq noJ_ok ?_
    refine Go.region noJ_ok rfl ?_
    refine GoR.op rfl rfl (aOp_lss rfl rfl (r := true) (decide_eq_true (by omega))) rfl ?_
    refine GoR.end ?_
    refine Go.seq noJ_ok ?_
    refine Go.cond noJ_ok (b := true) rfl ?_
    refine Go.code noJ_ok ?_
    refine Go.seq noJ_ok ?_
    refine Go.block noJ_ok ?_
    refine Go.seq noJ_ok ?_
    refine Go.region noJ_ok rfl ?_
    refine GoR.op rfl rfl rfl rfl ?_
    refine GoR.op rfl rfl (aOp_indexAddr Try.underlying22 sz63 rfl q1 rfl (Nat.ble_eq_true_of_le hi')) rfl ?_
    refine GoR.op rfl rfl (aOp_loadE ag63 sz63 rfl (q2.ext e0)) rfl ?_
    refine GoR.alloc rfl rfl rfl zt63 rfl rfl fun h6 x6 f6 => ?_
    have := e5.1
    have := e0.1
    have := f0.1
    replace f0 := f0.ext x6
    replace e5 := e5.trans x6
    replace e0 := e0.trans x6
    have := f6.1
    refine GoR.op rfl rfl rfl rfl ?_
    refine GoR.store rfl rfl rfl rfl rfl rfl f6 rfl sz63 rfl rfl rfl fun h7 u7 => ?_
    replace f6 := u7.has f6
    replace f0 := f0.upd u7 (by omega)
    first | replace e5 := e5.upd u7 (by omega) | clear e5
    first | replace e0 := e0.upd u7 (by omega) | clear e0
    refine GoR.end ?_
    refine Go.seq noJ_ok ?_
    refine Go.region noJ_ok rfl ?_
    iterate 2 refine GoR.op rfl rfl rfl rfl ?_
    refine GoR.op rfl rfl (aOp_indexAddr Try.underlying50 sz3 rfl p1 rfl (Nat.ble_eq_true_of_le hif)) rfl ?_
    refine GoR.op rfl rfl (aOp_loadE1 (k := 0) ag3 rfl (p2.ext e0) rfl) rfl ?_
    refine GoR.op rfl rfl rfl rfl ?_
    refine GoR.end ?_
    refine Go.seq noJ_ok ?_
    refine Go.region noJ_ok rfl ?_
    refine GoR.op rfl rfl rfl rfl ?_
    refine GoR.end ?_
    iterate 2 refine Go.seq noJ_ok ?_
    refine Go.region noJ_ok rfl ?_
    refine GoR.op rfl rfl rfl rfl ?_
    refine GoR.op rfl rfl (aOp_lenSlice Try.underlying50 rfl hl2) rfl ?_
    refine GoR.op rfl rfl rfl rfl ?_
    refine GoR.end ?_
    refine Go.block noJ_ok ?_
    have hb7 : h5.next < h7.next := f6.1
    refine Go.loopKeep (fun a : Nat × AVal => [(1, fsl), (2, ksl), (3, .ptr h.next 0), (6, s), (8, .ptr h5.next 0), (9, .int .i64 (after F.a F.b F.c pn (rs.take a.1) w)), (10, a.2), (14, hsl), (15, .int .i64 F.hs.length), (16, .int .i64 (i : Nat)), (25, ksl), (26, .int .i64 rs.length), (27, .int .i64 (a.1 : Nat))])
      (fun m a h' => m + a.1 = rs.length ∧ Ext h5 h' ∧ h7.next ≤ h'.next ∧ Has h' h5.next (.cells .plain [.int .i64 (pn : Nat), .int .i64 xlo, .int .i64 xhi] 63) ∧ Grow h' 3 1 h7.next a.2 a.1 (i64s (scan F.a F.b F.c pn (rs.take a.1) w)))
      (n := rs.length) (0, .nilslice) ⟨rfl, rfl, rfl, rfl, rfl, rfl, rfl, rfl, rfl, rfl, rfl, rfl, rfl, trivial⟩ ⟨rfl, e0, Nat.le_refl _, f6, (by rw [List.take_zero]; exact Grow.nil _ _ _ _)⟩ ?_
    clear e0 e5 f6 f0
    rintro m2 ⟨q, ds⟩ h10 ⟨hm2, e0, hn10, f6, g⟩ again2
    dsimp only at hm2 f6 g
    have e5 : Ext h h10 := hE5.trans e0
    have f0 := F0 _ e0
    by_cases hq : q < rs.length
    · obtain ⟨r, hr⟩ : ∃ r, rs[q]? = some r := ⟨rs[q], by simp [hq]⟩
      obtain ⟨bk, off3, r1, r2⟩ := (hk.ext e5).at (i := q) (l := [AVal.int .i64 r]) (by rw [List.getElem?_map, hr]; rfl)
      rw [List.length_map] at r1
      have hr0 := hri r (List.mem_of_getElem? hr)
      have hnw := after_in F.a F.b F.c pn (rs.take q) hwi
      have hat := after_take F.a F.b F.c pn hr w
      have hst := scan_take F.a F.b F.c pn hr w
      have again2' := fun t' h' => again2 (m2 - 1) (q + 1, ds) t' h' (by omega)
      obtain ⟨now, hnow⟩ : ∃ now, after F.a F.b F.c pn (rs.take q) w = now := ⟨_, rfl⟩
      rw [hnow] at hat hst hnw
      obtain ⟨d, hd⟩ : ∃ d, [F.a, F.b, F.c][pn]? = some d := ⟨[F.a, F.b, F.c][pn]'(by show pn < 3; omega), by simp⟩
      have hd0 : 0 ≤ d ∧ d ≤ 20 := by
        have := List.mem_of_getElem? hd
        simp only [List.mem_cons, List.not_mem_nil, or_false] at this
        unfold Dries at hD
        rcases this with rfl | rfl | rfl <;> omega
      have hld : [hsl, rsl, AVal.int .i64 F.a, .int .i64 F.b, .int .i64 F.c, .int .i64 F.lim, lsl][0 + 2 + pn * 1]? = some (.int .i64 d) := by
        have hp3 : pn = 0 ∨ pn = 1 ∨ pn = 2 := by omega
        rcases hp3 with rfl | rfl | rfl <;> (cases hd; rfl)
      have hpn3 : pn < 3 := by omega
      obtain ⟨n2, hn2⟩ : ∃ n2, (if r = 0 then now - d else now) = n2 := ⟨_, rfl⟩
      obtain ⟨mn, hmn⟩ : ∃ mn, (if n2 + r < 100 then n2 + r else 100) = mn := ⟨_, rfl⟩
      obtain ⟨n', hmx⟩ : ∃ n', (if 0 < mn then mn else 0) = n' := ⟨_, rfl⟩
      have hev : ev1 F.a F.b F.c pn r now = n' := by
        unfold ev1
        rw [hd, Option.getD_some]
        unfold holdV
        by_cases hz : r = 0
        · rw [if_pos hz] at hn2
          rw [if_neg (by omega)]
          subst hn2 hmn hmx
          repeat' split
          all_goals omega
        · rw [if_neg hz] at hn2
          rw [if_pos (by omega)]
          subst hn2 hmn hmx
          repeat' split
          all_goals omega
      rw [hev] at hat hst
      rw [hnow]
      have e1 : Ext h10 h10 := Ext.refl _
      have hfin : ∀ (h60 : AH) (k : List AItem) (b3 : Nat), True := fun _ _ _ => trivial
      have hrl : ∃ z : Bool, decide (r = 0) = z := ⟨_, rfl⟩
      obtain ⟨z, hz⟩ := hrl
      cases z with
      | true =>
        rw [if_pos (of_decide_eq_true hz)] at hn2
        subst hn2
        refine Go.seq noJ_ok ?_
        refine Go.region noJ_ok rfl ?_
        refine GoR.op rfl rfl (aOp_lss rfl rfl (r := true) (decide_eq_true (by omega))) rfl ?_
        refine GoR.end ?_
        refine Go.seq noJ_ok ?_
        refine Go.cond noJ_ok (b := true) rfl ?_
        refine Go.code noJ_ok ?_
        refine Go.seq noJ_ok ?_
        refine Go.block noJ_ok ?_
        refine Go.seq noJ_ok ?_
        refine Go.region noJ_ok rfl ?_
        refine GoR.op rfl rfl (aOp_indexAddr Try.underlying50 sz3 rfl r1 rfl (Nat.ble_eq_true_of_le hq)) rfl ?_
        refine GoR.op rfl rfl (aOp_loadE1 (k := 0) ag3 rfl r2 rfl) rfl ?_
        refine GoR.op rfl rfl rfl rfl ?_
        refine GoR.end ?_
        iterate 2 refine Go.seq noJ_ok ?_
        refine Go.region noJ_ok rfl ?_
        refine GoR.op rfl rfl rfl rfl ?_
        refine GoR.op rfl rfl (aOp_eql rfl rfl hz) rfl ?_
        refine GoR.end ?_
        refine Go.cond noJ_ok (b := true) rfl ?_
        refine Go.region noJ_ok rfl ?_
        refine GoR.op rfl rfl rfl rfl ?_
        refine GoR.op rfl rfl (fa63_0 rfl) rfl ?_
        refine GoR.op rfl rfl (ld3 rfl f6 rfl) rfl ?_
        refine GoR.op rfl rfl (fa27_2 rfl) rfl ?_
        refine GoR.op rfl rfl (aOp_indexAddrArr Try.underlying24 sz3 rfl rfl (Nat.ble_eq_true_of_le hpn3)) rfl ?_
        refine GoR.op rfl rfl (ld3 rfl f0 hld) rfl ?_
        refine GoR.op rfl rfl (aOp_sub rfl rfl (by constructor <;> omega) rfl) rfl ?_
        refine GoR.op rfl rfl rfl rfl ?_
        refine GoR.end ?_
        refine Go.seq noJ_ok ?_
        refine Go.region noJ_ok rfl ?_
        iterate 2 refine GoR.op rfl rfl rfl rfl ?_
        refine GoR.op rfl rfl (aOp_add rfl rfl (by constructor <;> omega) rfl) rfl ?_
        refine GoR.op rfl rfl (aOp_min2 rfl rfl hmn) rfl ?_
        refine GoR.op rfl rfl (aOp_max2 rfl rfl hmx) rfl ?_
        refine GoR.op rfl rfl rfl rfl ?_
        refine GoR.end ?_
        refine Go.region noJ_ok rfl ?_
        iterate 2 refine GoR.op rfl rfl rfl rfl ?_
        refine GoR.buildSl rfl rfl (ps := [(0, .int .i64 n')]) (cs := [.int .i64 n']) Try.underlying50 rfl sz3 zt3 rfl rfl rfl rfl fun h11 x11 f11 => ?_
        have := e0.1
        have := e5.1
        have := e1.1
        have := f6.1
        have := f0.1
        replace f6 := f6.ext x11
        replace f0 := f0.ext x11
        replace e0 := e0.trans x11
        replace e5 := e5.trans x11
        replace e1 := e1.trans x11
        have := f11.1
        have g' := g.ext e1
        refine GoR.append1F (lo := h7.next) (s := ds) rfl rfl rfl Try.underlying50 Try.underlying50 sz3 by3 zt3 rfl rfl rfl rfl f11 rfl rfl g' (by omega) rfl rfl fun s6 h59 y59 g59 => ?_
        have e9 : Ext h5 h59 := y59.low e0 (fun b q => by have := (grow_own g' q).1; omega)
        have f9 := f6.extF y59 (fun q => by have := (grow_own g' q).1; omega)
        have hy := y59.1
        have hy2 := e1.1
        clear e0 e1 e5 f6 f11 f0 y59
        have e0 : Ext h59 h59 := Ext.refl _
        have again3 := again2 (m2 - 1) (q + 1, s6)
        dsimp only at again3
        rw [hat, hst] at again3
        refine GoR.op rfl rfl rfl rfl ?_
        refine GoR.end ?_
        refine Go.inBlock noJ_ok ?_
        refine Go.region noJ_ok rfl ?_
        refine GoR.op rfl rfl (aOp_add rfl rfl (by constructor <;> omega) rfl) rfl ?_
        refine GoR.op rfl rfl rfl rfl ?_
        refine GoR.end ?_
        refine again3 _ _ (by omega) ⟨rfl, rfl, rfl, rfl, rfl, rfl, rfl, rfl, rfl, rfl, rfl, rfl, rfl, trivial⟩ ⟨by omega, e9, by omega, f9, ?_⟩
        unfold i64s at g59 ⊢
        rw [List.map_append]
        exact g59.low (by omega)
      | false =>
        rw [if_neg (of_decide_eq_false hz)] at hn2
        subst hn2
        refine Go.seq noJ_ok ?_
        refine Go.region noJ_ok rfl ?_
        refine GoR.op rfl rfl (aOp_lss rfl rfl (r := true) (decide_eq_true (by omega))) rfl ?_
        refine GoR.end ?_
        refine Go.seq noJ_ok ?_
        refine Go.cond noJ_ok (b := true) rfl ?_
        refine Go.code noJ_ok ?_
        refine Go.seq noJ_ok ?_
        refine Go.block noJ_ok ?_
        refine Go.seq noJ_ok ?_
        refine Go.region noJ_ok rfl ?_
        refine GoR.op rfl rfl (aOp_indexAddr Try.underlying50 sz3 rfl r1 rfl (Nat.ble_eq_true_of_le hq)) rfl ?_
        refine GoR.op rfl rfl (aOp_loadE1 (k := 0) ag3 rfl r2 rfl) rfl ?_
        refine GoR.op rfl rfl rfl rfl ?_
        refine GoR.end ?_
        iterate 2 refine Go.seq noJ_ok ?_
        refine Go.region noJ_ok rfl ?_
        refine GoR.op rfl rfl rfl rfl ?_
        refine GoR.op rfl rfl (aOp_eql rfl rfl hz) rfl ?_
        refine GoR.end ?_
        refine Go.cond noJ_ok (b := false) rfl ?_
        refine Go.code noJ_ok ?_
        refine Go.seq noJ_ok ?_
        refine Go.region noJ_ok rfl ?_
        iterate 2 refine GoR.op rfl rfl rfl rfl ?_
        refine GoR.op rfl rfl (aOp_add rfl rfl (by constructor <;> omega) rfl) rfl ?_
        refine GoR.op rfl rfl (aOp_min2 rfl rfl hmn) rfl ?_
        refine GoR.op rfl rfl (aOp_max2 rfl rfl hmx) rfl ?_
        refine GoR.op rfl rfl rfl rfl ?_
        refine GoR.end ?_
        refine Go.region noJ_ok rfl ?_
        iterate 2 refine GoR.op rfl rfl rfl rfl ?_
        refine GoR.buildSl rfl rfl (ps := [(0, .int .i64 n')]) (cs := [.int .i64 n']) Try.underlying50 rfl sz3 zt3 rfl rfl rfl rfl fun h11 x11 f11 => ?_
        have := e0.1
        have := e5.1
        have := e1.1
        have := f6.1
        have := f0.1
        replace f6 := f6.ext x11
        replace f0 := f0.ext x11
        replace e0 := e0.trans x11
        replace e5 := e5.trans x11
        replace e1 := e1.trans x11
        have := f11.1
        have g' := g.ext e1
        refine GoR.append1F (lo := h7.next) (s := ds) rfl rfl rfl Try.underlying50 Try.underlying50 sz3 by3 zt3 rfl rfl rfl rfl f11 rfl rfl g' (by omega) rfl rfl fun s6 h59 y59 g59 => ?_
        have e9 : Ext h5 h59 := y59.low e0 (fun b q => by have := (grow_own g' q).1; omega)
        have f9 := f6.extF y59 (fun q => by have := (grow_own g' q).1; omega)
        have hy := y59.1
        have hy2 := e1.1
        clear e0 e1 e5 f6 f11 f0 y59
        have e0 : Ext h59 h59 := Ext.refl _
        have again3 := again2 (m2 - 1) (q + 1, s6)
        dsimp only at again3
        rw [hat, hst] at again3
        refine GoR.op rfl rfl rfl rfl ?_
        refine GoR.end ?_
        refine Go.inBlock noJ_ok ?_
        refine Go.region noJ_ok rfl ?_
        refine GoR.op rfl rfl (aOp_add rfl rfl (by constructor <;> omega) rfl) rfl ?_
        refine GoR.op rfl rfl rfl rfl ?_
        refine GoR.end ?_
        refine again3 _ _ (by omega) ⟨rfl, rfl, rfl, rfl, rfl, rfl, rfl, rfl, rfl, rfl, rfl, rfl, rfl, trivial⟩ ⟨by omega, e9, by omega, f9, ?_⟩
        unfold i64s at g59 ⊢
        rw [List.map_append]
        exact g59.low (by omega)
    · have hqq : q = rs.length := by omega
      subst hqq
      rw [List.take_length] at g
      obtain ⟨hd1, hd2⟩ := grow_scal g
      have e1 : Ext h10 h10 := Ext.refl _
      refine Go.seq noJ_ok ?_
      refine Go.region noJ_ok rfl ?_
      refine GoR.op rfl rfl (aOp_lss rfl rfl (r := false) (decide_eq_false (by omega))) rfl ?_
      refine GoR.end ?_
      refine Go.seq noJ_ok ?_
      refine Go.cond noJ_ok (b := false) rfl ?_
      refine Go.code noJ_ok ?_
      refine Go.region noJ_ok rfl ?_
      iterate 2 refine GoR.op rfl rfl rfl rfl ?_
      refine GoR.buildSl rfl rfl (ps := [(0, ds)]) (cs := [ds]) Try.underlying49 rfl sz50 zt50 rfl rfl (fill_one rfl hd2) rfl fun h11 x11 f11 => ?_
      have := e0.1
      have := e5.1
      have := e1.1
      have := f6.1
      have := f0.1
      replace f6 := f6.ext x11
      replace f0 := f0.ext x11
      replace e0 := e0.trans x11
      replace e5 := e5.trans x11
      replace e1 := e1.trans x11
      have := f11.1
      have G' := G.ext e0
      refine GoR.append1F (lo := h.next + 1) (s := s) rfl rfl rfl Try.underlying49 Try.underlying49 sz50 by50 zt50 rfl rfl rfl rfl f11 rfl hd1 G' (by omega) rfl rfl fun s6 h59 y59 g59 => ?_
      have hy := y59.1
      have hy2 := e1.1
      have e9 : Ext h h59 := y59.low e5 (fun b q => by have := (grow_own G' q).1; omega)
      have f9 := f0.extF y59 (fun q => by have := (grow_own G' q).1; omega)
      have gl : Grow h59 3 1 h7.next ds rs.length (i64s (scan F.a F.b F.c pn rs w)) := (g.ext e1).keep hy fun b hb1 hb2 hb3 => y59.2 b hb2 fun q => grow_other (g.ext e1) G' (by decide) hb3 q
      have LG5 : WetG h59 (h.next + 1) F fs rs sls := fun k x' w' sl' k1 k2 k3 => by
        have := (LG k x' w' sl' k1 k2 k3).ext e0
        exact this.keep hy fun b hb1 hb2 hb3 => y59.2 b hb2 fun q => grow_other this G' (by decide) hb3 q
      clear e0 e1 e5 f6 f11 f0 y59
      have e0 : Ext h59 h59 := Ext.refl _
      refine GoR.op rfl rfl rfl rfl ?_
      refine GoR.end ?_
      refine Go.inBlock noJ_ok ?_
      refine Go.region noJ_ok rfl ?_
      refine GoR.op rfl rfl (aOp_add rfl rfl (by constructor <;> omega) rfl) rfl ?_
      refine GoR.op rfl rfl rfl rfl ?_
      refine GoR.end ?_
      refine again (m - 1) (i + 1, s6, sls ++ [ds]) _ _ (by omega) ⟨rfl, rfl, rfl, rfl, rfl, rfl, rfl, trivial⟩ ⟨by dsimp only; omega, e9, by omega, f9, by simp [hsl'], g59.low (by omega), ?_⟩
      intro k x' w' sl' k1 k2 k3
      dsimp only at k3
      by_cases hki : k < i
      · rw [List.getElem?_append_left (by omega)] at k3
        exact LG5 k x' w' sl' k1 k2 k3
      · rw [List.getElem?_append_right (by omega), hsl'] at k3
        have hk0 : k - i = 0 := by
          have := (List.getElem?_eq_some_iff.1 k3).1
          simp at this
          omega
        have hki2 : k = i := by omega
        rw [hk0] at k3
        subst hki2
        rw [hx] at k1
        rw [hw] at k2
        cases k1
        cases k2
        cases k3
        exact gl.low (by omega)
  · have hin : i = F.hs.length := by omega
    subst hin
    refine Go.seq noJ_ok ?_
    refine Go.region noJ_ok rfl ?_
    refine GoR.op rfl rfl (aOp_lss rfl rfl (r := false) (decide_eq_false (by omega))) rfl ?_
    refine GoR.end ?_
    refine Go.seq noJ_ok ?_
    refine Go.cond noJ_ok (b := false) rfl ?_
    refine Go.code noJ_ok ?_
    refine Go.seq noJ_ok ?_
    refine Go.region noJ_ok rfl ?_
    iterate 2 refine GoR.op rfl rfl rfl rfl ?_
    refine GoR.end ?_
    exact Go.ret noJ_ok (ret_end (aResult_of Try.func30 rfl rfl) ⟨s, sls, rfl, e5, hsl', G.low (by omega), fun k x w sl a b c => (LG k x w sl a b c).low (by omega)⟩)
end Go.Proofs.Ytmdheijpnlonoaa

namespace Go.Proofs.Ytmdheijpnlonoaa
open Go Go.AbsE
set_option linter.unusedSimpArgs false
set_option maxRecDepth 100000
set_option maxHeartbeats 0
set_option linter.unusedVariables false
theorem span11_ok (a b : Int) (h : AH) : Runs Try.prog 11 [.int .i64 a, .int .i64 b] h (fun en h' => en = .ret (.agg [.int .i64 a, .int .i64 b]) ∧ Ext h h') := by
  obtain ⟨fs30, hu30, pl30⟩ := flds30
  refine Runs.intro aFunc11 rfl rfl rfl rfl fun rest => ?_
  refine Go.seq noJ_ok ?_
  refine Go.region noJ_ok rfl ?_
  refine GoR.alloc rfl rfl rfl zt30 rfl rfl fun h0 x0 f0 => ?_
  have e0 := x0
  have := f0.1
  refine GoR.end ?_
  refine Go.seq noJ_ok ?_
  refine Go.region noJ_ok rfl ?_
  iterate 2 refine GoR.op rfl rfl rfl rfl ?_
  refine GoR.op rfl rfl (aOp_build (ps := [(0, .int .i64 a), (1, .int .i64 b)]) (cs := [.int .i64 a, .int .i64 b]) zt30 hu30 pl30 rfl rfl) rfl ?_
  refine GoR.store rfl rfl rfl rfl rfl rfl f0 rfl sz30 rfl rfl rfl fun h1 u1 => ?_
  replace f0 := u1.has f0
  first | replace e0 := e0.upd u1 (by omega) | clear e0
  refine GoR.end ?_
  exact Go.ret noJ_ok (ret_end (aResult_of Try.func11 rfl (aResults_cell rfl f0 (inCells_agg ag30 sz30 rfl))) ⟨rfl, e0⟩)
theorem scal_one {v : AVal} (h : scalars [v] = true) : scalar v = true := by
  cases q : scalar v with
  | true => rfl
  | false =>
    unfold scalars at h
    rw [q] at h
    cases h
theorem grow_same {h : AH} {el : TypeId} {sz lo : Nat} {s : AVal} {n : Nat} {cs : List AVal} (k : Grow h el sz lo s n cs) : sameA s s = true := by
  rcases k.2 with ⟨rfl, _⟩ | ⟨_, b', h1, rfl, h3⟩
  · rfl
  · simp [sameA, sameAs, eqI_eq]
theorem flat_self {α : Type} : ∀ l : List α, (l.map fun x => [x]).flatten = l
  | [] => rfl
  | a :: l => by rw [List.map_cons, List.flatten_cons, flat_self l]; rfl
end Go.Proofs.Ytmdheijpnlonoaa

namespace Go.Proofs.Ytmdheijpnlonoaa
open Go Go.AbsE
set_option linter.unusedSimpArgs false
set_option maxRecDepth 100000
set_option maxHeartbeats 0
set_option linter.unusedVariables false
def FieldV.withL (F : FieldV) (L : List LookV) : FieldV := ⟨F.hs, F.rs, F.a, F.b, F.c, F.lim, L⟩
def FieldV.canB (F : FieldV) : Bool := (falls F.rs).any fun l => F.ts.all fun T => possB F.a F.b F.c T l
theorem poss51_ok {F : FieldV} {L : List LookV} (O : (F.withL L).Ok) (hsl rsl lsl s2 : AVal) (h : AH) (A : FieldAt h F hsl rsl lsl) (hL : SliceOf h 4 s2 (L.map LookV.cells)) :
    Runs Try.prog 51 [.agg (F.cells hsl rsl lsl), s2] h (fun en h' => en = .ret (.bool (F.withL L).canB) ∧ Ext h h') := by
  obtain ⟨G, hG⟩ : ∃ G, F.withL L = G := ⟨_, rfl⟩
  have hGh : G.hs = F.hs := by rw [← hG]; rfl
  have hGr : G.rs = F.rs := by rw [← hG]; rfl
  have hGa : G.a = F.a := by rw [← hG]; rfl
  have hGb : G.b = F.b := by rw [← hG]; rfl
  have hGc : G.c = F.c := by rw [← hG]; rfl
  have hGl : G.looks = L := by rw [← hG]; rfl
  have hGlim : G.lim = F.lim := by rw [← hG]; rfl
  rw [hG] at O ⊢
  have AH : FieldAt h G hsl rsl lsl → True := fun _ => trivial
  have Ah := A.hs
  have Ar := A.rs
  rw [← hGh] at Ah
  rw [← hGr] at Ar
  rw [← hGl] at hL
  have hcells : F.cells hsl rsl lsl = [hsl, rsl, .int .i64 G.a, .int .i64 G.b, .int .i64 G.c, .int .i64 G.lim, lsl] := by rw [hGa, hGb, hGc, hGlim]; rfl
  rw [hcells]
  have hsA := A.hs.scal.1
  have hsB := A.rs.scal.1
  have hsC := A.ls.scal.1
  clear hG hGh hGr hGa hGb hGc hGl hGlim hcells AH A
  have hF := O.nh
  have hF2 := O.nl
  have hfc : fieldC hsl rsl lsl G.a G.b G.c G.lim = [hsl, rsl, .int .i64 G.a, .int .i64 G.b, .int .i64 G.c, .int .i64 G.lim, lsl] := rfl
  have hfr := rains_ok hsl rsl lsl G.a G.b G.c G.lim
  rw [hfc] at hfr
  refine Runs.intro aFunc51 rfl rfl rfl rfl fun rest => ?_
  refine Go.seq noJ_ok ?_
  refine Go.region noJ_ok rfl ?_
  refine GoR.box rfl rfl rfl rfl rfl rfl fun h0 x0 f0 => ?_
  have e0 := x0
  have := f0.1
  refine GoR.op rfl rfl rfl rfl ?_
  refine GoR.end ?_
  refine Go.scope noJ_ok ?_
  refine Go.seq noJ_ok ?_
  refine Go.region noJ_ok rfl ?_
  refine GoR.op rfl rfl (fa74_0 rfl) rfl ?_
  refine GoR.op rfl rfl (ld22 rfl f0 rfl) rfl ?_
  refine GoR.op rfl rfl rfl rfl ?_
  refine GoR.call rfl rfl (aOp_callFunc aFunc67 rfl) (Runs.flip (turfs_ok hsl s2 G.hs G.looks _ (Ah.ext e0) (hL.ext e0) (fun x hx => (O.h x hx).1) (by omega) (by omega))) ?_ (by rintro _ _ ⟨s, sls, q, _, hsls, GG, LG⟩; cases q)
  rintro v1 h1 ⟨s, sls, q, x1, hsls, GG, LG⟩
  cases q
  refine ⟨_, rfl, ?_⟩
  have := e0.1
  replace f0 := f0.ext x1
  replace e0 := e0.trans x1
  refine GoR.alloc rfl rfl rfl zt96 rfl rfl fun h2 x2 f2 => ?_
  have := e0.1
  have := f0.1
  replace f0 := f0.ext x2
  replace e0 := e0.trans x2
  have := f2.1
  refine GoR.store rfl rfl rfl rfl rfl rfl f2 rfl sz96 (grow_st1 GG) (grow_st2 GG) (grow_st3 GG _) fun h3 u3 => ?_
  replace f2 := u3.has f2
  replace f0 := f0.upd u3 (by omega)
  first | replace e0 := e0.upd u3 (by omega) | clear e0
  refine GoR.end ?_
  refine Go.seq noJ_ok ?_
  refine Go.region noJ_ok rfl ?_
  refine GoR.alloc rfl rfl rfl zt4 rfl rfl fun h4 x4 f4 => ?_
  have := e0.1
  have := f2.1
  have := f0.1
  replace f2 := f2.ext x4
  replace f0 := f0.ext x4
  replace e0 := e0.trans x4
  have := f4.1
  refine GoR.store rfl rfl rfl rfl rfl rfl f4 rfl sz4 rfl rfl rfl fun h5 u5 => ?_
  replace f4 := u5.has f4
  replace f2 := f2.upd u5 (by omega)
  replace f0 := f0.upd u5 (by omega)
  first | replace e0 := e0.upd u5 (by omega) | clear e0
  refine GoR.end ?_
  refine Go.seq noJ_ok ?_
  refine Go.label noJ_ok ?_
  iterate 2 refine Go.seq noJ_ok ?_
  refine Go.region noJ_ok rfl ?_
  refine GoR.op rfl rfl (ld74 rfl f0 rfl) rfl ?_
  refine GoR.call rfl rfl (aOp_callFunc aFunc68 rfl) (hfr _) ?_ (by rintro _ _ ⟨bf, q, _, hbf, f77⟩; cases q)
  rintro v6 h6 ⟨bf, q, x6, hbf, f77⟩
  cases q
  refine ⟨_, rfl, ?_⟩
  have := e0.1
  replace f4 := f4.ext x6
  replace f2 := f2.ext x6
  replace f0 := f0.ext x6
  replace e0 := e0.trans x6
  refine GoR.end ?_
  refine Go.block noJ_ok ?_
  obtain ⟨s, hs⟩ : ∃ s, s = v1 := ⟨_, rfl⟩
  subst hs
  have hx0 := x0.1
  have hx1 := x1.1
  have hx2 := x2.1
  have hu3 := u3.1
  have hx4 := x4.1
  have hu5 := u5.1
  have hx6 := x6.1
  have hlt4 := f4.1
  have e16 : Ext h1 h6 := (((x2.upd u3 (Nat.le_refl _)).trans x4).upd u5 (by omega)).trans x6
  have hz : G.ts.length = G.hs.length := turfsOf_len _ _
  have D := O.dries
  have hn6 := O.nr.2
  obtain ⟨n, hn⟩ : ∃ n, G.rs.length = n := ⟨_, rfl⟩
  rw [hn] at hn6
  have hlenR := Ar.len
  rw [List.length_map, hn] at hlenR
  have TF : ∀ hh, ExtF (fun b => b = h3.next) h6 hh → TurfsAt hh s G.ts sls := fun hh x => by
    have hk : ∀ b, h0.next ≤ b → b < h1.next → hh.get b = h1.get b := fun b b1 b2 => by rw [x.2 b (by omega) (by omega), e16.2 b b2]
    have hxx := x.1
    refine turfsAt_of (lo := h0.next) (by rw [hsls, hz]) ?_ ?_
    · rw [hz]
      exact GG.keep (by omega) fun b b1 b2 _ => hk b b1 b2
    · intro k T sl k1 k2
      exact (LG k T sl k1 k2).keep (by omega) fun b b1 b2 _ => hk b b1 b2
  have FA : ∀ hh, ExtF (fun b => b = h3.next) h6 hh → Ext h hh := fun hh x => x.low e0 (fun b q => by omega)
  obtain ⟨p, hp⟩ : ∃ p : List Int → Bool, (fun l => G.ts.all fun T => possB G.a G.b G.c T l) = p := ⟨_, rfl⟩
  have hcan : G.canB = (falls G.rs).any p := by rw [← hp]; rfl
  refine Go.rangeTk (items := fallI [] G.rs) (A := RainsA bf hsl rsl lsl G.a G.b G.c G.lim G.rs) (fun b => b = h3.next)
    (fun j hh => Has hh h3.next (.cells .plain [.bool false] 4) ∧ ((falls G.rs).take j).any p = false) (fun c hh => c = .exit 0 ∧ Has hh h3.next (.cells .plain [.bool true] 4) ∧ G.canB = true)
    rfl aFunc92 Try.func51 (rains1_it bf hsl rsl lsl G.a G.b G.c G.lim G.rs O.rains) (fun b q => by omega) (fun h' x => ⟨f77.extF x (by omega), Ar.ext (FA h' x)⟩) ⟨f4, by rw [List.take_zero]; rfl⟩ ?_ ?_ ?_ ?_ ?_
  · rintro k p1 p2 ⟨f, g⟩ hn' hk
    exact ⟨f.keep hn' (hk _ hlt4), g⟩
  · rintro c p1 p2 ⟨q, f, g⟩ hn' hk
    exact ⟨q, f.keep hn' (hk _ hlt4), g⟩
  · rintro j item hj
    refine ⟨_, rfl, ?_⟩
    rintro hh lb r0 fr rest' Q' ⟨f, hany⟩ x8 hlb fl hready contT contF
    obtain ⟨l, hl, rfl⟩ : ∃ l, (falls G.rs)[j]? = some l ∧ i64s (padF l) = item := by
      unfold fallI at hj
      rw [List.getElem?_map] at hj
      cases q : (falls G.rs)[j]? with
      | none => rw [q] at hj; cases hj
      | some x => rw [q] at hj; exact ⟨x, rfl, Option.some.inj hj⟩
    have hlm := List.mem_of_getElem? hl
    have hll : l.length = n := by rw [falls_len hlm, hn]
    have hlin := falls_in O.rains.2 hlm
    have hpl := padF_len (l := l) (by omega)
    have htake : (padF l).take n = l := by unfold padF; rw [List.take_append_of_le_length (by omega), List.take_of_length_le (by omega)]
    obtain ⟨w1, w2, w3, w4, w5, w6, hw⟩ := six hpl
    have hnext : ((falls G.rs).take (j + 1)).any p = p l := by
      rw [List.take_add_one, hl, Option.toList_some, List.any_append, hany]
      simp
    rw [hw]
    have hx8 := x8.1
    have hfl := fl.1
    have e9 : Ext h hh := FA hh x8
    have he9 := e9.1
    replace f0 := f0.extF x8 (by omega)
    replace f2 := f2.extF x8 (by omega)
    have y0 : ExtF (fun b => b = h3.next ∨ b = lb) hh hh := ExtF.of (Ext.refl _)
    have y1 := x8
    clear e0 f4 f77
    refine Go.region noJ_ok rfl ?_
    refine GoR.alloc rfl rfl rfl zt102 rfl rfl fun h9 x9 f9 => ?_
    have := e9.1
    have := f.1
    have := fl.1
    have := f0.1
    have := f2.1
    replace f := f.ext x9
    replace fl := fl.ext x9
    replace f0 := f0.ext x9
    replace f2 := f2.ext x9
    replace e9 := e9.trans x9
    replace y0 := y0.ext x9
    replace y1 := y1.ext x9
    have := f9.1
    refine GoR.store rfl rfl rfl rfl rfl rfl f9 rfl sz102 rfl rfl rfl fun h10 u10 => ?_
    replace f9 := u10.has f9
    replace f := f.upd u10 (by omega)
    replace fl := fl.upd u10 (by omega)
    replace f0 := f0.upd u10 (by omega)
    replace f2 := f2.upd u10 (by omega)
    first | replace e9 := e9.upd u10 (by omega) | clear e9
    first | replace y0 := y0.upd u10 (by first | exact .inl rfl | exact .inl (.inl rfl) | exact .inl (.inr rfl) | exact .inl (by assumption) | exact .inr (by omega)) | skip
    first | replace y1 := y1.upd u10 (by first | exact .inl rfl | exact .inl (.inl rfl) | exact .inl (.inr rfl) | exact .inl (by assumption) | exact .inr (by omega)) | skip
    refine GoR.end ?_
    refine Go.beginRound fl hready fun h19 u19 => ?_
    have hu10 := u10.1
    have hx9 := x9.1
    have hu19 := u19.1
    replace f := f.upd u19 (by omega)
    replace f0 := f0.upd u19 (by omega)
    replace f2 := f2.upd u19 (by omega)
    replace f9 := f9.upd u19 (by omega)
    replace fl := u19.has fl
    replace e9 := e9.upd u19 (by omega)
    replace y0 := y0.upd u19 (.inl (.inr rfl))
    replace y1 := y1.upd u19 (.inr (by omega))
    have hlenS := (TF h19 y1).s.len
    rw [List.length_map, List.length_zip, hsls, hz, Nat.min_self] at hlenS
    refine Go.block noJ_ok ?_
    refine Go.seq noJ_ok ?_
    refine Go.region noJ_ok rfl ?_
    refine GoR.op rfl rfl (ld74 rfl f0 rfl) rfl ?_
    refine GoR.op rfl rfl (ld102 rfl f9 rfl) rfl ?_
    refine GoR.call rfl rfl (aOp_callFunc aFunc69 rfl) (days_ok hsl rsl lsl G.a G.b G.c G.lim n hn6 hlenR [w1, w2, w3, w4, w5, w6] rfl _) ?_ (by rintro _ _ ⟨bb, q, _, hbb, f88⟩; cases q)
    rintro v20 h20 ⟨bb, q, x20, hbb, f88⟩
    cases q
    refine ⟨_, rfl, ?_⟩
    have := e9.1
    replace f := f.ext x20
    replace f0 := f0.ext x20
    replace f2 := f2.ext x20
    replace f9 := f9.ext x20
    replace fl := fl.ext x20
    replace e9 := e9.trans x20
    replace y0 := y0.ext x20
    replace y1 := y1.ext x20
    refine GoR.op rfl rfl rfl rfl ?_
    refine GoR.end ?_
    iterate 2 refine Go.seq noJ_ok ?_
    refine Go.region noJ_ok rfl ?_
    refine GoR.op rfl rfl (ld96 rfl f2 rfl) rfl ?_
    refine GoR.op rfl rfl (aOp_lenSlice Try.underlying96 rfl hlenS) rfl ?_
    refine GoR.op rfl rfl rfl rfl ?_
    refine GoR.end ?_
    refine Go.block noJ_ok ?_
    rw [← hw, htake] at f88
    have hr10 : ∀ r, r ∈ l → r ≤ 10 := fun r hr => (hlin r hr).2
    have hpl' : (G.ts.all fun T => possB G.a G.b G.c T l) = p l := by rw [← hp]
    have hb3 : ¬ h3.next = bb := by
      have := hx6
      have := x8.1
      omega
    refine Go.loopKeep (fun i : Nat => [(6, .ptr h3.next 0), (8, .slice bb 0 n n), (21, s), (22, .int .i64 G.hs.length), (23, .int .i64 (i : Nat))])
      (fun m i h' => m + i = G.hs.length ∧ Ext h h' ∧ ExtF (fun b => b = h3.next ∨ b = lb) hh h' ∧ ExtF (fun b => b = h3.next) h6 h' ∧ Has h' h3.next (.cells .plain [.bool false] 4) ∧
        Has h' bb (.cells .plain (l.map (wV G.a G.b G.c)) 134) ∧ Has h' lb (.loop { r0 with state := .busy }) ∧ ((G.ts.take i).all fun T => possB G.a G.b G.c T l) = true)
      (n := G.hs.length) 0 ⟨rfl, rfl, rfl, rfl, rfl, trivial⟩ ⟨rfl, e9, y0, y1, f, f88, fl, by rw [List.take_zero]; rfl⟩ ?_
    clear e9 y0 y1 f f88 fl f0 f2 f9
    rintro m i hc ⟨hm, e0, y0, y1, f, f88, fl, hall⟩ again
    by_cases hi' : i < G.hs.length
    · have TC := TF hc y1
      obtain ⟨T, hT⟩ : ∃ T, G.ts[i]? = some T := ⟨G.ts[i]'(by omega), by simp⟩
      obtain ⟨sl, hsl⟩ : ∃ sl, sls[i]? = some sl := ⟨sls[i]'(by omega), by simp⟩
      obtain ⟨bq, off, q1, q2⟩ := TC.s.at (i := i) (l := T.cells sl) (by rw [List.getElem?_map, List.getElem?_zip_eq_some (z := (T, sl)) |>.2 ⟨hT, hsl⟩]; rfl)
      rw [List.length_map, List.length_zip, hsls, hz, Nat.min_self] at q1
      have hTO := O.ts T (List.mem_of_getElem? hT)
      have hsc := tcells_scal (t := T) (TC.l i T sl hT hsl)
      have htk : ((G.ts.take (i + 1)).all fun T => possB G.a G.b G.c T l) = possB G.a G.b G.c T l := by
        rw [List.take_add_one, hT, Option.toList_some, List.all_append, hall]
        simp
      have hpo := fun h' (y : ExtF (fun b => b = h3.next) h6 h') f => possible_ok D hTO sl bb n l hll hn6 hr10 h' f ((TF _ y).l i T sl hT hsl)
      unfold TurfV.cells at hsc q2 hpo
      cases hb : possB G.a G.b G.c T l with
      | true =>
        rw [hb] at htk hpo
        refine Go.seq noJ_ok ?_
        refine Go.region noJ_ok rfl ?_
        refine GoR.op rfl rfl (aOp_lss rfl rfl (r := true) (decide_eq_true (by omega))) rfl ?_
        refine GoR.end ?_
        refine Go.seq noJ_ok ?_
        refine Go.cond noJ_ok (b := true) rfl ?_
        refine Go.code noJ_ok ?_
        refine Go.seq noJ_ok ?_
        refine Go.block noJ_ok ?_
        refine Go.seq noJ_ok ?_
        refine Go.region noJ_ok rfl ?_
        refine GoR.op rfl rfl (aOp_indexAddr Try.underlying96 sz106 rfl q1 rfl (Nat.ble_eq_true_of_le hi')) rfl ?_
        refine GoR.op rfl rfl (aOp_loadE ag106 sz106 rfl q2) rfl ?_
        refine GoR.alloc rfl rfl rfl zt106 rfl rfl fun h89 x89 f89 => ?_
        have := e0.1
        have := f.1
        have := f88.1
        have := fl.1
        replace f := f.ext x89
        replace f88 := f88.ext x89
        replace fl := fl.ext x89
        replace e0 := e0.trans x89
        replace y0 := y0.ext x89
        replace y1 := y1.ext x89
        have := f89.1
        refine GoR.store rfl rfl rfl rfl rfl rfl f89 rfl sz106 rfl hsc rfl fun h90 u90 => ?_
        replace f89 := u90.has f89
        replace f := f.upd u90 (by omega)
        replace f88 := f88.upd u90 (by omega)
        replace fl := fl.upd u90 (by omega)
        first | replace e0 := e0.upd u90 (by omega) | clear e0
        first | replace y0 := y0.upd u90 (by first | exact .inl rfl | exact .inl (.inl rfl) | exact .inl (.inr rfl) | exact .inl (by assumption) | exact .inr (by omega)) | skip
        first | replace y1 := y1.upd u90 (by first | exact .inl rfl | exact .inl (.inl rfl) | exact .inl (.inr rfl) | exact .inl (by assumption) | exact .inr (by omega)) | skip
        refine GoR.end ?_
        refine Go.seq noJ_ok ?_
        refine Go.region noJ_ok rfl ?_
        refine GoR.op rfl rfl (ld106 rfl f89 rfl) rfl ?_
        refine GoR.op rfl rfl rfl rfl ?_
        refine GoR.call rfl rfl (aOp_callFunc aFunc71 rfl) (hpo _ y1 f88) ?_ (by rintro _ _ ⟨q, _⟩; cases q)
        rintro v91 h91 ⟨q, x91⟩
        cases q
        refine ⟨_, rfl, ?_⟩
        replace f89 := f89.ext x91
        replace f := f.ext x91
        replace f88 := f88.ext x91
        replace fl := fl.ext x91
        replace e0 := e0.trans x91
        replace y0 := y0.ext x91
        replace y1 := y1.ext x91
        refine GoR.op rfl rfl rfl rfl ?_
        refine GoR.end ?_
        refine Go.cond noJ_ok (b := false) rfl ?_
        refine Go.code noJ_ok ?_
        refine Go.inBlock noJ_ok ?_
        refine Go.region noJ_ok rfl ?_
        refine GoR.op rfl rfl (aOp_add rfl rfl (by constructor <;> omega) rfl) rfl ?_
        refine GoR.op rfl rfl rfl rfl ?_
        refine GoR.end ?_
        exact again (m - 1) (i + 1) _ _ (by omega) ⟨rfl, rfl, rfl, rfl, rfl, trivial⟩ ⟨by omega, e0, y0, y1, f, f88, fl, htk⟩
      | false =>
        rw [hb] at hpo
        have hpf : p l = false := by
          rw [← hpl', List.all_eq_false]
          exact ⟨T, List.mem_of_getElem? hT, by rw [hb]; decide⟩
        refine Go.seq noJ_ok ?_
        refine Go.region noJ_ok rfl ?_
        refine GoR.op rfl rfl (aOp_lss rfl rfl (r := true) (decide_eq_true (by omega))) rfl ?_
        refine GoR.end ?_
        refine Go.seq noJ_ok ?_
        refine Go.cond noJ_ok (b := true) rfl ?_
        refine Go.code noJ_ok ?_
        refine Go.seq noJ_ok ?_
        refine Go.block noJ_ok ?_
        refine Go.seq noJ_ok ?_
        refine Go.region noJ_ok rfl ?_
        refine GoR.op rfl rfl (aOp_indexAddr Try.underlying96 sz106 rfl q1 rfl (Nat.ble_eq_true_of_le hi')) rfl ?_
        refine GoR.op rfl rfl (aOp_loadE ag106 sz106 rfl q2) rfl ?_
        refine GoR.alloc rfl rfl rfl zt106 rfl rfl fun h89 x89 f89 => ?_
        have := e0.1
        have := f.1
        have := f88.1
        have := fl.1
        replace f := f.ext x89
        replace f88 := f88.ext x89
        replace fl := fl.ext x89
        replace e0 := e0.trans x89
        replace y0 := y0.ext x89
        replace y1 := y1.ext x89
        have := f89.1
        refine GoR.store rfl rfl rfl rfl rfl rfl f89 rfl sz106 rfl hsc rfl fun h90 u90 => ?_
        replace f89 := u90.has f89
        replace f := f.upd u90 (by omega)
        replace f88 := f88.upd u90 (by omega)
        replace fl := fl.upd u90 (by omega)
        first | replace e0 := e0.upd u90 (by omega) | clear e0
        first | replace y0 := y0.upd u90 (by first | exact .inl rfl | exact .inl (.inl rfl) | exact .inl (.inr rfl) | exact .inl (by assumption) | exact .inr (by omega)) | skip
        first | replace y1 := y1.upd u90 (by first | exact .inl rfl | exact .inl (.inl rfl) | exact .inl (.inr rfl) | exact .inl (by assumption) | exact .inr (by omega)) | skip
        refine GoR.end ?_
        refine Go.seq noJ_ok ?_
        refine Go.region noJ_ok rfl ?_
        refine GoR.op rfl rfl (ld106 rfl f89 rfl) rfl ?_
        refine GoR.op rfl rfl rfl rfl ?_
        refine GoR.call rfl rfl (aOp_callFunc aFunc71 rfl) (hpo _ y1 f88) ?_ (by rintro _ _ ⟨q, _⟩; cases q)
        rintro v91 h91 ⟨q, x91⟩
        cases q
        refine ⟨_, rfl, ?_⟩
        replace f89 := f89.ext x91
        replace f := f.ext x91
        replace f88 := f88.ext x91
        replace fl := fl.ext x91
        replace e0 := e0.trans x91
        replace y0 := y0.ext x91
        replace y1 := y1.ext x91
        refine GoR.op rfl rfl rfl rfl ?_
        refine GoR.end ?_
        refine Go.cond noJ_ok (b := true) rfl ?_
        refine Go.code noJ_ok ?_
        exact contT _ _ ⟨f, by rw [hnext]; exact hpf⟩ y0 fl
    · have hin : i = G.hs.length := by omega
      subst hin
      rw [← hz, List.take_length, hpl'] at hall
      have hcan' : G.canB = true := by
        rw [hcan, List.any_eq_true]
        exact ⟨l, hlm, hall⟩
      refine Go.seq noJ_ok ?_
      refine Go.region noJ_ok rfl ?_
      refine GoR.op rfl rfl (aOp_lss rfl rfl (r := false) (decide_eq_false (by omega))) rfl ?_
      refine GoR.end ?_
      refine Go.seq noJ_ok ?_
      refine Go.cond noJ_ok (b := false) rfl ?_
      refine Go.code noJ_ok ?_
      refine Go.seq noJ_ok ?_
      refine Go.region noJ_ok rfl ?_
      refine GoR.store rfl rfl rfl rfl rfl rfl f rfl sz4 rfl rfl rfl fun h89 u89 => ?_
      replace f := u89.has f
      replace f88 := f88.upd u89 (by omega)
      replace fl := fl.upd u89 (by omega)
      first | replace e0 := e0.upd u89 (by omega) | clear e0
      first | replace y0 := y0.upd u89 (by first | exact .inl rfl | exact .inl (.inl rfl) | exact .inl (.inr rfl) | exact .inl (by assumption) | exact .inr (by omega)) | skip
      first | replace y1 := y1.upd u89 (by first | exact .inl rfl | exact .inl (.inl rfl) | exact .inl (.inr rfl) | exact .inl (by assumption) | exact .inr (by omega)) | skip
      refine GoR.end ?_
      exact contF _ _ _ _ (.inr ⟨0, rfl, rfl⟩) ⟨rfl, f, hcan'⟩ y0 fl
  · intro d h8 x8 hd hdd ⟨f, hany⟩
    have hx8 := x8.1
    have e9 : Ext h h8 := FA h8 x8
    have hfl : (fallI [] G.rs).length = (falls G.rs).length := by simp [fallI]
    rw [hfl, List.take_length, ← hcan] at hany
    clear e0 f0 f2 f4 f77
    refine Go.inBlock noJ_ok ?_
    refine Go.seq noJ_ok ?_
    refine Go.region noJ_ok rfl ?_
    refine GoR.op rfl rfl (ld4 rfl f rfl) rfl ?_
    refine GoR.op rfl rfl rfl rfl ?_
    refine GoR.end ?_
    exact Go.retC hdd fun h10 u10 => ⟨aResult_of Try.func51 rfl rfl, by rw [hany]; rfl, e9.upd u10 (by omega)⟩
  · rintro c' d h8 x8 hd hdd ⟨rfl, f, hcan'⟩
    have hx8 := x8.1
    have e9 : Ext h h8 := FA h8 x8
    clear e0 f0 f2 f4 f77
    refine Go.code noJ_ok ?_
    refine Go.seq noJ_ok ?_
    refine Go.region noJ_ok rfl ?_
    refine GoR.op rfl rfl (ld4 rfl f rfl) rfl ?_
    refine GoR.op rfl rfl rfl rfl ?_
    refine GoR.end ?_
    exact Go.retC hdd fun h10 u10 => ⟨aResult_of Try.func51 rfl rfl, by rw [hcan']; rfl, e9.upd u10 (by omega)⟩
end Go.Proofs.Ytmdheijpnlonoaa

namespace Go.Proofs.Ytmdheijpnlonoaa
open Go Go.AbsE
set_option linter.unusedSimpArgs false
set_option maxRecDepth 100000
set_option maxHeartbeats 0
set_option linter.unusedVariables false
theorem lk_len : ∀ L : List LookV, (L.flatMap LookV.cells).length = L.length * 4
  | [] => rfl
  | x :: L => by rw [List.flatMap_cons, List.length_append, lk_len L, List.length_cons, Nat.add_mul]; show 4 + _ = _; omega
theorem lk_take (L : List LookV) (Z : List AVal) {i : Nat} (hi : i ≤ L.length) : (L.flatMap LookV.cells ++ Z).take (i * 4) = (L.take i).flatMap LookV.cells := by
  have h : L.flatMap LookV.cells = (L.take i).flatMap LookV.cells ++ (L.drop i).flatMap LookV.cells := by rw [← List.flatMap_append, List.take_append_drop]
  have hl : ((L.take i).flatMap LookV.cells).length = i * 4 := by rw [lk_len, List.length_take, Nat.min_eq_left hi]
  rw [h, List.append_assoc, ← hl, List.take_left']
  rfl
theorem lk_drop (L : List LookV) (Z : List AVal) {i : Nat} (hi : i ≤ L.length) : (L.flatMap LookV.cells ++ Z).drop (i * 4) = (L.drop i).flatMap LookV.cells ++ Z := by
  have h : L.flatMap LookV.cells = (L.take i).flatMap LookV.cells ++ (L.drop i).flatMap LookV.cells := by rw [← List.flatMap_append, List.take_append_drop]
  have hl : ((L.take i).flatMap LookV.cells).length = i * 4 := by rw [lk_len, List.length_take, Nat.min_eq_left hi]
  rw [h, List.append_assoc, ← hl, List.drop_left']
  rfl
theorem lk_scal : ∀ L : List LookV, scalars (L.flatMap LookV.cells) = true
  | [] => rfl
  | x :: L => by
    have := lk_scal L
    show scalars ([AVal.int .i64 x.heap, .int .i64 x.day, .int .i64 x.lo, .int .i64 x.hi] ++ L.flatMap LookV.cells) = true
    show cond true (cond true (cond true (cond true (scalars (L.flatMap LookV.cells)) false) false) false) false = true
    rw [this]
    rfl
theorem lk_src {h : AH} {b n off len cap : Nat} {g : Kd} {el : TypeId} (L : List LookV) (Z : List AVal) (f : Has h b (.cells g (L.flatMap LookV.cells ++ Z) el)) {i : Nat} (hi : i + n ≤ L.length) (ho : off = i * 4) : srcCells h 4 n (.slice b off len cap) = some (((L.drop i).take n).flatMap LookV.cells) := by
  subst ho
  have h2 := lk_drop L Z (i := i) (by omega)
  have h3 := lk_take (L.drop i) Z (i := n) (by rw [List.length_drop]; omega)
  show AbsE.loadCells h b (i * 4) (n * 4) = _
  unfold AbsE.loadCells
  rw [f.2]
  show slice? (L.flatMap LookV.cells ++ Z) (i * 4) (n * 4) = _
  unfold slice?
  dsimp only
  rw [h2, h3, lk_len, List.length_take, List.length_drop, Nat.min_eq_left (by omega)]
  simp
theorem lk_move (L : List LookV) (Z : List AVal) {i : Nat} (hi : i < L.length) : ∃ Z', splice (L.flatMap LookV.cells ++ Z) (i * 4) ((L.drop (i + 1)).flatMap LookV.cells) = some ((L.eraseIdx i).flatMap LookV.cells ++ Z') ∧ Z'.length = Z.length + 4 := by
  have hd : ((L.drop (i + 1)).flatMap LookV.cells).length = (L.length - (i + 1)) * 4 := by rw [lk_len, List.length_drop]
  have hsum : i * 4 + (L.length - (i + 1)) * 4 = (L.length - 1) * 4 := by omega
  refine ⟨(L.flatMap LookV.cells ++ Z).drop (i * 4 + ((L.drop (i + 1)).flatMap LookV.cells).length), ?_, ?_⟩
  · rw [splice_eq (by rw [hd, List.length_append, lk_len]; omega), lk_take L Z (by omega), ← List.flatMap_append, ← List.eraseIdx_eq_take_drop_succ]
  · rw [List.length_drop, hd, List.length_append, lk_len]
    omega
theorem lk_put (L : List LookV) (Z : List AVal) {m : Nat} (hL : L.length = m) {new : List AVal} (hn : new.length ≤ Z.length) : splice (L.flatMap LookV.cells ++ Z) (m * 4) new = some (L.flatMap LookV.cells ++ (new ++ Z.drop new.length)) := by
  subst hL
  rw [splice_eq (by rw [List.length_append, lk_len]; omega), lk_take L Z (Nat.le_refl _), List.take_length, List.append_assoc]
  congr 3
  have := List.drop_append (l₁ := L.flatMap LookV.cells) (l₂ := Z) (i := L.length * 4 + new.length)
  rw [this, lk_len, List.drop_eq_nil_of_le (by rw [lk_len]; omega), List.nil_append]
  congr 1
  omega
theorem delete81_ok {b n N i : Nat} (L : List LookV) (Z : List AVal) (hL : L.length = n) (hi : i < n) (hN : n ≤ N) (hN5 : N ≤ 100) (hZ : Z.length = (N - n) * 4) (h : AH) (f : Has h b (.cells .plain (L.flatMap LookV.cells ++ Z) 59)) :
    Runs Try.prog 81 [.slice b 0 n N, .int .i64 (i : Nat), .int .i64 ((i : Nat) + 1)] h (fun en h' => en = .ret (.slice b 0 (n - 1) N) ∧ ExtF (fun c => c = b) h h' ∧ ∃ Z', Z'.length = (N - (n - 1)) * 4 ∧ Has h' b (.cells .plain ((L.eraseIdx i).flatMap LookV.cells ++ Z') 59)) := by
  have y0 : ExtF (fun c => c = b) h h := ExtF.of (Ext.refl _)
  have hfb := f.1
  obtain ⟨Z1, m1, m2⟩ := lk_move L Z (i := i) (by omega)
  by_cases hlast : i + 1 ≠ N
  · refine Runs.intro aFunc81 rfl rfl rfl rfl fun rest => ?_
    refine Go.seq noJ_ok ?_
    refine Go.region noJ_ok rfl ?_
    refine GoR.op rfl rfl rfl rfl ?_
    refine GoR.end ?_
    refine Go.seq noJ_ok ?_
    refine Go.region noJ_ok rfl ?_
    iterate 4 refine GoR.op rfl rfl rfl rfl ?_
    refine GoR.op rfl rfl (aOp_lenSlice Try.underlying25 rfl (n := n) rfl) rfl ?_
    refine GoR.op rfl rfl (aOp_slice3 (l := i) (hh := i + 1) (m := n) Try.underlying25 sz59 rfl rfl rfl rfl (by omega) (by omega) (by omega) (by omega)) rfl ?_
    refine GoR.end ?_
    iterate 2 refine Go.seq noJ_ok ?_
    refine Go.region noJ_ok rfl ?_
    iterate 2 refine GoR.op rfl rfl rfl rfl ?_
    refine GoR.op rfl rfl (aOp_eql rfl rfl (r := false) (decide_eq_false (by omega))) rfl ?_
    refine GoR.end ?_
    refine Go.cond noJ_ok (b := false) rfl ?_
    refine Go.code noJ_ok ?_
    refine Go.seq noJ_ok ?_
    refine Go.region noJ_ok rfl ?_
    refine GoR.op rfl rfl rfl rfl ?_
    refine GoR.op rfl rfl (aOp_lenSlice Try.underlying25 rfl (n := n) rfl) rfl ?_
    refine GoR.op rfl rfl rfl rfl ?_
    refine GoR.end ?_
    refine Go.seq noJ_ok ?_
    refine Go.drawnE plan81_0 ?_
    iterate 2 refine GoE.quiet rfl rfl rfl rfl ?_
    refine GoE.quiet rfl rfl (aOp_slice Try.underlying25 sz59 rfl rfl rfl (cut_hi (i := i) (by omega)) hN (by omega)) rfl ?_
    iterate 2 refine GoE.quiet rfl rfl rfl rfl ?_
    refine GoE.quiet rfl rfl (aOp_slice Try.underlying25 sz59 rfl rfl rfl (cut_lo (i := i + 1) (by omega)) hN hlast) rfl ?_
    refine GoE.appendIn rfl rfl Try.underlying25 Try.underlying25 sz59 by59 zt59 rfl rfl rfl rfl (n := n - (i + 1)) (m := n - 1) (new := (L.drop (i + 1)).flatMap LookV.cells) rfl (by rw [lk_src L Z f (i := i + 1) (n := n - (i + 1)) (by omega) (by omega), List.take_of_length_le (by rw [List.length_drop]; omega)]) (by omega) (by omega) (by omega) f rfl (lk_scal _) (by rw [Nat.zero_add, Nat.sub_zero]; exact m1) (dropF_drop (show bit? 63 5 = true from rfl) (dropF_drop (show bit? 63 4 = true from rfl) (dropF_drop (show bit? 63 3 = true from rfl) (dropF_drop (show bit? 63 2 = true from rfl) (dropF_drop (show bit? 63 1 = true from rfl) (dropF_drop (show bit? 63 0 = true from rfl) rfl)))))) rfl rfl fun h1 u1 => ?_
    refine ⟨recheck_nil, ?_⟩
    replace f := u1.has f
    replace y0 := y0.upd u1 (.inl rfl)
    refine GoE.quiet rfl rfl rfl rfl ?_
    refine GoE.end rfl ?_
    refine Go.seq noJ_ok ?_
    refine Go.region noJ_ok rfl ?_
    iterate 2 refine GoR.op rfl rfl rfl rfl ?_
    refine GoR.op rfl rfl (aOp_lenSlice Try.underlying25 rfl (n := n - 1) rfl) rfl ?_
    refine GoR.op rfl rfl rfl rfl ?_
    refine GoR.op rfl rfl (aOp_slice Try.underlying25 sz59 rfl rfl rfl (cut_both (l := n - 1) (hh := n) (by omega) (by omega)) (by omega) (by omega)) rfl ?_
    refine GoR.clear rfl rfl Try.underlying25 zt59 rfl (by omega) f rfl (by rw [show n - (n - 1) = 1 by omega]; rfl) (by rw [Nat.zero_add, show n - (n - 1) = 1 by omega]; exact lk_put _ _ (by rw [List.length_eraseIdx_of_lt (by omega)]; omega) (new := repl (AVal.agg [.int .i64 0, .int .i64 0, .int .i64 0, .int .i64 0]).cells 1) (by rw [m2]; show 4 ≤ _; omega)) fun h2 u2 => ?_
    replace f := u2.has f
    replace y0 := y0.upd u2 (.inl rfl)
    refine GoR.end ?_
    refine Go.seq noJ_ok ?_
    refine Go.region noJ_ok rfl ?_
    iterate 2 refine GoR.op rfl rfl rfl rfl ?_
    refine GoR.end ?_
    exact Go.ret noJ_ok (ret_end (aResult_of Try.func81 rfl rfl) ⟨rfl, y0, _, (by rw [List.length_append, List.length_drop, m2, hZ]; show 4 + (_ - 4) = _; omega), f⟩)
  · have hlast : i + 1 = N := by omega
    subst hlast
    refine Runs.intro aFunc81 rfl rfl rfl rfl fun rest => ?_
    refine Go.seq noJ_ok ?_
    refine Go.region noJ_ok rfl ?_
    refine GoR.op rfl rfl rfl rfl ?_
    refine GoR.end ?_
    refine Go.seq noJ_ok ?_
    refine Go.region noJ_ok rfl ?_
    iterate 4 refine GoR.op rfl rfl rfl rfl ?_
    refine GoR.op rfl rfl (aOp_lenSlice Try.underlying25 rfl (n := n) rfl) rfl ?_
    refine GoR.op rfl rfl (aOp_slice3 (l := i) (hh := i + 1) (m := n) Try.underlying25 sz59 rfl rfl rfl rfl (by omega) (by omega) (by omega) (by omega)) rfl ?_
    refine GoR.end ?_
    iterate 2 refine Go.seq noJ_ok ?_
    refine Go.region noJ_ok rfl ?_
    iterate 2 refine GoR.op rfl rfl rfl rfl ?_
    refine GoR.op rfl rfl (aOp_eql rfl rfl (r := false) (decide_eq_false (by omega))) rfl ?_
    refine GoR.end ?_
    refine Go.cond noJ_ok (b := false) rfl ?_
    refine Go.code noJ_ok ?_
    refine Go.seq noJ_ok ?_
    refine Go.region noJ_ok rfl ?_
    refine GoR.op rfl rfl rfl rfl ?_
    refine GoR.op rfl rfl (aOp_lenSlice Try.underlying25 rfl (n := n) rfl) rfl ?_
    refine GoR.op rfl rfl rfl rfl ?_
    refine GoR.end ?_
    refine Go.seq noJ_ok ?_
    refine Go.drawnE plan81_0 ?_
    iterate 2 refine GoE.quiet rfl rfl rfl rfl ?_
    refine GoE.quiet rfl rfl (aOp_slice Try.underlying25 sz59 rfl rfl rfl (cut_hi (i := i) (by omega)) hN (by omega)) rfl ?_
    iterate 2 refine GoE.quiet rfl rfl rfl rfl ?_
    refine GoE.quiet rfl rfl (aOp_sliceAll Try.underlying25 sz59 rfl rfl rfl (cut_lo (i := i + 1) (by omega)) hN) rfl ?_
    refine GoE.appendIn rfl rfl Try.underlying25 Try.underlying25 sz59 by59 zt59 rfl rfl rfl rfl (n := n - (i + 1)) (m := n - 1) (new := (L.drop (i + 1)).flatMap LookV.cells) rfl (by rw [lk_src L Z f (i := 0) (n := n - (i + 1)) (by omega) (by omega), show n - (i + 1) = 0 by omega, List.take_zero, List.drop_eq_nil_of_le (by omega)]) (by omega) (by omega) (by omega) f rfl (lk_scal _) (by rw [Nat.zero_add, Nat.sub_zero]; exact m1) (dropF_drop (show bit? 63 5 = true from rfl) (dropF_drop (show bit? 63 4 = true from rfl) (dropF_drop (show bit? 63 3 = true from rfl) (dropF_drop (show bit? 63 2 = true from rfl) (dropF_drop (show bit? 63 1 = true from rfl) (dropF_drop (show bit? 63 0 = true from rfl) rfl)))))) rfl rfl fun h1 u1 => ?_
    refine ⟨recheck_nil, ?_⟩
    replace f := u1.has f
    replace y0 := y0.upd u1 (.inl rfl)
    refine GoE.quiet rfl rfl rfl rfl ?_
    refine GoE.end rfl ?_
    refine Go.seq noJ_ok ?_
    refine Go.region noJ_ok rfl ?_
    iterate 2 refine GoR.op rfl rfl rfl rfl ?_
    refine GoR.op rfl rfl (aOp_lenSlice Try.underlying25 rfl (n := n - 1) rfl) rfl ?_
    refine GoR.op rfl rfl rfl rfl ?_
    refine GoR.op rfl rfl (aOp_slice Try.underlying25 sz59 rfl rfl rfl (cut_both (l := n - 1) (hh := n) (by omega) (by omega)) (by omega) (by omega)) rfl ?_
    refine GoR.clear rfl rfl Try.underlying25 zt59 rfl (by omega) f rfl (by rw [show n - (n - 1) = 1 by omega]; rfl) (by rw [Nat.zero_add, show n - (n - 1) = 1 by omega]; exact lk_put _ _ (by rw [List.length_eraseIdx_of_lt (by omega)]; omega) (new := repl (AVal.agg [.int .i64 0, .int .i64 0, .int .i64 0, .int .i64 0]).cells 1) (by rw [m2]; show 4 ≤ _; omega)) fun h2 u2 => ?_
    replace f := u2.has f
    replace y0 := y0.upd u2 (.inl rfl)
    refine GoR.end ?_
    refine Go.seq noJ_ok ?_
    refine Go.region noJ_ok rfl ?_
    iterate 2 refine GoR.op rfl rfl rfl rfl ?_
    refine GoR.end ?_
    exact Go.ret noJ_ok (ret_end (aResult_of Try.func81 rfl rfl) ⟨rfl, y0, _, (by rw [List.length_append, List.length_drop, m2, hZ]; show 4 + (_ - 4) = _; omega), f⟩)
end Go.Proofs.Ytmdheijpnlonoaa

namespace Go.Proofs.Ytmdheijpnlonoaa
open Go Go.AbsE
set_option linter.unusedSimpArgs false
set_option maxRecDepth 100000
set_option maxHeartbeats 0
set_option linter.unusedVariables false
def bitB (out : Int) (i : Nat) : Bool := decide (out.fdiv (2 ^ i) % 2 = 1)
def wo (out : Int) : Nat → List LookV → List LookV
  | _, [] => []
  | k, x :: L => if bitB out k then wo out (k + 1) L else x :: wo out (k + 1) L
theorem wo_mem {out : Int} : ∀ {k : Nat} {L : List LookV} {x : LookV}, x ∈ wo out k L → x ∈ L
  | _, [], _, h => h
  | k, y :: L, x, h => by
    unfold wo at h
    split at h
    · exact List.mem_cons_of_mem _ (wo_mem h)
    · rcases List.mem_cons.1 h with rfl | h
      · exact List.mem_cons_self
      · exact List.mem_cons_of_mem _ (wo_mem h)
theorem wo_len {out : Int} : ∀ {k : Nat} {L : List LookV}, (wo out k L).length ≤ L.length
  | _, [] => Nat.le_refl _
  | k, y :: L => by
    have := wo_len (out := out) (k := k + 1) (L := L)
    unfold wo
    split
    · simp; omega
    · simp; omega
def woAt (out : Int) (L : List LookV) (r : Nat) : List LookV := L.take r ++ wo out r (L.drop r)
theorem woAt_len (out : Int) (L : List LookV) {r : Nat} (hr : r ≤ L.length) : r ≤ (woAt out L r).length ∧ (woAt out L r).length ≤ L.length := by
  have := wo_len (out := out) (k := r) (L := L.drop r)
  rw [List.length_drop] at this
  unfold woAt
  rw [List.length_append, List.length_take, Nat.min_eq_left hr]
  omega
theorem woAt_succ (out : Int) (L : List LookV) {i : Nat} (hi : i < L.length) : woAt out L i = if bitB out i then (woAt out L (i + 1)).eraseIdx i else woAt out L (i + 1) := by
  have hd : L.drop i = L[i] :: L.drop (i + 1) := List.drop_eq_getElem_cons hi
  have ht : L.take (i + 1) = L.take i ++ [L[i]] := by rw [List.take_add_one]; simp [hi]
  have hl : (L.take i).length = i := by rw [List.length_take]; omega
  unfold woAt
  rw [hd, ht]
  cases h : bitB out i with
  | true =>
    rw [if_pos rfl]
    conv => lhs; unfold wo
    rw [h, if_pos rfl, List.append_assoc, List.eraseIdx_append_of_length_le (by omega), hl, Nat.sub_self]
    rfl
  | false =>
    rw [if_neg (by decide)]
    conv => lhs; unfold wo
    rw [h, if_neg (by decide), List.append_assoc]
    rfl
theorem without52_ok {F : FieldV} (hn5 : F.looks.length ≤ 5) (hsl rsl lsl : AVal) (out : Int) (h : AH) (A : FieldAt h F hsl rsl lsl) :
    Runs Try.prog 52 [.agg (F.cells hsl rsl lsl), .int .i64 out] h (fun en h' => ∃ s, en = .ret s ∧ Ext h h' ∧ SliceOf h' 4 s ((wo out 0 F.looks).map LookV.cells)) := by
  have hl3 := A.ls.len
  rw [List.length_map] at hl3
  obtain ⟨N, hN⟩ : ∃ N, F.looks.length = N := ⟨_, rfl⟩
  rw [hN] at hl3 hn5
  unfold FieldV.cells fieldC
  refine Runs.intro aFunc52 rfl rfl rfl rfl fun rest => ?_
  refine Go.seq noJ_ok ?_
  refine Go.region noJ_ok rfl ?_
  refine GoR.box rfl rfl rfl rfl rfl rfl fun h0 x0 f0 => ?_
  have e0 := x0
  have := f0.1
  refine GoR.op rfl rfl rfl rfl ?_
  refine GoR.end ?_
  refine Go.seq noJ_ok ?_
  refine Go.region noJ_ok rfl ?_
  refine GoR.op rfl rfl (fa74_4 rfl) rfl ?_
  refine GoR.op rfl rfl (ld25 rfl f0 rfl) rfl ?_
  refine GoR.op rfl rfl (aOp_lenSlice Try.underlying25 rfl hl3) rfl ?_
  refine GoR.makeSl rfl rfl rfl Try.underlying25 rfl rfl sz59 by59 zt59 rfl (Nat.ble_eq_true_of_le (by omega)) rfl rfl fun h8 x8 f8 => ?_
  have := f0.1
  have := e0.1
  replace f0 := f0.ext x8
  replace e0 := e0.trans x8
  refine GoR.op rfl rfl rfl rfl ?_
  refine GoR.end ?_
  refine Go.seq noJ_ok ?_
  refine Go.region noJ_ok rfl ?_
  refine GoR.op rfl rfl rfl rfl ?_
  refine GoR.op rfl rfl (fa74_4 rfl) rfl ?_
  refine GoR.op rfl rfl (ld25 rfl f0 rfl) rfl ?_
  have hsrc := (A.ls.ext e0).src
  rw [List.length_map, hN, ← List.flatMap_def] at hsrc
  refine GoR.copyIn rfl rfl Try.underlying25 sz59 rfl rfl hl3 (Nat.min_self N) hsrc f8 rfl (lk_scal _) (splice_whole (by rw [lk_len, hN]; show (repl _ N).length = _; rw [repl_eq]; simp; rfl)) rfl fun h9 u9 => ?_
  have hb8 := f8.1
  replace f8 := u9.has f8
  replace f0 := f0.upd u9 (by omega)
  replace e0 := e0.upd u9 (by omega)
  refine GoR.end ?_
  iterate 2 refine Go.seq noJ_ok ?_
  refine Go.region noJ_ok rfl ?_
  refine GoR.op rfl rfl rfl rfl ?_
  refine GoR.op rfl rfl (aOp_lenSlice Try.underlying25 rfl (n := N) rfl) rfl ?_
  refine GoR.op rfl rfl (aOp_sub rfl rfl (by constructor <;> omega) rfl) rfl ?_
  refine GoR.op rfl rfl rfl rfl ?_
  refine GoR.end ?_
  refine Go.block noJ_ok ?_
  have hw0 : woAt out F.looks N = F.looks := by
    unfold woAt
    rw [← hN, List.take_length, List.drop_length]
    simp [wo]
  have hbn : h.next < h0.next := by assumption
  refine Go.loopKeep (fun r : Nat => [(1, .int .i64 out), (5, .slice h0.next 0 (woAt out F.looks r).length N), (6, .int .i64 ((r : Nat) - 1))])
    (fun m r h' => m = r ∧ r ≤ N ∧ Ext h h' ∧ ∃ Z, Z.length = (N - (woAt out F.looks r).length) * 4 ∧ Has h' h0.next (.cells .plain ((woAt out F.looks r).flatMap LookV.cells ++ Z) 59))
    (n := N) N ⟨rfl, by rw [hw0, hN]; rfl, rfl, trivial⟩ ⟨rfl, Nat.le_refl _, e0, [], by rw [hw0, hN]; simp, by rw [hw0, List.append_nil]; exact f8⟩ ?_
  clear e0 f8 f0
  rintro m r hh ⟨rfl, hr, e0, Z, hZ, f⟩ again
  by_cases hr0 : m = 0
  · subst hr0
    have hws : woAt out F.looks 0 = wo out 0 F.looks := by unfold woAt; simp
    have hres : SliceOf hh 4 (.slice h0.next 0 (woAt out F.looks 0).length N) ((wo out 0 F.looks).map LookV.cells) := by
      rw [hws] at f ⊢
      refine SliceOf.mk' (by rw [List.length_map]; rfl) (by rw [List.length_map]; rfl) f rfl (fun i l hl => ?_)
      rw [Nat.zero_add, List.flatMap_def]
      exact slice_flatten_app (fun l hl => by obtain ⟨_, _, rfl⟩ := List.mem_map.1 hl; rfl) i l hl
    iterate 2 refine Go.seq noJ_ok ?_
    refine Go.region noJ_ok rfl ?_
    refine GoR.op rfl rfl rfl rfl ?_
    refine GoR.op rfl rfl (aOp_geq rfl rfl (r := false) (decide_eq_false (by omega))) rfl ?_
    refine GoR.end ?_
    refine Go.cond noJ_ok (b := false) rfl ?_
    refine Go.code noJ_ok ?_
    refine Go.seq noJ_ok ?_
    refine Go.region noJ_ok rfl ?_
    iterate 2 refine GoR.op rfl rfl rfl rfl ?_
    refine GoR.end ?_
    exact Go.ret noJ_ok (ret_end (aResult_of Try.func52 rfl rfl) ⟨_, rfl, e0, hres⟩)
  · obtain ⟨i, rfl⟩ : ∃ i, m = i + 1 := ⟨m - 1, by omega⟩
    have hv : ((i + 1 : Nat) : Int) - 1 = (i : Nat) := by omega
    rw [hv]
    have hwl := woAt_len out F.looks (r := i + 1) (by omega)
    have hsucc := woAt_succ out F.looks (i := i) (by omega)
    rw [hN] at hwl
    have hfn := f.1
    cases hb : bitB out i with
    | false =>
      rw [hb, if_neg (by decide)] at hsucc
      have hne : decide (out.fdiv (2 ^ i) % 2 = 1) = false := hb
      iterate 2 refine Go.seq noJ_ok ?_
      refine Go.region noJ_ok rfl ?_
      refine GoR.op rfl rfl rfl rfl ?_
      refine GoR.op rfl rfl (aOp_geq rfl rfl (r := true) (decide_eq_true (by omega))) rfl ?_
      refine GoR.end ?_
      refine Go.cond noJ_ok (b := true) rfl ?_
      refine Go.code noJ_ok ?_
      refine Go.seq noJ_ok ?_
      refine Go.block noJ_ok ?_
      refine Go.seq noJ_ok ?_
      refine Go.region noJ_ok rfl ?_
      iterate 2 refine GoR.op rfl rfl rfl rfl ?_
      refine GoR.op rfl rfl (aOp_shr rfl rfl (by omega) rfl) rfl ?_
      refine GoR.op rfl rfl (aOp_and1 rfl rfl rfl) rfl ?_
      refine GoR.op rfl rfl (aOp_eql rfl rfl hne) rfl ?_
      refine GoR.end ?_
      refine Go.cond noJ_ok (b := false) rfl ?_
      refine Go.code noJ_ok ?_
      refine Go.inBlock noJ_ok ?_
      refine Go.region noJ_ok rfl ?_
      refine GoR.op rfl rfl rfl rfl ?_
      refine GoR.op rfl rfl (aOp_sub rfl rfl (by constructor <;> omega) rfl) rfl ?_
      refine GoR.op rfl rfl rfl rfl ?_
      refine GoR.end ?_
      exact again i i _ _ (by omega) ⟨rfl, by rw [hsucc]; rfl, rfl, trivial⟩ ⟨rfl, by omega, e0, Z, by rw [hsucc]; exact hZ, by rw [hsucc]; exact f⟩
    | true =>
      rw [hb, if_pos rfl] at hsucc
      have hne : decide (out.fdiv (2 ^ i) % 2 = 1) = true := hb
      have hdel := delete81_ok (b := h0.next) (N := N) (i := i) (woAt out F.looks (i + 1)) Z rfl (by omega) (by omega) (by omega) hZ hh f
      rw [← hsucc] at hdel
      have hwi : (woAt out F.looks i).length = (woAt out F.looks (i + 1)).length - 1 := by rw [hsucc, List.length_eraseIdx_of_lt (by omega)]
      rw [← hwi] at hdel
      iterate 2 refine Go.seq noJ_ok ?_
      refine Go.region noJ_ok rfl ?_
      refine GoR.op rfl rfl rfl rfl ?_
      refine GoR.op rfl rfl (aOp_geq rfl rfl (r := true) (decide_eq_true (by omega))) rfl ?_
      refine GoR.end ?_
      refine Go.cond noJ_ok (b := true) rfl ?_
      refine Go.code noJ_ok ?_
      refine Go.seq noJ_ok ?_
      refine Go.block noJ_ok ?_
      refine Go.seq noJ_ok ?_
      refine Go.region noJ_ok rfl ?_
      iterate 2 refine GoR.op rfl rfl rfl rfl ?_
      refine GoR.op rfl rfl (aOp_shr rfl rfl (by omega) rfl) rfl ?_
      refine GoR.op rfl rfl (aOp_and1 rfl rfl rfl) rfl ?_
      refine GoR.op rfl rfl (aOp_eql rfl rfl hne) rfl ?_
      refine GoR.end ?_
      refine Go.cond noJ_ok (b := true) rfl ?_
      refine Go.region noJ_ok rfl ?_
      iterate 3 refine GoR.op rfl rfl rfl rfl ?_
      refine GoR.op rfl rfl (aOp_add rfl rfl (by constructor <;> omega) rfl) rfl ?_
      refine GoR.call rfl rfl (aOp_callFunc aFunc81 rfl) hdel ?_ (by rintro _ _ ⟨q, _⟩; cases q)
      rintro v19 h19 ⟨q, y9, Z', hZ', f9⟩
      cases q
      refine ⟨_, rfl, ?_⟩
      have e9 := y9.low e0 (fun b q => by have : b = h0.next := q; omega)
      have hx := y9.1
      clear e0 f
      refine GoR.op rfl rfl rfl rfl ?_
      refine GoR.end ?_
      refine Go.inBlock noJ_ok ?_
      refine Go.region noJ_ok rfl ?_
      refine GoR.op rfl rfl rfl rfl ?_
      refine GoR.op rfl rfl (aOp_sub rfl rfl (by constructor <;> omega) rfl) rfl ?_
      refine GoR.op rfl rfl rfl rfl ?_
      refine GoR.end ?_
      exact again i i _ _ (by omega) ⟨rfl, rfl, rfl, trivial⟩ ⟨rfl, by omega, e9, Z', hZ', f9⟩
end Go.Proofs.Ytmdheijpnlonoaa

namespace Go.Proofs.Ytmdheijpnlonoaa
open Go Go.AbsE
set_option linter.unusedSimpArgs false
set_option maxRecDepth 100000
set_option maxHeartbeats 0
set_option linter.unusedVariables false
def popc (n : Nat) : Nat := ((List.range 5).filter fun i => n.testBit i).length
noncomputable def entP (n : Nat) : Go.AbsE.Ent := ⟨83, [.int .u64 n], [], .int .i64 (popc n)⟩
noncomputable def entsP : List Go.AbsE.Ent := (List.range 32).map entP
theorem entP_run : ((List.range 32).all fun n => entRun Try.prog noJ 1000000 (entP n)) = true := by kernel_rfl
theorem entsP_ok : ∀ ent, ent ∈ entsP → EntOk Try.prog ent := by
  intro ent h
  obtain ⟨n, hn, rfl⟩ := List.mem_map.1 h
  exact entRun_ok noJ_ok (List.all_eq_true.1 entP_run n hn)
noncomputable def JP : Jump := tblJ entsP
theorem JP_ok : JOk Try.prog JP := tbl_ok entsP_ok
theorem JP_at (h : AH) : ∀ (n : Nat), n < 32 → entFind 83 [.int .u64 n] h entsP = some (.int .i64 (popc n))
  | 0, _ => rfl
  | 1, _ => rfl
  | 2, _ => rfl
  | 3, _ => rfl
  | 4, _ => rfl
  | 5, _ => rfl
  | 6, _ => rfl
  | 7, _ => rfl
  | 8, _ => rfl
  | 9, _ => rfl
  | 10, _ => rfl
  | 11, _ => rfl
  | 12, _ => rfl
  | 13, _ => rfl
  | 14, _ => rfl
  | 15, _ => rfl
  | 16, _ => rfl
  | 17, _ => rfl
  | 18, _ => rfl
  | 19, _ => rfl
  | 20, _ => rfl
  | 21, _ => rfl
  | 22, _ => rfl
  | 23, _ => rfl
  | 24, _ => rfl
  | 25, _ => rfl
  | 26, _ => rfl
  | 27, _ => rfl
  | 28, _ => rfl
  | 29, _ => rfl
  | 30, _ => rfl
  | 31, _ => rfl
  | n + 32, h => absurd h (by omega)
theorem ones53_ok (n : Nat) (hn : n < 32) (h : AH) : Runs Try.prog 53 [.int .u64 n] h (fun en h' => en = .ret (.int .i64 (popc n)) ∧ Ext h h') := by
  have e0 : Ext h h := Ext.refl _
  refine Runs.intro aFunc53 rfl rfl rfl rfl fun rest => ?_
  refine Go.seq noJ_ok ?_
  refine Go.region noJ_ok rfl ?_
  refine GoR.op rfl rfl rfl rfl ?_
  refine GoR.end ?_
  refine Go.seq noJ_ok ?_
  refine Go.cond noJ_ok (b := false) rfl ?_
  refine Go.code noJ_ok ?_
  refine Go.seq noJ_ok ?_
  refine Go.region JP_ok rfl ?_
  refine GoR.op rfl rfl rfl rfl ?_
  refine GoR.jump JP_ok rfl rfl (aOp_callFunc aFunc83 rfl) (v := .int .i64 (popc n)) (JP_at h n hn) rfl ?_
  refine GoR.op rfl rfl rfl rfl ?_
  refine GoR.end ?_
  exact Go.ret noJ_ok (ret_end (aResult_of Try.func53 rfl rfl) ⟨rfl, e0⟩)
end Go.Proofs.Ytmdheijpnlonoaa
