import Derived.Test.YtmdheijpnlonoaaMAO
import Derived.Test.YtmdheijpnlonoaaChecked
import Derived.KernelRfl
/- Calls that a run makes, each by a run of its own. -/
namespace Go.Proofs.Ytmdheijpnlonoaa
open Go Go.AbsE
set_option linter.unusedSimpArgs false
noncomputable def entA1 : Go.AbsE.Ent := ⟨13, (.agg ((.slice 0 0 2 2) :: (.slice 1 0 3 3) :: (.int .i64 (Int.ofNat 3)) :: (.int .i64 (Int.ofNat 5)) :: (.int .i64 (Int.ofNat 8)) :: (.int .i64 (Int.ofNat 20)) :: .nilslice :: [])) :: (.int .i64 (Int.ofNat 0)) :: (.int .i64 (Int.ofNat 2)) :: [], ((.int .i64 (Int.ofNat 0)) :: (.int .i64 (Int.ofNat 30)) :: (.int .i64 (Int.ofNat 31)) :: (.int .i64 (Int.ofNat 2)) :: (.int .i64 (Int.ofNat 30)) :: (.int .i64 (Int.ofNat 30)) :: [], 63) :: ((.int .i64 (Int.ofNat 0)) :: (.int .i64 (Int.ofNat 0)) :: (.int .i64 (Int.ofNat 0)) :: (.int .i64 (Int.ofNat 1)) :: (.int .i64 (Int.ofNat 0)) :: (.int .i64 (Int.ofNat 0)) :: [], 30) :: [], (.tuple ((.agg ((.int .i64 (Int.ofNat 21)) :: (.int .i64 (Int.ofNat 26)) :: [])) :: (.int .i64 (Int.ofNat 0)) :: []))⟩
theorem entA1Ok : EntOk Try.prog entA1 := entRun_ok JW_ok (fuel := 1000000) (by kernel_rfl)
noncomputable def entA2 : Go.AbsE.Ent := ⟨14, (.agg ((.slice 0 0 2 2) :: (.slice 1 0 3 3) :: (.int .i64 (Int.ofNat 3)) :: (.int .i64 (Int.ofNat 5)) :: (.int .i64 (Int.ofNat 8)) :: (.int .i64 (Int.ofNat 20)) :: (.slice 2 0 1 1) :: [])) :: (.int .i64 (Int.ofNat 1)) :: [], ((.int .i64 (Int.ofNat 0)) :: (.int .i64 (Int.ofNat 30)) :: (.int .i64 (Int.ofNat 31)) :: (.int .i64 (Int.ofNat 2)) :: (.int .i64 (Int.ofNat 30)) :: (.int .i64 (Int.ofNat 30)) :: [], 63) :: ((.int .i64 (Int.ofNat 0)) :: (.int .i64 (Int.ofNat 0)) :: (.int .i64 (Int.ofNat 0)) :: (.int .i64 (Int.ofNat 1)) :: (.int .i64 (Int.ofNat 0)) :: (.int .i64 (Int.ofNat 0)) :: [], 30) :: ((.int .i64 (Int.ofNat 1)) :: (.int .i64 (Int.ofNat 1)) :: (.int .i64 (Int.ofNat 20)) :: (.int .i64 (Int.ofNat 25)) :: [], 59) :: [], (.tuple ((.agg ((.int .i64 (Int.ofNat 1)) :: (.int .i64 (Int.ofNat 1)) :: [])) :: (.int .i64 (Int.ofNat 0)) :: []))⟩
theorem entA2Ok : EntOk Try.prog entA2 := entRun_ok JW_ok (fuel := 1000000) (by kernel_rfl)
noncomputable def entA3 : Go.AbsE.Ent := ⟨15, (.agg ((.slice 0 0 2 2) :: (.slice 1 0 3 3) :: (.int .i64 (Int.ofNat 3)) :: (.int .i64 (Int.ofNat 5)) :: (.int .i64 (Int.ofNat 8)) :: (.int .i64 (Int.ofNat 20)) :: .nilslice :: [])) :: (.int .i64 (Int.ofNat 1)) :: (.int .i64 (Int.ofNat 1)) :: [], ((.int .i64 (Int.ofNat 0)) :: (.int .i64 (Int.ofNat 30)) :: (.int .i64 (Int.ofNat 31)) :: (.int .i64 (Int.ofNat 2)) :: (.int .i64 (Int.ofNat 30)) :: (.int .i64 (Int.ofNat 30)) :: [], 63) :: ((.int .i64 (Int.ofNat 0)) :: (.int .i64 (Int.ofNat 0)) :: (.int .i64 (Int.ofNat 0)) :: (.int .i64 (Int.ofNat 1)) :: (.int .i64 (Int.ofNat 0)) :: (.int .i64 (Int.ofNat 0)) :: [], 30) :: [], (.tuple ((.int .i64 (Int.ofNat 1)) :: (.int .i64 (Int.ofNat 0)) :: []))⟩
theorem entA3Ok : EntOk Try.prog entA3 := entRun_ok JW_ok (fuel := 1000000) (by kernel_rfl)
noncomputable def entA4 : Go.AbsE.Ent := ⟨16, (.agg ((.slice 0 0 2 2) :: (.slice 1 0 3 3) :: (.int .i64 (Int.ofNat 3)) :: (.int .i64 (Int.ofNat 5)) :: (.int .i64 (Int.ofNat 8)) :: (.int .i64 (Int.ofNat 20)) :: .nilslice :: [])) :: (.int .i64 (Int.ofNat 1)) :: [], ((.int .i64 (Int.ofNat 0)) :: (.int .i64 (Int.ofNat 30)) :: (.int .i64 (Int.ofNat 31)) :: (.int .i64 (Int.ofNat 2)) :: (.int .i64 (Int.ofNat 30)) :: (.int .i64 (Int.ofNat 30)) :: [], 63) :: ((.int .i64 (Int.ofNat 0)) :: (.int .i64 (Int.ofNat 0)) :: (.int .i64 (Int.ofNat 0)) :: (.int .i64 (Int.ofNat 1)) :: (.int .i64 (Int.ofNat 0)) :: (.int .i64 (Int.ofNat 0)) :: [], 30) :: [], (.tuple ((.int .i64 (Int.ofNat 2)) :: (.int .i64 (Int.ofNat 0)) :: []))⟩
theorem entA4Ok : EntOk Try.prog entA4 := entRun_ok JW_ok (fuel := 1000000) (by kernel_rfl)
noncomputable def entA5 : Go.AbsE.Ent := ⟨26, (.agg ((.slice 0 0 2 2) :: (.slice 1 0 3 3) :: (.int .i64 (Int.ofNat 3)) :: (.int .i64 (Int.ofNat 5)) :: (.int .i64 (Int.ofNat 8)) :: (.int .i64 (Int.ofNat 20)) :: .nilslice :: [])) :: [], ((.int .i64 (Int.ofNat 0)) :: (.int .i64 (Int.ofNat 30)) :: (.int .i64 (Int.ofNat 31)) :: (.int .i64 (Int.ofNat 2)) :: (.int .i64 (Int.ofNat 30)) :: (.int .i64 (Int.ofNat 30)) :: [], 63) :: ((.int .i64 (Int.ofNat 0)) :: (.int .i64 (Int.ofNat 0)) :: (.int .i64 (Int.ofNat 0)) :: (.int .i64 (Int.ofNat 1)) :: (.int .i64 (Int.ofNat 0)) :: (.int .i64 (Int.ofNat 0)) :: [], 30) :: [], (.tuple ((.int .i64 (Int.ofNat 0)) :: (.int .i64 (Int.ofNat 4)) :: []))⟩
theorem entA5Ok : EntOk Try.prog entA5 := entRun_ok JW_ok (fuel := 1000000) (by kernel_rfl)
noncomputable def entA6 : Go.AbsE.Ent := ⟨17, (.agg ((.slice 0 0 2 2) :: (.slice 1 0 3 3) :: (.int .i64 (Int.ofNat 3)) :: (.int .i64 (Int.ofNat 5)) :: (.int .i64 (Int.ofNat 8)) :: (.int .i64 (Int.ofNat 20)) :: .nilslice :: [])) :: (.int .i64 (Int.ofNat 2)) :: [], ((.int .i64 (Int.ofNat 0)) :: (.int .i64 (Int.ofNat 30)) :: (.int .i64 (Int.ofNat 31)) :: (.int .i64 (Int.ofNat 2)) :: (.int .i64 (Int.ofNat 30)) :: (.int .i64 (Int.ofNat 30)) :: [], 63) :: ((.int .i64 (Int.ofNat 0)) :: (.int .i64 (Int.ofNat 0)) :: (.int .i64 (Int.ofNat 0)) :: (.int .i64 (Int.ofNat 1)) :: (.int .i64 (Int.ofNat 0)) :: (.int .i64 (Int.ofNat 0)) :: [], 30) :: [], (.tuple ((.int .i64 (Int.ofNat 1)) :: (.int .i64 (Int.ofNat 9)) :: (.int .i64 (Int.ofNat 0)) :: []))⟩
theorem entA6Ok : EntOk Try.prog entA6 := entRun_ok JW_ok (fuel := 1000000) (by kernel_rfl)
noncomputable def entA7 : Go.AbsE.Ent := ⟨18, (.agg ((.slice 0 0 2 2) :: (.slice 1 0 3 3) :: (.int .i64 (Int.ofNat 3)) :: (.int .i64 (Int.ofNat 5)) :: (.int .i64 (Int.ofNat 8)) :: (.int .i64 (Int.ofNat 20)) :: (.slice 2 0 2 2) :: [])) :: [], ((.int .i64 (Int.ofNat 0)) :: (.int .i64 (Int.ofNat 30)) :: (.int .i64 (Int.ofNat 31)) :: (.int .i64 (Int.ofNat 2)) :: (.int .i64 (Int.ofNat 30)) :: (.int .i64 (Int.ofNat 30)) :: [], 63) :: ((.int .i64 (Int.ofNat 0)) :: (.int .i64 (Int.ofNat 0)) :: (.int .i64 (Int.ofNat 0)) :: (.int .i64 (Int.ofNat 1)) :: (.int .i64 (Int.ofNat 0)) :: (.int .i64 (Int.ofNat 0)) :: [], 30) :: ((.int .i64 (Int.ofNat 1)) :: (.int .i64 (Int.ofNat 1)) :: (.int .i64 (Int.ofNat 20)) :: (.int .i64 (Int.ofNat 25)) :: (.int .i64 (Int.ofNat 0)) :: (.int .i64 (Int.ofNat 2)) :: (.int .i64 (Int.ofNat 21)) :: (.int .i64 (Int.ofNat 22)) :: [], 59) :: [], (.tuple ((.int .i64 (Int.ofNat 1)) :: (.int .i64 (Int.ofNat 1)) :: (.int .i64 (Int.ofNat 0)) :: []))⟩
theorem entA7Ok : EntOk Try.prog entA7 := entRun_ok JW_ok (fuel := 1000000) (by kernel_rfl)
end Go.Proofs.Ytmdheijpnlonoaa

/- Calls that a run makes, each by a run of its own. -/
namespace Go.Proofs.Ytmdheijpnlonoaa
open Go Go.AbsE
set_option linter.unusedSimpArgs false
noncomputable def entA8 : Go.AbsE.Ent := ⟨19, (.agg ((.slice 0 0 2 2) :: (.slice 1 0 3 3) :: (.int .i64 (Int.ofNat 3)) :: (.int .i64 (Int.ofNat 5)) :: (.int .i64 (Int.ofNat 8)) :: (.int .i64 (Int.ofNat 20)) :: (.slice 2 0 2 2) :: [])) :: [], ((.int .i64 (Int.ofNat 0)) :: (.int .i64 (Int.ofNat 30)) :: (.int .i64 (Int.ofNat 31)) :: (.int .i64 (Int.ofNat 2)) :: (.int .i64 (Int.ofNat 30)) :: (.int .i64 (Int.ofNat 30)) :: [], 63) :: ((.int .i64 (Int.ofNat 0)) :: (.int .i64 (Int.ofNat 0)) :: (.int .i64 (Int.ofNat 0)) :: (.int .i64 (Int.ofNat 1)) :: (.int .i64 (Int.ofNat 0)) :: (.int .i64 (Int.ofNat 0)) :: [], 30) :: ((.int .i64 (Int.ofNat 1)) :: (.int .i64 (Int.ofNat 1)) :: (.int .i64 (Int.ofNat 20)) :: (.int .i64 (Int.ofNat 25)) :: (.int .i64 (Int.ofNat 0)) :: (.int .i64 (Int.ofNat 2)) :: (.int .i64 (Int.ofNat 21)) :: (.int .i64 (Int.ofNat 22)) :: [], 59) :: [], (.tuple ((.int .i64 (Int.ofNat 3)) :: (.int .i64 (Int.ofNat 0)) :: []))⟩
theorem entA8Ok : EntOk Try.prog entA8 := entRun_ok JW_ok (fuel := 1000000) (by kernel_rfl)
end Go.Proofs.Ytmdheijpnlonoaa

namespace Go.Proofs.Ytmdheijpnlonoaa
open Go Go.AbsE
set_option linter.unusedSimpArgs false
set_option maxRecDepth 100000
noncomputable def knownA : List Go.AbsE.Ent := [entA1, entA2, entA3, entA4, entA5, entA6, entA7, entA8]
theorem knownAOk : JOk Try.prog (tblJ knownA) := tbl_ok (l := knownA) (EntOk.cons entA1Ok (EntOk.cons entA2Ok (EntOk.cons entA3Ok (EntOk.cons entA4Ok (EntOk.cons entA5Ok (EntOk.cons entA6Ok (EntOk.cons entA7Ok (EntOk.cons entA8Ok (EntOk.nil)))))))))
/-- alive, as a call that is known. -/
noncomputable def entAlive : Go.AbsE.Ent := ⟨21, [], [], .bool true⟩
theorem aliveOk : EntOk Try.prog entAlive := entRun_ok (orJ_ok JW_ok knownAOk) (fuel := 1000000) (by kernel_rfl)
noncomputable def JA : Jump := tblJ [entAlive]
theorem JA_ok : JOk Try.prog JA := tbl_ok (EntOk.cons aliveOk EntOk.nil)
end Go.Proofs.Ytmdheijpnlonoaa

namespace Go.Proofs.Ytmdheijpnlonoaa
open Go Go.AbsE
set_option linter.unusedSimpArgs false
set_option maxRecDepth 100000
set_option maxHeartbeats 0
set_option linter.unusedVariables false

theorem long_ok (F : FieldV) (hsl rsl lsl : AVal) (n1 n2 n3 : Nat) (h1 : lenA hsl = some n1) (h2 : lenA rsl = some n2) (h3 : lenA lsl = some n3) {r : Bool} (hr : decide (40 < n1 ∨ 40 < n2 ∨ 40 < n3) = r) (h : AH) :
    Runs Try.prog 22 [.agg (F.cells hsl rsl lsl)] h (fun en h' => en = .ret (.bool r) ∧ Ext h h') := by
  unfold FieldV.cells fieldC
  obtain ⟨m, hm⟩ : ∃ m : Int, (if (if ((n1 : Nat) : Int) < (n2 : Nat) then ((n2 : Nat) : Int) else (n1 : Nat)) < (n3 : Nat) then ((n3 : Nat) : Int) else (if ((n1 : Nat) : Int) < (n2 : Nat) then ((n2 : Nat) : Int) else (n1 : Nat))) = m := ⟨_, rfl⟩
  have hr' : decide (40 < m) = r := by
    rw [← hr]
    refine decide_eq_decide.2 ?_
    rw [← hm]
    split <;> split <;> omega
  refine Runs.intro aFunc22 rfl rfl rfl rfl fun rest => ?_
  refine Go.seq noJ_ok ?_
  refine Go.region noJ_ok rfl ?_
  refine GoR.box rfl rfl rfl rfl rfl rfl fun h4 x4 f4 => ?_
  have e0 := x4
  have := f4.1
  refine GoR.op rfl rfl rfl rfl ?_
  refine GoR.end ?_
  refine Go.seq noJ_ok ?_
  refine Go.region noJ_ok rfl ?_
  refine GoR.op rfl rfl (fa27_0 rfl) rfl ?_
  refine GoR.op rfl rfl (ld22 rfl f4 rfl) rfl ?_
  refine GoR.op rfl rfl (aOp_lenSlice Try.underlying22 rfl h1) rfl ?_
  refine GoR.op rfl rfl (fa27_1 rfl) rfl ?_
  refine GoR.op rfl rfl (ld23 rfl f4 rfl) rfl ?_
  refine GoR.op rfl rfl (aOp_lenSlice Try.underlying23 rfl h2) rfl ?_
  refine GoR.op rfl rfl (fa27_4 rfl) rfl ?_
  refine GoR.op rfl rfl (ld25 rfl f4 rfl) rfl ?_
  refine GoR.op rfl rfl (aOp_lenSlice Try.underlying25 rfl h3) rfl ?_
  refine GoR.op rfl rfl (aOp_max3 rfl rfl rfl hm) rfl ?_
  refine GoR.op rfl rfl (aOp_gtr rfl rfl hr') rfl ?_
  refine GoR.op rfl rfl rfl rfl ?_
  refine GoR.end ?_
  exact Go.ret noJ_ok (ret_end (aResult_of Try.func22 rfl rfl) ⟨rfl, e0⟩)

def whenD : Option Nat → Int
  | some d => (d : Nat)
  | none => 0
def whenE : Option Nat → Int
  | some _ => 0
  | none => 4
theorem When_any {F : FieldV} (O : F.Ok) (hne : F.ents ≠ []) (hsl rsl lsl : AVal) (i : Nat) (hi : i < F.hs.length) (h : AH) (A : FieldAt h F hsl rsl lsl) :
    Runs Try.prog 16 [.agg (F.cells hsl rsl lsl), .int .i64 i] h (fun en h' => en = .ret (.tuple [.int .i64 (whenD (whenV F [(i : Nat)])), .int .i64 (whenE (whenV F [(i : Nat)]))]) ∧ Ext h h') := by
  cases q : whenV F [(i : Nat)] with
  | none => exact When_no O hsl rsl lsl i hi (.inr ⟨hne, q, rfl⟩) h A
  | some d => exact When_yes O hne hsl rsl lsl i hi q h A
theorem All_any {F : FieldV} (O : F.Ok) (hne : F.ents ≠ []) (hsl rsl lsl : AVal) (h : AH) (A : FieldAt h F hsl rsl lsl) :
    Runs Try.prog 26 [.agg (F.cells hsl rsl lsl)] h (fun en h' => en = .ret (.tuple [.int .i64 (whenD (whenV F (allHeaps F))), .int .i64 (whenE (whenV F (allHeaps F)))]) ∧ Ext h h') := by
  cases q : whenV F (allHeaps F) with
  | none => exact All_no O hsl rsl lsl (.inr ⟨hne, q, rfl⟩) h A
  | some d => exact All_yes O hne hsl rsl lsl q h A

/-- How far apart the ends of what a heap can be are. -/
def FieldV.apart (F : FieldV) (k d : Nat) : Int := (F.wet (k : Nat) d).2 - (F.wet (k : Nat) d).1
theorem doubtV_facts {F : FieldV} {d : Nat} (hg : ∀ k, k < F.hs.length → 0 ≤ F.apart k d ∧ F.apart k d ≤ 100) : ∀ m, m ≤ F.hs.length → ∃ p : Nat, (doubtV F d m).1 = (p : Nat) ∧ 0 ≤ (doubtV F d m).2 ∧ (doubtV F d m).2 ≤ 100 ∧ (m = 0 → p = 0 ∧ (doubtV F d m).2 = 0) ∧ (0 < m → p < m ∧ F.apart p d = (doubtV F d m).2) ∧
    ∀ k, k < m → F.apart k d ≤ (doubtV F d m).2 ∧ (F.apart k d = (doubtV F d m).2 → p ≤ k)
  | 0, _ => ⟨0, rfl, by simp [doubtV], by simp [doubtV], fun _ => ⟨rfl, rfl⟩, fun q => by omega, fun k q => by omega⟩
  | m + 1, hm => by
    obtain ⟨p, h1, h2, h2', h3, h4, h5⟩ := doubtV_facts hg m (by omega)
    have hgm := hg m (by omega)
    have hs := doubtV_succ F d m
    by_cases hlt : (doubtV F d m).2 < (F.wet (m : Nat) d).2 - (F.wet (m : Nat) d).1
    · rw [if_pos hlt] at hs
      have hap : F.apart m d = (F.wet (m : Nat) d).2 - (F.wet (m : Nat) d).1 := rfl
      rw [hs]
      refine ⟨m, rfl, by dsimp only; omega, by dsimp only; omega, fun q => by omega, fun _ => ⟨by omega, hap⟩, fun k hk => ?_⟩
      dsimp only
      by_cases hkm : k = m
      · subst hkm
        exact ⟨by omega, fun _ => Nat.le_refl _⟩
      · have := h5 k (by omega)
        exact ⟨by omega, fun q => by omega⟩
    · rw [if_neg hlt] at hs
      have hap : F.apart m d = (F.wet (m : Nat) d).2 - (F.wet (m : Nat) d).1 := rfl
      rw [hs]
      by_cases hm0 : m = 0
      · subst hm0
        obtain ⟨rfl, h0⟩ := h3 rfl
        refine ⟨0, h1, h2, h2', fun q => by omega, fun _ => ⟨by omega, by omega⟩, fun k hk => ?_⟩
        have : k = 0 := by omega
        subst this
        exact ⟨by omega, fun _ => Nat.le_refl _⟩
      · have h4' := h4 (by omega)
        refine ⟨p, h1, h2, h2', fun q => by omega, fun _ => ⟨by omega, h4'.2⟩, fun k hk => ?_⟩
        by_cases hkm : k = m
        · subst hkm
          exact ⟨by omega, fun q => by omega⟩
        · exact h5 k (by omega)

/-- The first one of the first days of which something holds, or -1. -/
def firstV (p : Nat → Bool) (d : Nat) : Int := match (List.range d).find? p with
  | some k => (k : Nat)
  | none => -1
theorem firstV_succ (p : Nat → Bool) (d : Nat) : firstV p (d + 1) = if firstV p d < 0 then (if p d then ((d : Nat) : Int) else -1) else firstV p d := by
  unfold firstV
  rw [List.range_succ, List.find?_append]
  cases q : (List.range d).find? p with
  | some k =>
    simp only [Option.some_or]
    rw [if_neg (by omega)]
  | none =>
    simp only [Option.none_or, List.find?_cons, List.find?_nil]
    rw [if_pos (by decide)]
    cases p d <;> rfl
theorem firstV_bd (p : Nat → Bool) (d : Nat) : -1 ≤ firstV p d ∧ firstV p d < d ∨ d = 0 ∧ firstV p d = -1 := by
  unfold firstV
  cases q : (List.range d).find? p with
  | some k =>
    have : k < d := by simpa using List.mem_of_find?_eq_some q
    left; dsimp only; omega
  | none => 
    dsimp only
    by_cases h0 : d = 0
    · exact .inr ⟨h0, rfl⟩
    · left; omega
theorem whenV_first (F : FieldV) (L : List Int) : firstV (fun d => L.all fun i => F.sure i d) F.rs.length = match whenV F L with | some k => ((k : Nat) : Int) | none => -1 := rfl
end Go.Proofs.Ytmdheijpnlonoaa

namespace Go.Proofs.Ytmdheijpnlonoaa
open Go Go.AbsE
set_option linter.unusedSimpArgs false
set_option maxRecDepth 100000
set_option maxHeartbeats 0
set_option linter.unusedVariables false

/-! What a joined span's ends are. -/
theorem foldl_lo : ∀ (l : List (Int × Int)) (a : Int × Int), (∀ p, p = a ∨ p ∈ l → (l.foldl joinP a).1 ≤ p.1) ∧ ∃ p, (p = a ∨ p ∈ l) ∧ (l.foldl joinP a).1 = p.1
  | [], a => ⟨fun p hp => (by
      rcases hp with rfl | hp
      · exact Int.le_refl _
      · cases hp), a, Or.inl rfl, rfl⟩
  | x :: l, a => by
    obtain ⟨h1, p, hp, h2⟩ := foldl_lo l (joinP a x)
    have hj : (joinP a x).1 ≤ a.1 ∧ (joinP a x).1 ≤ x.1 ∧ ((joinP a x).1 = a.1 ∨ (joinP a x).1 = x.1) := by
      unfold joinP; dsimp only; split <;> omega
    have h0 := h1 _ (.inl rfl)
    rw [List.foldl_cons]
    refine ⟨fun q hq => ?_, ?_⟩
    · rcases hq with hq | hq
      · rw [hq]; omega
      · rcases List.mem_cons.1 hq with hq | hq
        · rw [hq]; omega
        · exact h1 q (.inr hq)
    · rcases hp with hp | hp
      · rw [hp] at h2
        rcases hj.2.2 with k | k
        · exact ⟨a, .inl rfl, by omega⟩
        · exact ⟨x, .inr (by simp), by omega⟩
      · exact ⟨p, .inr (by simp [hp]), h2⟩
theorem foldl_hi : ∀ (l : List (Int × Int)) (a : Int × Int), (∀ p, p = a ∨ p ∈ l → p.2 ≤ (l.foldl joinP a).2) ∧ ∃ p, (p = a ∨ p ∈ l) ∧ (l.foldl joinP a).2 = p.2
  | [], a => ⟨fun p hp => (by
      rcases hp with rfl | hp
      · exact Int.le_refl _
      · cases hp), a, Or.inl rfl, rfl⟩
  | x :: l, a => by
    obtain ⟨h1, p, hp, h2⟩ := foldl_hi l (joinP a x)
    have hj : a.2 ≤ (joinP a x).2 ∧ x.2 ≤ (joinP a x).2 ∧ ((joinP a x).2 = a.2 ∨ (joinP a x).2 = x.2) := by
      unfold joinP; dsimp only; split <;> omega
    have h0 := h1 _ (.inl rfl)
    rw [List.foldl_cons]
    refine ⟨fun q hq => ?_, ?_⟩
    · rcases hq with hq | hq
      · rw [hq]; omega
      · rcases List.mem_cons.1 hq with hq | hq
        · rw [hq]; omega
        · exact h1 q (.inr hq)
    · rcases hp with hp | hp
      · rw [hp] at h2
        rcases hj.2.2 with k | k
        · exact ⟨a, .inl rfl, by omega⟩
        · exact ⟨x, .inr (by simp), by omega⟩
      · exact ⟨p, .inr (by simp [hp]), h2⟩
theorem joinL_ends {l : List (Int × Int)} (hl : ∀ p, p ∈ l → NG p) (hg : ∃ p, p ∈ l ∧ Good p) :
    (∀ p, p ∈ l → (joinL l).1 ≤ p.1 ∧ p.2 ≤ (joinL l).2) ∧ (∃ p, p ∈ l ∧ Good p ∧ (joinL l).1 = p.1) ∧ (∃ p, p ∈ l ∧ Good p ∧ (joinL l).2 = p.2) := by
  obtain ⟨g, hgl, hgg⟩ := hg
  obtain ⟨a1, p, hp, a2⟩ := foldl_lo l noSp
  obtain ⟨b1, q, hq, b2⟩ := foldl_hi l noSp
  have a3 := a1 g (.inr hgl)
  have b3 := b1 g (.inr hgl)
  unfold Good at hgg
  have n1 : noSp.1 = 9223372036854775807 := rfl
  have n2 : noSp.2 = -9223372036854775808 := rfl
  refine ⟨fun x hx => ⟨a1 x (.inr hx), b1 x (.inr hx)⟩, ?_, ?_⟩
  · rcases hp with hp | hp
    · rw [hp] at a2; omega
    · rcases hl p hp with k | k
      · rw [k] at a2; omega
      · exact ⟨p, hp, k, a2⟩
  · rcases hq with hq | hq
    · rw [hq] at b2; omega
    · rcases hl q hq with k | k
      · rw [k] at b2; omega
      · exact ⟨q, hq, k, b2⟩

/-! How wet a heap can be by some rain. -/
theorem fold_get {n d : Nat} (hd : d < n) (hd6 : d < 6) : ∀ (l : List (List Int)) (st : List (Int × Int)), InSp ((st[d]?).getD noE) → (∀ x, x ∈ l → InSp (atD x d, atD x d)) →
    ((l.foldl (fun st x => stepE n x st) st)[d]?).getD noE = (l.map fun x => (atD x d, atD x d)).foldl joinP ((st[d]?).getD noE)
  | [], st, _, _ => rfl
  | x :: l, st, h, hl => by
    have hx : ((stepE n x st)[d]?).getD noE = joinP ((st[d]?).getD noE) (atD x d, atD x d) := by
      unfold stepE
      rw [range_at _ hd6, if_pos hd, Option.getD_some, joinL_two h]
    rw [List.foldl_cons, fold_get hd hd6 l _ (by rw [hx]; exact joinP_in h (hl x (by simp))) fun y hy => hl y (by simp [hy]), hx]
    rfl
theorem atD_mem {c : List Int} {d : Nat} (hd : d < c.length) : atD c d ∈ c := by
  unfold atD
  have : c[d]? = some (c[d]'hd) := by simp
  rw [this]
  exact List.getElem_mem _
theorem evL_at {a b c : Int} {t : TurfV} {rs : List Int} {d : Nat} (hd : d < rs.length) (hn : rs.length ≤ 6) : ((evL a b c t rs)[d]?).getD noE = joinL ((rightC a b c t rs).map fun x => (atD x d, atD x d)) := by
  unfold evL
  have hs : ((startE rs.length)[d]?).getD noE = noSp := by
    unfold startE
    rw [range_at _ (by omega), if_pos hd]
    rfl
  rw [fold_get hd (by omega) _ _ (by rw [hs]; exact noSp_in) ?_, hs]
  · rfl
  · intro x hx
    have h6 := rightC_len hn hx
    have := rightC_in hx _ (atD_mem (d := d) (by omega))
    unfold InSp
    dsimp only
    omega
theorem right_good {a b c : Int} {t : TurfV} {rs : List Int} {d : Nat} (hd : d < rs.length) (hn : rs.length ≤ 6) {x : List Int} (hx : x ∈ rightC a b c t rs) : Good (atD x d, atD x d) := by
  have h6 := rightC_len hn hx
  have := rightC_in hx _ (atD_mem (d := d) (by omega))
  unfold Good
  dsimp only
  omega
theorem evL_ends {a b c : Int} {t : TurfV} {rs : List Int} {d : Nat} (hd : d < rs.length) (hn : rs.length ≤ 6) (hp : possB a b c t rs = true) :
    (∀ x, x ∈ rightC a b c t rs → (((evL a b c t rs)[d]?).getD noE).1 ≤ atD x d ∧ atD x d ≤ (((evL a b c t rs)[d]?).getD noE).2) ∧
    (∃ x, x ∈ rightC a b c t rs ∧ (((evL a b c t rs)[d]?).getD noE).1 = atD x d) ∧ (∃ x, x ∈ rightC a b c t rs ∧ (((evL a b c t rs)[d]?).getD noE).2 = atD x d) := by
  rw [evL_at hd hn]
  have hne : rightC a b c t rs ≠ [] := by
    intro q
    unfold possB at hp
    rw [q] at hp
    cases hp
  obtain ⟨y, hy⟩ := List.exists_mem_of_ne_nil _ hne
  obtain ⟨j1, ⟨p, hp1, _, hp2⟩, q, hq1, _, hq2⟩ := joinL_ends (l := (rightC a b c t rs).map fun x => (atD x d, atD x d))
    (fun p hp => by obtain ⟨x, hx, rfl⟩ := List.mem_map.1 hp; exact .inr (right_good hd hn hx)) ⟨_, List.mem_map.2 ⟨y, hy, rfl⟩, right_good hd hn hy⟩
  obtain ⟨x, hx, rfl⟩ := List.mem_map.1 hp1
  obtain ⟨z, hz, rfl⟩ := List.mem_map.1 hq1
  exact ⟨fun x hx => j1 _ (List.mem_map.2 ⟨x, hx, rfl⟩), ⟨x, hx, hp2⟩, z, hz, hq2⟩

/-! Truths. -/
/-- How much it can have rained: by it all looks at each heap can be right. -/
def FieldV.fell (F : FieldV) (l : List Int) : Prop := l ∈ falls F.rs ∧ ∀ T, T ∈ F.ts → possB F.a F.b F.c T l = true
/-- How wet a heap is in the evening of a day in some truth. -/
def FieldV.val (F : FieldV) (i d : Nat) (v : Int) : Prop := ∃ l T c, F.fell l ∧ F.ts[i]? = some T ∧ c ∈ rightC F.a F.b F.c T l ∧ v = atD c d
theorem ents_all {F : FieldV} {x : Ent} (h : x ∈ F.ents) : ∃ (l : List Int) (i : Nat) (T : TurfV), F.fell l ∧ F.ts[i]? = some T ∧ x = ((i : Int), padF l, evL F.a F.b F.c T l) := by
  obtain ⟨l, hl, hx⟩ := List.mem_flatMap.1 h
  have hx2 := entsOf_mem hx
  unfold entsOf at hx
  split at hx
  · cases hx
  · rename_i hany
    obtain ⟨i, hi, rfl⟩ := List.mem_mapIdx.1 hx2
    refine ⟨l, i, F.ts[i], ⟨hl, fun T hT => ?_⟩, by simp, rfl⟩
    cases q : possB F.a F.b F.c T l with
    | true => rfl
    | false => exact absurd (List.any_eq_true.2 ⟨T, hT, by rw [q]; rfl⟩) hany
theorem fell_ent {F : FieldV} {l : List Int} (h : F.fell l) {i : Nat} {T : TurfV} (hT : F.ts[i]? = some T) : ((i : Int), padF l, evL F.a F.b F.c T l) ∈ F.ents := by
  refine List.mem_flatMap.2 ⟨l, h.1, ?_⟩
  unfold entsOf
  rw [if_neg ?_]
  · exact List.mem_of_getElem? (entsF_at hT)
  · intro q
    obtain ⟨T, hT, k⟩ := List.any_eq_true.1 q
    rw [h.2 T hT] at k
    cases k
theorem fell_ne {F : FieldV} (O : F.Ok) {l : List Int} (h : F.fell l) : F.ents ≠ [] := by
  have hts : F.ts.length = F.hs.length := turfsOf_len _ _
  have := O.nh
  have h0 : F.ts[0]? = some (F.ts[0]'(by omega)) := by simp
  intro q
  have := fell_ent h h0
  rw [q] at this
  cases this
theorem ne_fell {F : FieldV} (h : F.ents ≠ []) : ∃ l, F.fell l := by
  obtain ⟨x, hx⟩ := List.exists_mem_of_ne_nil _ h
  obtain ⟨l, _, _, k, _⟩ := ents_all hx
  exact ⟨l, k⟩
/-- Both ends of how wet a heap can be are those of a truth, and all truths are within. -/
theorem wet_ends {F : FieldV} (O : F.Ok) (hne : F.ents ≠ []) {i d : Nat} (hi : i < F.hs.length) (hd : d < F.rs.length) :
    (∀ v, F.val i d v → (F.wet i d).1 ≤ v ∧ v ≤ (F.wet i d).2) ∧ F.val i d (F.wet i d).1 ∧ F.val i d (F.wet i d).2 := by
  have hn6 := O.nr.2
  have hts : F.ts.length = F.hs.length := turfsOf_len _ _
  have hget : ∀ l T, l ∈ falls F.rs → ((evL F.a F.b F.c T l)[d]?).getD noSp = ((evL F.a F.b F.c T l)[d]?).getD noE := by
    intro l T hl
    have h6 := evL_len F.a F.b F.c T l
    have : (evL F.a F.b F.c T l)[d]? = some ((evL F.a F.b F.c T l)[d]'(by omega)) := by simp
    rw [this]
    rfl
  have hev : ∀ l T, F.fell l → T ∈ F.ts → Good (((evL F.a F.b F.c T l)[d]?).getD noE) := by
    intro l T hl hT
    have hll := falls_len hl.1
    exact evL_good (by omega) (hl.2 T hT) (by omega)
  obtain ⟨l0, hl0⟩ := ne_fell hne
  have hTi : F.ts[i]? = some (F.ts[i]'(by omega)) := by simp
  obtain ⟨j1, ⟨p, hp1, hp3, hp2⟩, q, hq1, hq3, hq2⟩ := joinL_ends (l := F.ents.map fun x => if x.1 = (i : Int) then (x.2.2[d]?).getD noSp else noSp)
    (fun p hp => by
      obtain ⟨x, hx, rfl⟩ := List.mem_map.1 hp
      obtain ⟨l, k, T, hl, hT, rfl⟩ := ents_all hx
      split
      · dsimp only
        rw [hget l T hl.1]
        exact .inr (hev l T hl (List.mem_of_getElem? hT))
      · exact .inl rfl)
    ⟨_, List.mem_map.2 ⟨_, fell_ent hl0 hTi, rfl⟩, by
      dsimp only
      rw [if_pos rfl, hget _ _ hl0.1]
      exact hev _ _ hl0 (List.mem_of_getElem? hTi)⟩
  have hng : ¬ Good noSp := by unfold Good noSp; omega
  have back : ∀ p, p ∈ F.ents.map (fun x => if x.1 = (i : Int) then (x.2.2[d]?).getD noSp else noSp) → Good p → F.val i d p.1 ∧ F.val i d p.2 := by
    intro p hp hg
    obtain ⟨x, hx, rfl⟩ := List.mem_map.1 hp
    obtain ⟨l, k, T, hl, hT, rfl⟩ := ents_all hx
    dsimp only at hg ⊢
    by_cases hk : (k : Int) = i
    · rw [if_pos hk, hget l T hl.1] at *
      have hk' : k = i := by omega
      subst hk'
      have hll := falls_len hl.1
      obtain ⟨_, ⟨y, hy, y2⟩, z, hz, z2⟩ := evL_ends (d := d) (a := F.a) (b := F.b) (c := F.c) (t := T) (rs := l) (by omega) (by omega) (hl.2 T (List.mem_of_getElem? hT))
      exact ⟨⟨l, T, y, hl, hT, hy, y2⟩, l, T, z, hl, hT, hz, z2⟩
    · rw [if_neg hk] at hg
      exact absurd hg hng
  refine ⟨?_, ?_, ?_⟩
  · rintro v ⟨l, T, c, hl, hT, hc, rfl⟩
    have hll := falls_len hl.1
    have h1 := j1 _ (List.mem_map.2 ⟨_, fell_ent hl hT, rfl⟩)
    dsimp only at h1
    rw [if_pos rfl, hget l T hl.1] at h1
    have h2 := (evL_ends (d := d) (a := F.a) (b := F.b) (c := F.c) (t := T) (rs := l) (by omega) (by omega) (hl.2 T (List.mem_of_getElem? hT))).1 c hc
    unfold FieldV.wet
    omega
  · unfold FieldV.wet; rw [hp2]; exact (back p hp1 hp3).1
  · unfold FieldV.wet; rw [hq2]; exact (back q hq1 hq3).2
end Go.Proofs.Ytmdheijpnlonoaa

namespace Go.Proofs.Ytmdheijpnlonoaa
open Go Go.AbsE
set_option linter.unusedSimpArgs false
set_option maxRecDepth 100000
set_option maxHeartbeats 0
set_option linter.unusedVariables false

/-! Heaps without looks. -/
theorem holdV_mono {m n : Int} (h : m ≤ n) : holdV m ≤ holdV n := by
  unfold holdV; repeat' split
  all_goals omega
def drK (a b c : Int) (p : Nat) : Int := ([a, b, c][p]?).getD 0
theorem ev1_mono {a b c r w w' : Int} {p p' : Nat} (h : drK a b c p ≤ drK a b c p') (hw : w' ≤ w) : ev1 a b c p' r w' ≤ ev1 a b c p r w := by
  unfold ev1
  unfold drK at h
  split
  · exact holdV_mono (by omega)
  · exact holdV_mono (by omega)
theorem after_mono {a b c : Int} {p p' : Nat} (h : drK a b c p ≤ drK a b c p') : ∀ (l : List Int) (w w' : Int), w' ≤ w → after a b c p' l w' ≤ after a b c p l w
  | [], _, _, hw => hw
  | r :: l, w, w', hw => by
    have := after_mono h l _ _ (ev1_mono (r := r) h hw)
    unfold after at this ⊢
    rw [List.foldl_cons, List.foldl_cons]
    exact this
theorem drK_mono {a b c : Int} (h : a ≤ b ∧ b ≤ c) {p p' : Nat} (hp : p ≤ p') (hp' : p' < 3) : drK a b c p ≤ drK a b c p' := by
  have h6 : (p = 0 ∧ p' = 0) ∨ (p = 0 ∧ p' = 1) ∨ (p = 0 ∧ p' = 2) ∨ (p = 1 ∧ p' = 1) ∨ (p = 1 ∧ p' = 2) ∨ (p = 2 ∧ p' = 2) := by omega
  unfold drK
  rcases h6 with ⟨rfl, rfl⟩ | ⟨rfl, rfl⟩ | ⟨rfl, rfl⟩ | ⟨rfl, rfl⟩ | ⟨rfl, rfl⟩ | ⟨rfl, rfl⟩
  · exact Int.le_refl _
  · exact h.1
  · exact Int.le_trans h.1 h.2
  · exact Int.le_refl _
  · exact h.2
  · exact Int.le_refl _
theorem scan_at (a b c : Int) (p : Nat) : ∀ (l : List Int) (w : Int) (d : Nat), d < l.length → (scan a b c p l w)[d]? = some (after a b c p (l.take (d + 1)) w)
  | [], _, _, h => by cases h
  | r :: l, w, 0, _ => rfl
  | r :: l, w, d + 1, h => by
    have ih := scan_at a b c p l (ev1 a b c p r w) d (by simpa using h)
    unfold scan
    rw [List.getElem?_cons_succ, ih]
    rfl
theorem atD_crs (a b c : Int) (p : Nat) (l : List Int) (w : Int) (d : Nat) (h : d < l.length) : atD (crs a b c p l w) d = after a b c p (l.take (d + 1)) w := by
  have h2 := scan_at a b c p l w d h
  unfold atD crs
  rw [List.getElem?_append_left (by rw [scan_len]; exact h), h2]
  rfl

theorem ts_at {F : FieldV} {i : Nat} {x : HTurf} (hx : F.hs[i]? = some x) : F.ts[i]? = some (turfAt F.looks i x) := by
  unfold FieldV.ts turfsOf
  rw [List.getElem?_mapIdx, hx]
  rfl
theorem bare_right {F : FieldV} (hL : F.looks = []) (i : Nat) (x : HTurf) (a b c : Int) (l : List Int) : rightC a b c (turfAt F.looks i x) l = (List.range (x.hi - x.lo + 1).toNat).map fun k : Nat => crs a b c x.p.toNat l (x.lo + k) := by
  unfold rightC turfAt
  rw [hL]
  exact List.filter_eq_self.2 fun _ _ => rfl
theorem bare_fell {F : FieldV} (O : F.Ok) (hL : F.looks = []) {l : List Int} (hl : l ∈ falls F.rs) : F.fell l := by
  refine ⟨hl, fun T hT => ?_⟩
  unfold FieldV.ts turfsOf at hT
  obtain ⟨i, hi, rfl⟩ := List.mem_mapIdx.1 hT
  have := O.h _ (List.getElem_mem hi)
  unfold possB
  rw [bare_right hL]
  obtain ⟨n, hn⟩ : ∃ n, (F.hs[i].hi - F.hs[i].lo + 1).toNat = n + 1 := ⟨(F.hs[i].hi - F.hs[i].lo).toNat, by omega⟩
  rw [hn, List.range_succ]
  simp
theorem falls_ex : ∀ {rs : List (Int × Int)}, (∀ r, r ∈ rs → r.1 ≤ r.2) → ∃ l, l ∈ falls rs
  | [], _ => ⟨[], by simp [falls]⟩
  | r :: rs, h => by
    obtain ⟨l, hl⟩ := falls_ex (rs := rs) fun x hx => h x (by simp [hx])
    have := h r (by simp)
    refine ⟨(r.1 + ((0 : Nat) : Int)) :: l, ?_⟩
    simp only [falls, List.mem_flatMap, List.mem_map, List.mem_range]
    exact ⟨0, by omega, l, hl, rfl⟩
theorem bare_ne {F : FieldV} (O : F.Ok) (hL : F.looks = []) : F.ents ≠ [] := by
  obtain ⟨l, hl⟩ := falls_ex (rs := F.rs) fun r hr => by have := O.r r hr; omega
  exact fell_ne O (bare_fell O hL hl)
theorem bare_val {F : FieldV} (O : F.Ok) (hL : F.looks = []) {i d : Nat} {x : HTurf} (hx : F.hs[i]? = some x) (hd : d < F.rs.length) (v : Int) :
    F.val i d v ↔ ∃ (l : List Int) (k : Nat), l ∈ falls F.rs ∧ k < (x.hi - x.lo + 1).toNat ∧ v = after F.a F.b F.c x.p.toNat (l.take (d + 1)) (x.lo + k) := by
  constructor
  · rintro ⟨l, T, c, hl, hT, hc, rfl⟩
    rw [ts_at hx] at hT
    cases hT
    rw [bare_right hL] at hc
    obtain ⟨k, hk, rfl⟩ := List.mem_map.1 hc
    have hll := falls_len hl.1
    exact ⟨l, k, hl.1, by simpa using hk, atD_crs _ _ _ _ _ _ _ (by omega)⟩
  · rintro ⟨l, k, hl, hk, rfl⟩
    have hll := falls_len hl
    refine ⟨l, _, _, bare_fell O hL hl, ts_at hx, ?_, (atD_crs _ _ _ _ _ _ _ (by omega)).symm⟩
    rw [bare_right hL]
    exact List.mem_map.2 ⟨k, by simpa using hk, rfl⟩
/-- The higher heap is no wetter. -/
theorem high_wet {F : FieldV} (O : F.Ok) (hL : F.looks = []) {i j d : Nat} {x y : HTurf} (hx : F.hs[i]? = some x) (hy : F.hs[j]? = some y) (hlo : y.lo = x.lo) (hhi : y.hi = x.hi) (hp : x.p ≤ y.p) (hd : d < F.rs.length) :
    (F.wet (j : Nat) d).1 ≤ (F.wet (i : Nat) d).1 ∧ (F.wet (j : Nat) d).2 ≤ (F.wet (i : Nat) d).2 := by
  have hi := (List.getElem?_eq_some_iff.1 hx).1
  have hj := (List.getElem?_eq_some_iff.1 hy).1
  obtain ⟨a1, a2, a3⟩ := wet_ends O (bare_ne O hL) hi hd
  obtain ⟨b1, b2, b3⟩ := wet_ends O (bare_ne O hL) hj hd
  have h1 := O.h x (List.mem_of_getElem? hx)
  have h2 := O.h y (List.mem_of_getElem? hy)
  have hm : drK F.a F.b F.c x.p.toNat ≤ drK F.a F.b F.c y.p.toNat := drK_mono ⟨O.d.2.1, O.d.2.2.1⟩ (by omega) (by omega)
  constructor
  · obtain ⟨l, k, hl, hk, q⟩ := (bare_val O hL hx hd _).1 a2
    have := (b1 _ ((bare_val O hL hy hd _).2 ⟨l, k, hl, by rw [hhi, hlo]; exact hk, rfl⟩)).1
    have h3 := after_mono hm (l.take (d + 1)) (x.lo + k) (y.lo + k) (by omega)
    omega
  · obtain ⟨l, k, hl, hk, q⟩ := (bare_val O hL hy hd _).1 b3
    have := (a1 _ ((bare_val O hL hx hd _).2 ⟨l, k, hl, by rw [← hhi, ← hlo]; exact hk, rfl⟩)).2
    have h3 := after_mono hm (l.take (d + 1)) (x.lo + k) (y.lo + k) (by omega)
    omega
theorem same_wet {F : FieldV} (O : F.Ok) (hL : F.looks = []) {i j d : Nat} {x y : HTurf} (hx : F.hs[i]? = some x) (hy : F.hs[j]? = some y) (hlo : y.lo = x.lo) (hhi : y.hi = x.hi) (hp : x.p = y.p) (hd : d < F.rs.length) : F.wet (j : Nat) d = F.wet (i : Nat) d := by
  have h1 := high_wet O hL hx hy hlo hhi (by omega) hd
  have h2 := high_wet O hL hy hx hlo.symm hhi.symm (by omega) hd
  ext <;> omega
theorem sure_hi (F : FieldV) (i : Int) (d : Nat) : F.sure i d = decide ((F.wet i d).2 ≤ F.lim) := by
  unfold FieldV.sure dryV
  by_cases h : (F.wet i d).2 ≤ F.lim
  · simp [h]
  · rw [if_neg h]
    split <;> simp [h]
/-- It is surely dry no later. -/
theorem high_when {F : FieldV} (O : F.Ok) (hL : F.looks = []) {i j : Nat} {x y : HTurf} (hx : F.hs[i]? = some x) (hy : F.hs[j]? = some y) (hlo : y.lo = x.lo) (hhi : y.hi = x.hi) (hp : x.p ≤ y.p) {n : Nat} (hn : whenV F [(i : Nat)] = some n) :
    ∃ m, whenV F [(j : Nat)] = some m ∧ m ≤ n := by
  unfold whenV at hn ⊢
  rw [List.find?_range_eq_some] at hn
  obtain ⟨h1, h2, h3⟩ := hn
  have h2' : n < F.rs.length := by simpa using h2
  have h4 : F.sure (j : Nat) n = true := by
    simp only [List.all_cons, List.all_nil, Bool.and_true] at h1
    rw [sure_hi] at h1 ⊢
    have := (high_wet O hL hx hy hlo hhi hp h2').2
    have := of_decide_eq_true h1
    exact decide_eq_true (by omega)
  cases q : (List.range F.rs.length).find? fun d => [((j : Nat) : Int)].all fun i => F.sure i d with
  | none =>
    rw [List.find?_eq_none] at q
    have := q n (by simpa using h2')
    simp [h4] at this
  | some m =>
    refine ⟨m, rfl, ?_⟩
    rw [List.find?_range_eq_some] at q
    obtain ⟨_, _, k3⟩ := q
    rcases Nat.lt_or_ge n m with k | k
    · have := k3 n k
      simp [h4] at this
    · exact k
theorem falls_one : ∀ (rs : List (Int × Int)), falls (rs.map fun r => (r.2, r.2)) = [rs.map fun r => r.2]
  | [] => rfl
  | r :: rs => by
    have h1 : (r.2 - r.2 + 1).toNat = 1 := by omega
    rw [List.map_cons, falls, falls_one rs]
    dsimp only
    rw [h1]
    simp
/-- If all is known so is how wet a heap is. -/
theorem known_wet {F : FieldV} (O : F.Ok) (hL : F.looks = []) {i d : Nat} {x : HTurf} (hx : F.hs[i]? = some x) (hk : x.hi = x.lo) {rs : List (Int × Int)} (hr : F.rs = rs.map fun r => (r.2, r.2)) (hd : d < F.rs.length) :
    F.wet (i : Nat) d = (after F.a F.b F.c x.p.toNat ((rs.map fun r => r.2).take (d + 1)) x.lo, after F.a F.b F.c x.p.toNat ((rs.map fun r => r.2).take (d + 1)) x.lo) := by
  have hi := (List.getElem?_eq_some_iff.1 hx).1
  obtain ⟨a1, a2, a3⟩ := wet_ends O (bare_ne O hL) hi hd
  have key : ∀ v, F.val i d v → v = after F.a F.b F.c x.p.toNat ((rs.map fun r => r.2).take (d + 1)) x.lo := by
    intro v hv
    obtain ⟨l, k, hl, hk2, q⟩ := (bare_val O hL hx hd _).1 hv
    rw [hr, falls_one] at hl
    have hl := List.mem_singleton.1 hl
    subst hl
    have hk0 : k = 0 := by omega
    subst hk0
    rw [q]
    congr 1
    omega
  ext
  · exact key _ a2
  · exact key _ a3
end Go.Proofs.Ytmdheijpnlonoaa

namespace Go.Proofs.Ytmdheijpnlonoaa
open Go Go.AbsE
set_option linter.unusedSimpArgs false
set_option maxRecDepth 100000
set_option maxHeartbeats 0
set_option linter.unusedVariables false
theorem zt50 : zeroT Try.prog 50 = some .nilslice := by kernel_rfl
theorem by50 : bytesT Try.prog 50 = some 24 := by kernel_rfl

theorem take_succ {α : Type} {l : List α} {i : Nat} {x : α} (h : l[i]? = some x) : l.take (i + 1) = l.take i ++ [x] := by
  rw [List.take_add_one, h, Option.toList_some]
theorem scan_take (a b c : Int) (p : Nat) {l : List Int} {q : Nat} {r : Int} (h : l[q]? = some r) (w : Int) : scan a b c p (l.take (q + 1)) w = scan a b c p (l.take q) w ++ [ev1 a b c p r (after a b c p (l.take q) w)] := by
  rw [take_succ h, scan_app]
theorem after_take (a b c : Int) (p : Nat) {l : List Int} {q : Nat} {r : Int} (h : l[q]? = some r) (w : Int) : after a b c p (l.take (q + 1)) w = ev1 a b c p r (after a b c p (l.take q) w) := by
  rw [take_succ h, after_app]

/-- How wet each heap is in each evening, in blocks of their own. -/
def WetG (h : AH) (lo : Nat) (F : FieldV) (fs rs : List Int) (sls : List AVal) : Prop := ∀ (k : Nat) x w sl, F.hs[k]? = some x → fs[k]? = some w → sls[k]? = some sl → Grow h 3 1 lo sl rs.length (i64s (scan F.a F.b F.c x.p.toNat rs w))

theorem fill_one {z ds : AVal} (hz : z.cells = [z]) (h : ds.cells = [ds]) : aFillA (fun i => some (i * 1, 1)) (repl z.cells 1) [(0, ds)] = some [ds] := by
  have hr : repl z.cells 1 = [z] := by rw [hz]; rfl
  rw [hr]
  unfold aFillA
  rw [h]
  rfl

theorem wetness_ok {F : FieldV} (hsl rsl lsl fsl ksl : AVal) (fs rs : List Int) (h : AH) (hS : SliceOf h 3 hsl (F.hs.map HTurf.cells)) (hf : SliceOf h 1 fsl (fs.map fun x => [AVal.int .i64 x])) (hk : SliceOf h 1 ksl (rs.map fun x => [AVal.int .i64 x]))
    (hp : ∀ x, x ∈ F.hs → 0 ≤ x.p ∧ x.p ≤ 2) (hn : F.hs.length ≤ 100) (hD : Dries F.a F.b F.c) (hfl : fs.length = F.hs.length) (hfi : ∀ w, w ∈ fs → 0 ≤ w ∧ w ≤ 100) (hri : ∀ r, r ∈ rs → 0 ≤ r ∧ r ≤ 10) (hrn : rs.length ≤ 100) :
    Runs Try.prog 30 [.agg (F.cells hsl rsl lsl), fsl, ksl] h (fun en h' => ∃ s sls, en = .ret s ∧ Ext h h' ∧ sls.length = F.hs.length ∧ Grow h' 50 1 h.next s F.hs.length sls ∧ WetG h' h.next F fs rs sls) := by
  have hl1 := hS.len
  have hl2 := hk.len
  rw [List.length_map] at hl1 hl2
  unfold FieldV.cells fieldC
  refine Runs.intro aFunc30 rfl rfl rfl rfl fun rest => ?_
  refine Go.seq noJ_ok ?_
  refine Go.region noJ_ok rfl ?_
  refine GoR.box rfl rfl rfl rfl rfl rfl fun h0 x0 f0 => ?_
  have e0 := x0
  have := f0.1
  refine GoR.op rfl rfl rfl rfl ?_
  refine GoR.end ?_
  iterate 2 refine Go.seq noJ_ok ?_
  refine Go.region noJ_ok rfl ?_
  refine GoR.op rfl rfl (fa27_0 rfl) rfl ?_
  refine GoR.op rfl rfl (ld22 rfl f0 rfl) rfl ?_
  refine GoR.op rfl rfl (aOp_lenSlice Try.underlying22 rfl hl1) rfl ?_
  refine GoR.op rfl rfl rfl rfl ?_
  refine GoR.end ?_
  refine Go.block noJ_ok ?_
  refine Go.loopKeep (fun a : Nat × AVal × List AVal => [(1, fsl), (2, ksl), (3, .ptr h.next 0), (6, a.2.1), (14, hsl), (15, .int .i64 F.hs.length), (16, .int .i64 (a.1 : Nat))])
    (fun m a h' => m + a.1 = F.hs.length ∧ Ext h h' ∧ h.next < h'.next ∧ Has h' h.next (.cells .plain [hsl, rsl, .int .i64 F.a, .int .i64 F.b, .int .i64 F.c, .int .i64 F.lim, lsl] 27) ∧ a.2.2.length = a.1 ∧ Grow h' 50 1 (h.next + 1) a.2.1 a.1 a.2.2 ∧ WetG h' (h.next + 1) F fs rs a.2.2)
    (n := F.hs.length) (0, .nilslice, []) ⟨rfl, rfl, rfl, rfl, rfl, rfl, rfl, trivial⟩ ⟨rfl, e0, f0.1, f0, rfl, Grow.nil _ _ _ _, (by intro k x w sl q1 q2 q3; simp at q3)⟩ ?_
  clear e0 f0
  rintro m ⟨i, s, sls⟩ h5 ⟨hm, e5, hnx, f0, hsl', G, LG⟩ again
  dsimp only at hm hsl' G LG ⊢
  have e0 : Ext h5 h5 := Ext.refl _
  have he5 := e5.1
  have hE5 := e5
  by_cases hi' : i < F.hs.length
  · obtain ⟨x, hx⟩ : ∃ x, F.hs[i]? = some x := ⟨F.hs[i], by simp [hi']⟩
    obtain ⟨w, hw⟩ : ∃ w, fs[i]? = some w := ⟨fs[i]'(by omega), by simp⟩
    have hwi := hfi w (List.mem_of_getElem? hw)
    have hxp := hp x (List.mem_of_getElem? hx)
    obtain ⟨bq, off, q1, q2⟩ := (hS.ext e5).at (i := i) (l := HTurf.cells x) (by rw [List.getElem?_map, hx]; rfl)
    obtain ⟨bf, off2, p1, p2⟩ := (hf.ext e5).at (i := i) (l := [AVal.int .i64 w]) (by rw [List.getElem?_map, hw]; rfl)
    rw [List.length_map] at q1 p1
    have hif : i < fs.length := by omega
    obtain ⟨xp, xlo, xhi⟩ := x
    unfold HTurf.cells at q2
    dsimp only at q2 hxp
    obtain ⟨pn, rfl⟩ := Int.eq_ofNat_of_zero_le hxp.1
    have F0 := fun h' (e : Ext h5 h') => f0.ext e
    refine Go.seq noJ_ok ?_
    refine Go.region noJ_ok rfl ?_
    refine GoR.op rfl rfl (aOp_lss rfl rfl (r := true) (decide_eq_true (by omega))) rfl ?_
    refine GoR.end ?_
    refine Go.seq noJ_ok ?_
    refine Go.cond noJ_ok (b := true) rfl ?_
    refine Go.code noJ_ok ?_
    refine Go.seq noJ_ok ?_
    refine Go.block noJ_ok ?_
    refine Go.seq noJ_ok ?_
    refine Go.region noJ_ok rfl ?_
    refine GoR.op rfl rfl rfl rfl ?_
    refine GoR.op rfl rfl (aOp_indexAddr Try.underlying22 sz63 rfl q1 rfl (Nat.ble_eq_true_of_le hi')) rfl ?_
    refine GoR.op rfl rfl (aOp_loadE ag63 sz63 rfl (q2.ext e0)) rfl ?_
    refine GoR.alloc rfl rfl rfl zt63 rfl rfl fun h6 x6 f6 => ?_
    have := e5.1
    have := e0.1
    have := f0.1
    replace f0 := f0.ext x6
    replace e5 := e5.trans x6
    replace e0 := e0.trans x6
    have := f6.1
    refine GoR.op rfl rfl rfl rfl ?_
    refine GoR.store rfl rfl rfl rfl rfl rfl f6 rfl sz63 rfl rfl rfl fun h7 u7 => ?_
    replace f6 := u7.has f6
    replace f0 := f0.upd u7 (by omega)
    first | replace e5 := e5.upd u7 (by omega) | clear e5
    first | replace e0 := e0.upd u7 (by omega) | clear e0
    refine GoR.end ?_
    refine Go.seq noJ_ok ?_
    refine Go.region noJ_ok rfl ?_
    iterate 2 refine GoR.op rfl rfl rfl rfl ?_
    refine GoR.op rfl rfl (aOp_indexAddr Try.underlying50 sz3 rfl p1 rfl (Nat.ble_eq_true_of_le hif)) rfl ?_
    refine GoR.op rfl rfl (aOp_loadE1 (k := 0) ag3 rfl (p2.ext e0) rfl) rfl ?_
    refine GoR.op rfl rfl rfl rfl ?_
    refine GoR.end ?_
    refine Go.seq noJ_ok ?_
    refine Go.region noJ_ok rfl ?_
    refine GoR.op rfl rfl rfl rfl ?_
    refine GoR.end ?_
    iterate 2 refine Go.seq noJ_ok ?_
    refine Go.region noJ_ok rfl ?_
    refine GoR.op rfl rfl rfl rfl ?_
    refine GoR.op rfl rfl (aOp_lenSlice Try.underlying50 rfl hl2) rfl ?_
    refine GoR.op rfl rfl rfl rfl ?_
    refine GoR.end ?_
    refine Go.block noJ_ok ?_
    have hb7 : h5.next < h7.next := f6.1
    refine Go.loopKeep (fun a : Nat × AVal => [(1, fsl), (2, ksl), (3, .ptr h.next 0), (6, s), (8, .ptr h5.next 0), (9, .int .i64 (after F.a F.b F.c pn (rs.take a.1) w)), (10, a.2), (14, hsl), (15, .int .i64 F.hs.length), (16, .int .i64 (i : Nat)), (25, ksl), (26, .int .i64 rs.length), (27, .int .i64 (a.1 : Nat))])
      (fun m a h' => m + a.1 = rs.length ∧ Ext h5 h' ∧ h7.next ≤ h'.next ∧ Has h' h5.next (.cells .plain [.int .i64 (pn : Nat), .int .i64 xlo, .int .i64 xhi] 63) ∧ Grow h' 3 1 h7.next a.2 a.1 (i64s (scan F.a F.b F.c pn (rs.take a.1) w)))
      (n := rs.length) (0, .nilslice) ⟨rfl, rfl, rfl, rfl, rfl, rfl, rfl, rfl, rfl, rfl, rfl, rfl, rfl, trivial⟩ ⟨rfl, e0, Nat.le_refl _, f6, (by rw [List.take_zero]; exact Grow.nil _ _ _ _)⟩ ?_
    clear e0 e5 f6 f0
    rintro m2 ⟨q, ds⟩ h10 ⟨hm2, e0, hn10, f6, g⟩ again2
    dsimp only at hm2 f6 g
    have e5 : Ext h h10 := hE5.trans e0
    have f0 := F0 _ e0
    by_cases hq : q < rs.length
    · obtain ⟨r, hr⟩ : ∃ r, rs[q]? = some r := ⟨rs[q], by simp [hq]⟩
      obtain ⟨bk, off3, r1, r2⟩ := (hk.ext e5).at (i := q) (l := [AVal.int .i64 r]) (by rw [List.getElem?_map, hr]; rfl)
      rw [List.length_map] at r1
      have hr0 := hri r (List.mem_of_getElem? hr)
      have hnw := after_in F.a F.b F.c pn (rs.take q) hwi
      have hat := after_take F.a F.b F.c pn hr w
      have hst := scan_take F.a F.b F.c pn hr w
      have again2' := fun t' h' => again2 (m2 - 1) (q + 1, ds) t' h' (by omega)
      obtain ⟨now, hnow⟩ : ∃ now, after F.a F.b F.c pn (rs.take q) w = now := ⟨_, rfl⟩
      rw [hnow] at hat hst hnw
      obtain ⟨d, hd⟩ : ∃ d, [F.a, F.b, F.c][pn]? = some d := ⟨[F.a, F.b, F.c][pn]'(by show pn < 3; omega), by simp⟩
      have hd0 : 0 ≤ d ∧ d ≤ 20 := by
        have := List.mem_of_getElem? hd
        simp only [List.mem_cons, List.not_mem_nil, or_false] at this
        unfold Dries at hD
        rcases this with rfl | rfl | rfl <;> omega
      have hld : [hsl, rsl, AVal.int .i64 F.a, .int .i64 F.b, .int .i64 F.c, .int .i64 F.lim, lsl][0 + 2 + pn * 1]? = some (.int .i64 d) := by
        have hp3 : pn = 0 ∨ pn = 1 ∨ pn = 2 := by omega
        rcases hp3 with rfl | rfl | rfl <;> (cases hd; rfl)
      have hpn3 : pn < 3 := by omega
      obtain ⟨n2, hn2⟩ : ∃ n2, (if r = 0 then now - d else now) = n2 := ⟨_, rfl⟩
      obtain ⟨mn, hmn⟩ : ∃ mn, (if n2 + r < 100 then n2 + r else 100) = mn := ⟨_, rfl⟩
      obtain ⟨n', hmx⟩ : ∃ n', (if 0 < mn then mn else 0) = n' := ⟨_, rfl⟩
      have hev : ev1 F.a F.b F.c pn r now = n' := by
        unfold ev1
        rw [hd, Option.getD_some]
        unfold holdV
        by_cases hz : r = 0
        · rw [if_pos hz] at hn2
          rw [if_neg (by omega)]
          subst hn2 hmn hmx
          repeat' split
          all_goals omega
        · rw [if_neg hz] at hn2
          rw [if_pos (by omega)]
          subst hn2 hmn hmx
          repeat' split
          all_goals omega
      rw [hev] at hat hst
      rw [hnow]
      have e1 : Ext h10 h10 := Ext.refl _
      have hfin : ∀ (h60 : AH) (k : List AItem) (b3 : Nat), True := fun _ _ _ => trivial
      have hrl : ∃ z : Bool, decide (r = 0) = z := ⟨_, rfl⟩
      obtain ⟨z, hz⟩ := hrl
      cases z with
      | true =>
        rw [if_pos (of_decide_eq_true hz)] at hn2
        subst hn2
        refine Go.seq noJ_ok ?_
        refine Go.region noJ_ok rfl ?_
        refine GoR.op rfl rfl (aOp_lss rfl rfl (r := true) (decide_eq_true (by omega))) rfl ?_
        refine GoR.end ?_
        refine Go.seq noJ_ok ?_
        refine Go.cond noJ_ok (b := true) rfl ?_
        refine Go.code noJ_ok ?_
        refine Go.seq noJ_ok ?_
        refine Go.block noJ_ok ?_
        refine Go.seq noJ_ok ?_
        refine Go.region noJ_ok rfl ?_
        refine GoR.op rfl rfl (aOp_indexAddr Try.underlying50 sz3 rfl r1 rfl (Nat.ble_eq_true_of_le hq)) rfl ?_
        refine GoR.op rfl rfl (aOp_loadE1 (k := 0) ag3 rfl r2 rfl) rfl ?_
        refine GoR.op rfl rfl rfl rfl ?_
        refine GoR.end ?_
        iterate 2 refine Go.seq noJ_ok ?_
        refine Go.region noJ_ok rfl ?_
        refine GoR.op rfl rfl rfl rfl ?_
        refine GoR.op rfl rfl (aOp_eql rfl rfl hz) rfl ?_
        refine GoR.end ?_
        refine Go.cond noJ_ok (b := true) rfl ?_
        refine Go.region noJ_ok rfl ?_
        refine GoR.op rfl rfl rfl rfl ?_
        refine GoR.op rfl rfl (fa63_0 rfl) rfl ?_
        refine GoR.op rfl rfl (ld3 rfl f6 rfl) rfl ?_
        refine GoR.op rfl rfl (fa27_2 rfl) rfl ?_
        refine GoR.op rfl rfl (aOp_indexAddrArr Try.underlying24 sz3 rfl rfl (Nat.ble_eq_true_of_le hpn3)) rfl ?_
        refine GoR.op rfl rfl (ld3 rfl f0 hld) rfl ?_
        refine GoR.op rfl rfl (aOp_sub rfl rfl (by constructor <;> omega) rfl) rfl ?_
        refine GoR.op rfl rfl rfl rfl ?_
        refine GoR.end ?_
        refine Go.seq noJ_ok ?_
        refine Go.region noJ_ok rfl ?_
        iterate 2 refine GoR.op rfl rfl rfl rfl ?_
        refine GoR.op rfl rfl (aOp_add rfl rfl (by constructor <;> omega) rfl) rfl ?_
        refine GoR.op rfl rfl (aOp_min2 rfl rfl hmn) rfl ?_
        refine GoR.op rfl rfl (aOp_max2 rfl rfl hmx) rfl ?_
        refine GoR.op rfl rfl rfl rfl ?_
        refine GoR.end ?_
        refine Go.region noJ_ok rfl ?_
        iterate 2 refine GoR.op rfl rfl rfl rfl ?_
        refine GoR.buildSl rfl rfl (ps := [(0, .int .i64 n')]) (cs := [.int .i64 n']) Try.underlying50 rfl sz3 zt3 rfl rfl rfl rfl fun h11 x11 f11 => ?_
        have := e0.1
        have := e5.1
        have := e1.1
        have := f6.1
        have := f0.1
        replace f6 := f6.ext x11
        replace f0 := f0.ext x11
        replace e0 := e0.trans x11
        replace e5 := e5.trans x11
        replace e1 := e1.trans x11
        have := f11.1
        have g' := g.ext e1
        refine GoR.append1F (lo := h7.next) (s := ds) rfl rfl rfl Try.underlying50 Try.underlying50 sz3 by3 zt3 rfl rfl rfl rfl f11 rfl rfl g' (by omega) rfl rfl fun s6 h59 y59 g59 => ?_
        have e9 : Ext h5 h59 := y59.low e0 (fun b q => by have := (grow_own g' q).1; omega)
        have f9 := f6.extF y59 (fun q => by have := (grow_own g' q).1; omega)
        have hy := y59.1
        have hy2 := e1.1
        clear e0 e1 e5 f6 f11 f0 y59
        have e0 : Ext h59 h59 := Ext.refl _
        have again3 := again2 (m2 - 1) (q + 1, s6)
        dsimp only at again3
        rw [hat, hst] at again3
        refine GoR.op rfl rfl rfl rfl ?_
        refine GoR.end ?_
        refine Go.inBlock noJ_ok ?_
        refine Go.region noJ_ok rfl ?_
        refine GoR.op rfl rfl (aOp_add rfl rfl (by constructor <;> omega) rfl) rfl ?_
        refine GoR.op rfl rfl rfl rfl ?_
        refine GoR.end ?_
        refine again3 _ _ (by omega) ⟨rfl, rfl, rfl, rfl, rfl, rfl, rfl, rfl, rfl, rfl, rfl, rfl, rfl, trivial⟩ ⟨by omega, e9, by omega, f9, ?_⟩
        unfold i64s at g59 ⊢
        rw [List.map_append]
        exact g59.low (by omega)
      | false =>
        rw [if_neg (of_decide_eq_false hz)] at hn2
        subst hn2
        refine Go.seq noJ_ok ?_
        refine Go.region noJ_ok rfl ?_
        refine GoR.op rfl rfl (aOp_lss rfl rfl (r := true) (decide_eq_true (by omega))) rfl ?_
        refine GoR.end ?_
        refine Go.seq noJ_ok ?_
        refine Go.cond noJ_ok (b := true) rfl ?_
        refine Go.code noJ_ok ?_
        refine Go.seq noJ_ok ?_
        refine Go.block noJ_ok ?_
        refine Go.seq noJ_ok ?_
        refine Go.region noJ_ok rfl ?_
        refine GoR.op rfl rfl (aOp_indexAddr Try.underlying50 sz3 rfl r1 rfl (Nat.ble_eq_true_of_le hq)) rfl ?_
        refine GoR.op rfl rfl (aOp_loadE1 (k := 0) ag3 rfl r2 rfl) rfl ?_
        refine GoR.op rfl rfl rfl rfl ?_
        refine GoR.end ?_
        iterate 2 refine Go.seq noJ_ok ?_
        refine Go.region noJ_ok rfl ?_
        refine GoR.op rfl rfl rfl rfl ?_
        refine GoR.op rfl rfl (aOp_eql rfl rfl hz) rfl ?_
        refine GoR.end ?_
        refine Go.cond noJ_ok (b := false) rfl ?_
        refine Go.code noJ_ok ?_
        refine Go.seq noJ_ok ?_
        refine Go.region noJ_ok rfl ?_
        iterate 2 refine GoR.op rfl rfl rfl rfl ?_
        refine GoR.op rfl rfl (aOp_add rfl rfl (by constructor <;> omega) rfl) rfl ?_
        refine GoR.op rfl rfl (aOp_min2 rfl rfl hmn) rfl ?_
        refine GoR.op rfl rfl (aOp_max2 rfl rfl hmx) rfl ?_
        refine GoR.op rfl rfl rfl rfl ?_
        refine GoR.end ?_
        refine Go.region noJ_ok rfl ?_
        iterate 2 refine GoR.op rfl rfl rfl rfl ?_
        refine GoR.buildSl rfl rfl (ps := [(0, .int .i64 n')]) (cs := [.int .i64 n']) Try.underlying50 rfl sz3 zt3 rfl rfl rfl rfl fun h11 x11 f11 => ?_
        have := e0.1
        have := e5.1
        have := e1.1
        have := f6.1
        have := f0.1
        replace f6 := f6.ext x11
        replace f0 := f0.ext x11
        replace e0 := e0.trans x11
        replace e5 := e5.trans x11
        replace e1 := e1.trans x11
        have := f11.1
        have g' := g.ext e1
        refine GoR.append1F (lo := h7.next) (s := ds) rfl rfl rfl Try.underlying50 Try.underlying50 sz3 by3 zt3 rfl rfl rfl rfl f11 rfl rfl g' (by omega) rfl rfl fun s6 h59 y59 g59 => ?_
        have e9 : Ext h5 h59 := y59.low e0 (fun b q => by have := (grow_own g' q).1; omega)
        have f9 := f6.extF y59 (fun q => by have := (grow_own g' q).1; omega)
        have hy := y59.1
        have hy2 := e1.1
        clear e0 e1 e5 f6 f11 f0 y59
        have e0 : Ext h59 h59 := Ext.refl _
        have again3 := again2 (m2 - 1) (q + 1, s6)
        dsimp only at again3
        rw [hat, hst] at again3
        refine GoR.op rfl rfl rfl rfl ?_
        refine GoR.end ?_
        refine Go.inBlock noJ_ok ?_
        refine Go.region noJ_ok rfl ?_
        refine GoR.op rfl rfl (aOp_add rfl rfl (by constructor <;> omega) rfl) rfl ?_
        refine GoR.op rfl rfl rfl rfl ?_
        refine GoR.end ?_
        refine again3 _ _ (by omega) ⟨rfl, rfl, rfl, rfl, rfl, rfl, rfl, rfl, rfl, rfl, rfl, rfl, rfl, trivial⟩ ⟨by omega, e9, by omega, f9, ?_⟩
        unfold i64s at g59 ⊢
        rw [List.map_append]
        exact g59.low (by omega)
    · have hqq : q = rs.length := by omega
      subst hqq
      rw [List.take_length] at g
      obtain ⟨hd1, hd2⟩ := grow_scal g
      have e1 : Ext h10 h10 := Ext.refl _
      refine Go.seq noJ_ok ?_
      refine Go.region noJ_ok rfl ?_
      refine GoR.op rfl rfl (aOp_lss rfl rfl (r := false) (decide_eq_false (by omega))) rfl ?_
      refine GoR.end ?_
      refine Go.seq noJ_ok ?_
      refine Go.cond noJ_ok (b := false) rfl ?_
      refine Go.code noJ_ok ?_
      refine Go.region noJ_ok rfl ?_
      iterate 2 refine GoR.op rfl rfl rfl rfl ?_
      refine GoR.buildSl rfl rfl (ps := [(0, ds)]) (cs := [ds]) Try.underlying49 rfl sz50 zt50 rfl rfl (fill_one rfl hd2) rfl fun h11 x11 f11 => ?_
      have := e0.1
      have := e5.1
      have := e1.1
      have := f6.1
      have := f0.1
      replace f6 := f6.ext x11
      replace f0 := f0.ext x11
      replace e0 := e0.trans x11
      replace e5 := e5.trans x11
      replace e1 := e1.trans x11
      have := f11.1
      have G' := G.ext e0
      refine GoR.append1F (lo := h.next + 1) (s := s) rfl rfl rfl Try.underlying49 Try.underlying49 sz50 by50 zt50 rfl rfl rfl rfl f11 rfl hd1 G' (by omega) rfl rfl fun s6 h59 y59 g59 => ?_
      have hy := y59.1
      have hy2 := e1.1
      have e9 : Ext h h59 := y59.low e5 (fun b q => by have := (grow_own G' q).1; omega)
      have f9 := f0.extF y59 (fun q => by have := (grow_own G' q).1; omega)
      have gl : Grow h59 3 1 h7.next ds rs.length (i64s (scan F.a F.b F.c pn rs w)) := (g.ext e1).keep hy fun b hb1 hb2 hb3 => y59.2 b hb2 fun q => grow_other (g.ext e1) G' (by decide) hb3 q
      have LG5 : WetG h59 (h.next + 1) F fs rs sls := fun k x' w' sl' k1 k2 k3 => by
        have := (LG k x' w' sl' k1 k2 k3).ext e0
        exact this.keep hy fun b hb1 hb2 hb3 => y59.2 b hb2 fun q => grow_other this G' (by decide) hb3 q
      clear e0 e1 e5 f6 f11 f0 y59
      have e0 : Ext h59 h59 := Ext.refl _
      refine GoR.op rfl rfl rfl rfl ?_
      refine GoR.end ?_
      refine Go.inBlock noJ_ok ?_
      refine Go.region noJ_ok rfl ?_
      refine GoR.op rfl rfl (aOp_add rfl rfl (by constructor <;> omega) rfl) rfl ?_
      refine GoR.op rfl rfl rfl rfl ?_
      refine GoR.end ?_
      refine again (m - 1) (i + 1, s6, sls ++ [ds]) _ _ (by omega) ⟨rfl, rfl, rfl, rfl, rfl, rfl, rfl, trivial⟩ ⟨by dsimp only; omega, e9, by omega, f9, by simp [hsl'], g59.low (by omega), ?_⟩
      intro k x' w' sl' k1 k2 k3
      dsimp only at k3
      by_cases hki : k < i
      · rw [List.getElem?_append_left (by omega)] at k3
        exact LG5 k x' w' sl' k1 k2 k3
      · rw [List.getElem?_append_right (by omega), hsl'] at k3
        have hk0 : k - i = 0 := by
          have := (List.getElem?_eq_some_iff.1 k3).1
          simp at this
          omega
        have hki2 : k = i := by omega
        rw [hk0] at k3
        subst hki2
        rw [hx] at k1
        rw [hw] at k2
        cases k1
        cases k2
        cases k3
        exact gl.low (by omega)
  · have hin : i = F.hs.length := by omega
    subst hin
    refine Go.seq noJ_ok ?_
    refine Go.region noJ_ok rfl ?_
    refine GoR.op rfl rfl (aOp_lss rfl rfl (r := false) (decide_eq_false (by omega))) rfl ?_
    refine GoR.end ?_
    refine Go.seq noJ_ok ?_
    refine Go.cond noJ_ok (b := false) rfl ?_
    refine Go.code noJ_ok ?_
    refine Go.seq noJ_ok ?_
    refine Go.region noJ_ok rfl ?_
    iterate 2 refine GoR.op rfl rfl rfl rfl ?_
    refine GoR.end ?_
    exact Go.ret noJ_ok (ret_end (aResult_of Try.func30 rfl rfl) ⟨s, sls, rfl, e5, hsl', G.low (by omega), fun k x w sl a b c => (LG k x w sl a b c).low (by omega)⟩)
end Go.Proofs.Ytmdheijpnlonoaa

namespace Go.AbsE
open Go
set_option linter.unusedSimpArgs false
set_option maxRecDepth 100000
section
variable {P : Program}
theorem aOp_quo {t : Tr AVal} {h : AH} {dst : Option Tmp} {ty tt ty2 : TypeId} {pos : String} {after : Array Edge} {guard : Option (Nat × Bool)} {x y : Operand} {a b r : Int} (hx : ev t x = some (.int .i64 a)) (hy : ev t y = some (.int .i64 b)) (hb : b ≠ 0) (hr : a.tdiv b = r) (hr2 : -9223372036854775808 ≤ r ∧ r ≤ 9223372036854775807) :
    aOp P t h ⟨dst, .binOp .quo ty x y ty2, tt, pos, after, guard⟩ = some (.val (.int .i64 r) h) := by
  refine aOp_bin hx hy ?_
  have hw : IntKind.i64.wrap r = r := by
    rw [← wrap64_eq]
    exact wrap64_in (by constructor <;> omega)
  have : pureRun P (binOp .quo ty (.int .i64 a) (.int .i64 b)) = some (.int .i64 r) := by
    show pureRun P (if IntKind.i64 ≠ IntKind.i64 then stuck "BinOp: operands of different kinds" else Op.intDiv .quo .i64 a b) = _
    rw [if_neg (fun h => h rfl)]
    unfold Op.intDiv
    rw [if_neg hb, hr, hw]
    rfl
  show (match pureRun P (binOp .quo ty (.int .i64 a) (.int .i64 b)) with | some v => absV v | none => none) = _
  rw [this]
  rfl
/-- Structs of two numbers. -/
structure SpanT (P : Program) (kt : TypeId) : Prop where
  fs : ∃ f0 f1 : Field, P.underlying kt = some (.struct #[f0, f1]) ∧ f0.name ≠ "_" ∧ f1.name ≠ "_" ∧ f0.offset = 0 ∧ f1.offset = 1 ∧ (∃ k, P.underlying f0.type = some (.int k)) ∧ (∃ k, P.underlying f1.type = some (.int k))
  std : P.stoodInHeld kt = false
  eg : P.eqGuardType P.depth kt = false
theorem pr_eq_span {kt : TypeId} (K : SpanT P kt) {a b a' b' : Int} :
    pureRun P (Op.equal kt (.agg #[.int .i64 a, .int .i64 b]) (.agg #[.int .i64 a', .int .i64 b'])) = some (a == a' && b == b') := by
  obtain ⟨⟨f0, f1, hu, n0, n1, o0, o1, ⟨k0, hf0⟩, ⟨k1, hf1⟩⟩, hst, _⟩ := K
  show pureRun P (Op.equalIn (9999 + 1) kt _ _) = _
  unfold Op.equalIn
  rw [pureRun_bind, pr_underlying hu]
  simp only [Option.bind_some, pureRun_bind, pr_program, hst, Bool.false_eq_true, if_false, ← Array.forIn_toList, List.forIn_cons, List.forIn_nil, n0, n1, ne_eq, not_false_eq_true, if_true, pureRun_pure, o0, o1,
    pr_part_one hf0 (v := .int .i64 a) (cs := #[.int .i64 a, .int .i64 b]) (off := 0) rfl, pr_part_one hf0 (v := .int .i64 a') (cs := #[.int .i64 a', .int .i64 b']) (off := 0) rfl, pr_eq_int hf0]
  cases h0 : a == a'
  · rfl
  · simp only [Bool.not_true, Bool.false_eq_true, if_false, pureRun_bind, pureRun_pure, Option.bind_some, n1, ne_eq, not_false_eq_true, if_true, o1,
      pr_part_one hf1 (v := .int .i64 b) (cs := #[.int .i64 a, .int .i64 b]) (off := 1) rfl, pr_part_one hf1 (v := .int .i64 b') (cs := #[.int .i64 a', .int .i64 b']) (off := 1) rfl, pr_eq_int hf1]
    cases b == b' <;> rfl
theorem aOp_neqSpan {t : Tr AVal} {h : AH} {dst : Option Tmp} {ty tt ty2 : TypeId} {pos : String} {after : Array Edge} {guard : Option (Nat × Bool)} {x y : Operand} {a b a' b' : Int} {r : Bool} (K : SpanT P ty) (hx : ev t x = some (.agg [.int .i64 a, .int .i64 b])) (hy : ev t y = some (.agg [.int .i64 a', .int .i64 b'])) (hr : (!(a == a' && b == b')) = r) :
    aOp P t h ⟨dst, .binOp .neq ty x y ty2, tt, pos, after, guard⟩ = some (.val (.bool r) h) := by
  show opBin P t h .neq ty x y = _
  unfold opBin
  rw [hx, hy]
  have : pureRun P (binOp .neq ty (.agg #[.int .i64 a, .int .i64 b]) (.agg #[.int .i64 a', .int .i64 b'])) = some (.bool (!(a == a' && b == b'))) := by
    show pureRun P (Op.equal ty (.agg #[.int .i64 a, .int .i64 b]) (.agg #[.int .i64 a', .int .i64 b']) >>= fun r => pure (Value.bool (!r))) = _
    rw [pureRun_bind, pr_eq_span K]
    rfl
  show (match cond (P.eqGuardType P.depth ty) none (match pureRun P (binOp .neq ty (.agg #[.int .i64 a, .int .i64 b]) (.agg #[.int .i64 a', .int .i64 b'])) with | some v => absV v | none => none) with | some v => some (ANext.val v h) | none => none) = _
  rw [K.eg, this, hr]
  rfl
theorem aOp_eqlSpan {t : Tr AVal} {h : AH} {dst : Option Tmp} {ty tt ty2 : TypeId} {pos : String} {after : Array Edge} {guard : Option (Nat × Bool)} {x y : Operand} {a b a' b' : Int} {r : Bool} (K : SpanT P ty) (hx : ev t x = some (.agg [.int .i64 a, .int .i64 b])) (hy : ev t y = some (.agg [.int .i64 a', .int .i64 b'])) (hr : (a == a' && b == b') = r) :
    aOp P t h ⟨dst, .binOp .eql ty x y ty2, tt, pos, after, guard⟩ = some (.val (.bool r) h) := by
  show opBin P t h .eql ty x y = _
  unfold opBin
  rw [hx, hy]
  have : pureRun P (binOp .eql ty (.agg #[.int .i64 a, .int .i64 b]) (.agg #[.int .i64 a', .int .i64 b'])) = some (.bool (a == a' && b == b')) := by
    show pureRun P (Op.equal ty (.agg #[.int .i64 a, .int .i64 b]) (.agg #[.int .i64 a', .int .i64 b']) >>= fun r => pure (Value.bool r)) = _
    rw [pureRun_bind, pr_eq_span K]
    rfl
  show (match cond (P.eqGuardType P.depth ty) none (match pureRun P (binOp .eql ty (.agg #[.int .i64 a, .int .i64 b]) (.agg #[.int .i64 a', .int .i64 b'])) with | some v => absV v | none => none) with | some v => some (ANext.val v h) | none => none) = _
  rw [K.eg, this, hr]
  rfl
/-- One element more, from a literal. -/
theorem aOp_append1L {t : Tr AVal} {h : AH} {dst : Option Tmp} {tt : TypeId} {pos : String} {after : Array Edge} {guard : Option (Nat × Bool)} {x y : Operand} {s : AVal} {n lo : Nat} {cs new : List AVal} {t1 t2 el el2 : TypeId} {sz bytes : Nat} {z : AVal}
    (hu1 : P.underlying t1 = some (.slice el)) (hu2 : P.underlying t2 = some (.slice el2)) (hs : sizeT P el = some sz) (hby : bytesT P el = some bytes) (hz : zeroT P el = some z) (hzl : Nat.beq z.cells.length sz = true)
    (hsz : Nat.blt 0 sz = true) (hx : ev t x = some s) (hy : ev t y = some (.lit 1 new)) (hnl : Nat.beq new.length sz = true) (hns : scalars new = true) (hgr : Grow h el sz lo s n cs)
    (hroom : (n + 301) * 2 * (bytes + 1) < 281474976710656) :
    ∃ s' h1, aOp P t h ⟨dst, .call ⟨.builtin .append, #[x, y], #[t1, t2]⟩, tt, pos, after, guard⟩ = some (.val s' h1) ∧ ExtF (fun b => s = .gsl b 0 0 n) h h1 ∧ Grow h1 el sz h.next s' (n + 1) (cs ++ new) := by
  obtain ⟨hcl, hgr⟩ := hgr
  have e1 := Nat.eq_of_beq_eq_true hnl
  have hsrc : srcCells h sz 1 (.lit 1 new) = some new := by
    simp only [srcCells, Nat.one_mul]
    exact slice_all e1
  have hlt : Nat.blt ((n + 1 + 300) * 2 * (bytes + 1)) 281474976710656 = true := Nat.ble_eq_true_of_le hroom
  have hop : ∀ {y'}, aAppend P h t1 t2 s (.lit 1 new) = some y' → aOp P t h ⟨dst, .call ⟨.builtin .append, #[x, y], #[t1, t2]⟩, tt, pos, after, guard⟩ = some y' := by
    intro y' q
    show opCall P t h ⟨.builtin .append, #[x, y], #[t1, t2]⟩ tt = _
    have he : evs t [x, y] = some [s, .lit 1 new] := by simp only [evs, mapO, hx, hy]
    simp only [opCall, he, callWith, aBuiltin, q]
  have hl1 : lenA (.lit 1 new) = some 1 := rfl
  rcases hgr with ⟨rfl, rfl⟩ | ⟨hn0, bs, hlo, rfl, hbs⟩
  · obtain ⟨h1, q⟩ := new_some h (.cells .grow new el)
    obtain ⟨_, q2, q3⟩ := new_ext q
    have hc0 : cs = [] := List.eq_nil_of_length_eq_zero (by simpa using hcl)
    subst hc0
    refine ⟨.gsl h.next 0 0 1, h1, hop ?_, .of q2, ⟨by simp [e1], .inr ⟨by omega, h.next, Nat.le_refl _, rfl, q3⟩⟩⟩
    unfold aAppend
    rw [hu1, hu2]
    simp only [hs, hby, hz, lenA, hl1, hsrc, hlt, hsz, hzl, cond_true]
    have : Nat.beq 1 0 = false := rfl
    simp only [this, cond_false, growNew, q]
  · have hset : ∃ h2, h.set bs none = some h2 := by obtain ⟨tt, nx⟩ := h; exact ⟨_, rfl⟩
    obtain ⟨h2, hset⟩ := hset
    obtain ⟨h1, q⟩ := new_some h2 (.cells .grow (cs ++ new) el)
    obtain ⟨_, q2, q3⟩ := new_ext q
    obtain ⟨hnx, hgt⟩ := AH.get_set hset
    have hx2 : ExtF (fun b => AVal.gsl bs 0 0 n = .gsl b 0 0 n) h h2 := ⟨by omega, fun b hb hne => by rw [hgt, if_neg (fun q => hne (by rw [q]))]⟩
    refine ⟨.gsl h2.next 0 0 (n + 1), h1, hop ?_, hx2.ext q2, ⟨by simp [e1, hcl, Nat.add_mul], .inr ⟨by omega, h2.next, by omega, rfl, q3⟩⟩⟩
    unfold aAppend
    rw [hu1, hu2]
    simp only [hs, hby, hz, show lenA (.gsl bs 0 0 n) = some n from rfl, hl1, hsrc, hlt, hsz, hzl, cond_true]
    unfold appGsl
    rw [hbs.2]
    have b1 : Nat.beq 0 (0 * sz) = true := by simp
    have b2 : eqSize P el sz = true := by unfold eqSize; rw [hs]; simp
    have b3 : Nat.beq el el = true := by simp
    have b4 : Nat.ble (0 + (n + 1) * sz) cs.length = false := by
      cases hq : Nat.ble (0 + (n + 1) * sz) cs.length with
      | false => rfl
      | true =>
        have := Nat.le_of_ble_eq_true hq
        have h3 : 0 < sz := blt_true hsz
        rw [hcl, Nat.zero_add, Nat.add_mul] at this
        omega
    have b5 : srcCells h sz n (.gsl bs 0 0 n) = some cs := by
      simp only [srcCells, loadCells, hbs.2]
      exact slice_all hcl
    simp only [b1, b2, b3, b4, b5, hns, cond_true, cond_false, hset, growNew, q]
    have : Nat.beq 0 0 = true := rfl
    simp only [this, cond_true]
variable {c : FC} {k : List AItem} {Q : AM → Prop} {all : Array Oper} {pl rest : List DOp} {tf ta : Tr AVal} {facts left : List DFact} {i bef d : Nat} {h : AH}
theorem GoE.append1L {dst : Option Tmp} {tt : TypeId} {pos : String} {after : Array Edge} {guard : Option (Nat × Bool)} {x y : Operand} {s : AVal} {n lo : Nat} {cs new : List AVal} {t1 t2 el el2 : TypeId} {sz bytes : Nat} {z : AVal}
    (hl : pl = ⟨i, bef, false, ⟨dst, .call ⟨.builtin .append, #[x, y], #[t1, t2]⟩, tt, pos, after, guard⟩, false⟩ :: rest) (hw : wantedA all ta ⟨dst, .call ⟨.builtin .append, #[x, y], #[t1, t2]⟩, tt, pos, after, guard⟩ = some true)
    (hu1 : P.underlying t1 = some (.slice el)) (hu2 : P.underlying t2 = some (.slice el2)) (hs : sizeT P el = some sz) (hby : bytesT P el = some bytes) (hz : zeroT P el = some z) (hzl : Nat.beq z.cells.length sz = true)
    (hsz : Nat.blt 0 sz = true) (hx : ev ta x = some s) (hy : ev ta y = some (.lit 1 new)) (hnl : Nat.beq new.length sz = true) (hns : scalars new = true) (hgr : Grow h el sz lo s n cs)
    (hroom : (n + 301) * 2 * (bytes + 1) < 281474976710656) (hleft : dropF bef facts = left) (hd : dst = some d) (hdn : Nat.blt d c.n = true)
    (g : ∀ s' h1, ExtF (fun b => s = .gsl b 0 0 n) h h1 → Grow h1 el sz h.next s' (n + 1) (cs ++ new) → recheck P h1 left = true ∧ GoE P c k Q all rest tf left (ta.put (pth d) (some s')) h1) :
    GoE P c k Q all pl tf facts ta h := by
  obtain ⟨s', h1, q1, q2, q3⟩ := aOp_append1L (P := P) (dst := dst) (tt := tt) (pos := pos) (after := after) (guard := guard) hu1 hu2 hs hby hz hzl hsz hx hy hnl hns hgr hroom
  obtain ⟨g1, g2⟩ := g s' h1 q2 q3
  exact GoE.noisy0 hl hw q1 hleft g1 (prepD_some hd hdn) g2
end
end Go.AbsE
