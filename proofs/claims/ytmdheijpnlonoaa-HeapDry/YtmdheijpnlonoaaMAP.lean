import Derived.Test.YtmdheijpnlonoaaMAO
import Derived.Test.YtmdheijpnlonoaaChecked
import Derived.KernelRfl
/- Calls that a run makes, each by a run of its own. -/
namespace Go.Proofs.Ytmdheijpnlonoaa
open Go Go.AbsE
set_option linter.unusedSimpArgs false
noncomputable def entA1 : Go.AbsE.Ent := ⟨13, (.agg ((.slice 0 0 2 2) :: (.slice 1 0 3 3) :: (.int .i64 (Int.ofNat 3)) :: (.int .i64 (Int.ofNat 5)) :: (.int .i64 (Int.ofNat 8)) :: (.int .i64 (Int.ofNat 20)) :: .nilslice :: [])) :: (.int .i64 (Int.ofNat 0)) :: (.int .i64 (Int.ofNat 2)) :: [], ((.int .i64 (Int.ofNat 0)) :: (.int .i64 (Int.ofNat 30)) :: (.int .i64 (Int.ofNat 31)) :: (.int .i64 (Int.ofNat 2)) :: (.int .i64 (Int.ofNat 30)) :: (.int .i64 (Int.ofNat 30)) :: [], 63) :: ((.int .i64 (Int.ofNat 0)) :: (.int .i64 (Int.ofNat 0)) :: (.int .i64 (Int.ofNat 0)) :: (.int .i64 (Int.ofNat 1)) :: (.int .i64 (Int.ofNat 0)) :: (.int .i64 (Int.ofNat 0)) :: [], 30) :: [], (.tuple ((.agg ((.int .i64 (Int.ofNat 21)) :: (.int .i64 (Int.ofNat 26)) :: [])) :: (.int .i64 (Int.ofNat 0)) :: []))⟩
theorem entA1Ok : EntOk Try.prog entA1 := entRun_ok JW_ok (fuel := 1000000) (by kernel_rfl)
noncomputable def entA2 : Go.AbsE.Ent := ⟨14, (.agg ((.slice 0 0 2 2) :: (.slice 1 0 3 3) :: (.int .i64 (Int.ofNat 3)) :: (.int .i64 (Int.ofNat 5)) :: (.int .i64 (Int.ofNat 8)) :: (.int .i64 (Int.ofNat 20)) :: (.slice 2 0 1 1) :: [])) :: (.int .i64 (Int.ofNat 1)) :: [], ((.int .i64 (Int.ofNat 0)) :: (.int .i64 (Int.ofNat 30)) :: (.int .i64 (Int.ofNat 31)) :: (.int .i64 (Int.ofNat 2)) :: (.int .i64 (Int.ofNat 30)) :: (.int .i64 (Int.ofNat 30)) :: [], 63) :: ((.int .i64 (Int.ofNat 0)) :: (.int .i64 (Int.ofNat 0)) :: (.int .i64 (Int.ofNat 0)) :: (.int .i64 (Int.ofNat 1)) :: (.int .i64 (Int.ofNat 0)) :: (.int .i64 (Int.ofNat 0)) :: [], 30) :: ((.int .i64 (Int.ofNat 1)) :: (.int .i64 (Int.ofNat 1)) :: (.int .i64 (Int.ofNat 20)) :: (.int .i64 (Int.ofNat 25)) :: [], 59) :: [], (.tuple ((.agg ((.int .i64 (Int.ofNat 1)) :: (.int .i64 (Int.ofNat 1)) :: [])) :: (.int .i64 (Int.ofNat 0)) :: []))⟩
theorem entA2Ok : EntOk Try.prog entA2 := entRun_ok JW_ok (fuel := 1000000) (by kernel_rfl)
noncomputable def entA3 : Go.AbsE.Ent := ⟨15, (.agg ((.slice 0 0 2 2) :: (.slice 1 0 3 3) :: (.int .i64 (Int.ofNat 3)) :: (.int .i64 (Int.ofNat 5)) :: (.int .i64 (Int.ofNat 8)) :: (.int .i64 (Int.ofNat 20)) :: .nilslice :: [])) :: (.int .i64 (Int.ofNat 1)) :: (.int .i64 (Int.ofNat 1)) :: [], ((.int .i64 (Int.ofNat 0)) :: (.int .i64 (Int.ofNat 30)) :: (.int .i64 (Int.ofNat 31)) :: (.int .i64 (Int.ofNat 2)) :: (.int .i64 (Int.ofNat 30)) :: (.int .i64 (Int.ofNat 30)) :: [], 63) :: ((.int .i64 (Int.ofNat 0)) :: (.int .i64 (Int.ofNat 0)) :: (.int .i64 (Int.ofNat 0)) :: (.int .i64 (Int.ofNat 1)) :: (.int .i64 (Int.ofNat 0)) :: (.int .i64 (Int.ofNat 0)) :: [], 30) :: [], (.tuple ((.int .i64 (Int.ofNat 1)) :: (.int .i64 (Int.ofNat 0)) :: []))⟩
theorem entA3Ok : EntOk Try.prog entA3 := entRun_ok JW_ok (fuel := 1000000) (by kernel_rfl)
noncomputable def entA4 : Go.AbsE.Ent := ⟨16, (.agg ((.slice 0 0 2 2) :: (.slice 1 0 3 3) :: (.int .i64 (Int.ofNat 3)) :: (.int .i64 (Int.ofNat 5)) :: (.int .i64 (Int.ofNat 8)) :: (.int .i64 (Int.ofNat 20)) :: .nilslice :: [])) :: (.int .i64 (Int.ofNat 1)) :: [], ((.int .i64 (Int.ofNat 0)) :: (.int .i64 (Int.ofNat 30)) :: (.int .i64 (Int.ofNat 31)) :: (.int .i64 (Int.ofNat 2)) :: (.int .i64 (Int.ofNat 30)) :: (.int .i64 (Int.ofNat 30)) :: [], 63) :: ((.int .i64 (Int.ofNat 0)) :: (.int .i64 (Int.ofNat 0)) :: (.int .i64 (Int.ofNat 0)) :: (.int .i64 (Int.ofNat 1)) :: (.int .i64 (Int.ofNat 0)) :: (.int .i64 (Int.ofNat 0)) :: [], 30) :: [], (.tuple ((.int .i64 (Int.ofNat 2)) :: (.int .i64 (Int.ofNat 0)) :: []))⟩
theorem entA4Ok : EntOk Try.prog entA4 := entRun_ok JW_ok (fuel := 1000000) (by kernel_rfl)
noncomputable def entA5 : Go.AbsE.Ent := ⟨26, (.agg ((.slice 0 0 2 2) :: (.slice 1 0 3 3) :: (.int .i64 (Int.ofNat 3)) :: (.int .i64 (Int.ofNat 5)) :: (.int .i64 (Int.ofNat 8)) :: (.int .i64 (Int.ofNat 20)) :: .nilslice :: [])) :: [], ((.int .i64 (Int.ofNat 0)) :: (.int .i64 (Int.ofNat 30)) :: (.int .i64 (Int.ofNat 31)) :: (.int .i64 (Int.ofNat 2)) :: (.int .i64 (Int.ofNat 30)) :: (.int .i64 (Int.ofNat 30)) :: [], 63) :: ((.int .i64 (Int.ofNat 0)) :: (.int .i64 (Int.ofNat 0)) :: (.int .i64 (Int.ofNat 0)) :: (.int .i64 (Int.ofNat 1)) :: (.int .i64 (Int.ofNat 0)) :: (.int .i64 (Int.ofNat 0)) :: [], 30) :: [], (.tuple ((.int .i64 (Int.ofNat 0)) :: (.int .i64 (Int.ofNat 4)) :: []))⟩
theorem entA5Ok : EntOk Try.prog entA5 := entRun_ok JW_ok (fuel := 1000000) (by kernel_rfl)
noncomputable def entA6 : Go.AbsE.Ent := ⟨17, (.agg ((.slice 0 0 2 2) :: (.slice 1 0 3 3) :: (.int .i64 (Int.ofNat 3)) :: (.int .i64 (Int.ofNat 5)) :: (.int .i64 (Int.ofNat 8)) :: (.int .i64 (Int.ofNat 20)) :: .nilslice :: [])) :: (.int .i64 (Int.ofNat 2)) :: [], ((.int .i64 (Int.ofNat 0)) :: (.int .i64 (Int.ofNat 30)) :: (.int .i64 (Int.ofNat 31)) :: (.int .i64 (Int.ofNat 2)) :: (.int .i64 (Int.ofNat 30)) :: (.int .i64 (Int.ofNat 30)) :: [], 63) :: ((.int .i64 (Int.ofNat 0)) :: (.int .i64 (Int.ofNat 0)) :: (.int .i64 (Int.ofNat 0)) :: (.int .i64 (Int.ofNat 1)) :: (.int .i64 (Int.ofNat 0)) :: (.int .i64 (Int.ofNat 0)) :: [], 30) :: [], (.tuple ((.int .i64 (Int.ofNat 1)) :: (.int .i64 (Int.ofNat 9)) :: (.int .i64 (Int.ofNat 0)) :: []))⟩
theorem entA6Ok : EntOk Try.prog entA6 := entRun_ok JW_ok (fuel := 1000000) (by kernel_rfl)
noncomputable def entA7 : Go.AbsE.Ent := ⟨18, (.agg ((.slice 0 0 2 2) :: (.slice 1 0 3 3) :: (.int .i64 (Int.ofNat 3)) :: (.int .i64 (Int.ofNat 5)) :: (.int .i64 (Int.ofNat 8)) :: (.int .i64 (Int.ofNat 20)) :: (.slice 2 0 2 2) :: [])) :: [], ((.int .i64 (Int.ofNat 0)) :: (.int .i64 (Int.ofNat 30)) :: (.int .i64 (Int.ofNat 31)) :: (.int .i64 (Int.ofNat 2)) :: (.int .i64 (Int.ofNat 30)) :: (.int .i64 (Int.ofNat 30)) :: [], 63) :: ((.int .i64 (Int.ofNat 0)) :: (.int .i64 (Int.ofNat 0)) :: (.int .i64 (Int.ofNat 0)) :: (.int .i64 (Int.ofNat 1)) :: (.int .i64 (Int.ofNat 0)) :: (.int .i64 (Int.ofNat 0)) :: [], 30) :: ((.int .i64 (Int.ofNat 1)) :: (.int .i64 (Int.ofNat 1)) :: (.int .i64 (Int.ofNat 20)) :: (.int .i64 (Int.ofNat 25)) :: (.int .i64 (Int.ofNat 0)) :: (.int .i64 (Int.ofNat 2)) :: (.int .i64 (Int.ofNat 21)) :: (.int .i64 (Int.ofNat 22)) :: [], 59) :: [], (.tuple ((.int .i64 (Int.ofNat 1)) :: (.int .i64 (Int.ofNat 1)) :: (.int .i64 (Int.ofNat 0)) :: []))⟩
theorem entA7Ok : EntOk Try.prog entA7 := entRun_ok JW_ok (fuel := 1000000) (by kernel_rfl)
end Go.Proofs.Ytmdheijpnlonoaa

/- Calls that a run makes, each by a run of its own. -/
namespace Go.Proofs.Ytmdheijpnlonoaa
open Go Go.AbsE
set_option linter.unusedSimpArgs false
noncomputable def entA8 : Go.AbsE.Ent := ⟨19, (.agg ((.slice 0 0 2 2) :: (.slice 1 0 3 3) :: (.int .i64 (Int.ofNat 3)) :: (.int .i64 (Int.ofNat 5)) :: (.int .i64 (Int.ofNat 8)) :: (.int .i64 (Int.ofNat 20)) :: (.slice 2 0 2 2) :: [])) :: [], ((.int .i64 (Int.ofNat 0)) :: (.int .i64 (Int.ofNat 30)) :: (.int .i64 (Int.ofNat 31)) :: (.int .i64 (Int.ofNat 2)) :: (.int .i64 (Int.ofNat 30)) :: (.int .i64 (Int.ofNat 30)) :: [], 63) :: ((.int .i64 (Int.ofNat 0)) :: (.int .i64 (Int.ofNat 0)) :: (.int .i64 (Int.ofNat 0)) :: (.int .i64 (Int.ofNat 1)) :: (.int .i64 (Int.ofNat 0)) :: (.int .i64 (Int.ofNat 0)) :: [], 30) :: ((.int .i64 (Int.ofNat 1)) :: (.int .i64 (Int.ofNat 1)) :: (.int .i64 (Int.ofNat 20)) :: (.int .i64 (Int.ofNat 25)) :: (.int .i64 (Int.ofNat 0)) :: (.int .i64 (Int.ofNat 2)) :: (.int .i64 (Int.ofNat 21)) :: (.int .i64 (Int.ofNat 22)) :: [], 59) :: [], (.tuple ((.int .i64 (Int.ofNat 3)) :: (.int .i64 (Int.ofNat 0)) :: []))⟩
theorem entA8Ok : EntOk Try.prog entA8 := entRun_ok JW_ok (fuel := 1000000) (by kernel_rfl)
end Go.Proofs.Ytmdheijpnlonoaa

namespace Go.Proofs.Ytmdheijpnlonoaa
open Go Go.AbsE
set_option linter.unusedSimpArgs false
set_option maxRecDepth 100000
noncomputable def knownA : List Go.AbsE.Ent := [entA1, entA2, entA3, entA4, entA5, entA6, entA7, entA8]
theorem knownAOk : JOk Try.prog (tblJ knownA) := tbl_ok (l := knownA) (EntOk.cons entA1Ok (EntOk.cons entA2Ok (EntOk.cons entA3Ok (EntOk.cons entA4Ok (EntOk.cons entA5Ok (EntOk.cons entA6Ok (EntOk.cons entA7Ok (EntOk.cons entA8Ok (EntOk.nil)))))))))
/-- alive, as a call that is known. -/
noncomputable def entAlive : Go.AbsE.Ent := ⟨21, [], [], .bool true⟩
theorem aliveOk : EntOk Try.prog entAlive := entRun_ok (orJ_ok JW_ok knownAOk) (fuel := 1000000) (by kernel_rfl)
noncomputable def JA : Jump := tblJ [entAlive]
theorem JA_ok : JOk Try.prog JA := tbl_ok (EntOk.cons aliveOk EntOk.nil)
end Go.Proofs.Ytmdheijpnlonoaa

namespace Go.Proofs.Ytmdheijpnlonoaa
open Go Go.AbsE
set_option linter.unusedSimpArgs false
set_option maxRecDepth 100000
set_option maxHeartbeats 0
set_option linter.unusedVariables false

theorem long_ok (F : FieldV) (hsl rsl lsl : AVal) (n1 n2 n3 : Nat) (h1 : lenA hsl = some n1) (h2 : lenA rsl = some n2) (h3 : lenA lsl = some n3) {r : Bool} (hr : decide (40 < n1 ∨ 40 < n2 ∨ 40 < n3) = r) (h : AH) :
    Runs Try.prog 22 [.agg (F.cells hsl rsl lsl)] h (fun en h' => en = .ret (.bool r) ∧ Ext h h') := by
  unfold FieldV.cells fieldC
  obtain ⟨m, hm⟩ : ∃ m : Int, (if (if ((n1 : Nat) : Int) < (n2 : Nat) then ((n2 : Nat) : Int) else (n1 : Nat)) < (n3 : Nat) then ((n3 : Nat) : Int) else (if ((n1 : Nat) : Int) < (n2 : Nat) then ((n2 : Nat) : Int) else (n1 : Nat))) = m := ⟨_, rfl⟩
  have hr' : decide (40 < m) = r := by
    rw [← hr]
    refine decide_eq_decide.2 ?_
    rw [← hm]
    split <;> split <;> omega
  refine Runs.intro aFunc22 rfl rfl rfl rfl fun rest => ?_
  refine Go.seq noJ_ok ?_
  refine Go.region noJ_ok rfl ?_
  refine GoR.box rfl rfl rfl rfl rfl rfl fun h4 x4 f4 => ?_
  have e0 := x4
  have := f4.1
  refine GoR.op rfl rfl rfl rfl ?_
  refine GoR.end ?_
  refine Go.seq noJ_ok ?_
  refine Go.region noJ_ok rfl ?_
  refine GoR.op rfl rfl (fa27_0 rfl) rfl ?_
  refine GoR.op rfl rfl (ld22 rfl f4 rfl) rfl ?_
  refine GoR.op rfl rfl (aOp_lenSlice Try.underlying22 rfl h1) rfl ?_
  refine GoR.op rfl rfl (fa27_1 rfl) rfl ?_
  refine GoR.op rfl rfl (ld23 rfl f4 rfl) rfl ?_
  refine GoR.op rfl rfl (aOp_lenSlice Try.underlying23 rfl h2) rfl ?_
  refine GoR.op rfl rfl (fa27_4 rfl) rfl ?_
  refine GoR.op rfl rfl (ld25 rfl f4 rfl) rfl ?_
  refine GoR.op rfl rfl (aOp_lenSlice Try.underlying25 rfl h3) rfl ?_
  refine GoR.op rfl rfl (aOp_max3 rfl rfl rfl hm) rfl ?_
  refine GoR.op rfl rfl (aOp_gtr rfl rfl hr') rfl ?_
  refine GoR.op rfl rfl rfl rfl ?_
  refine GoR.end ?_
  exact Go.ret noJ_ok (ret_end (aResult_of Try.func22 rfl rfl) ⟨rfl, e0⟩)

def whenD : Option Nat → Int
  | some d => (d : Nat)
  | none => 0
def whenE : Option Nat → Int
  | some _ => 0
  | none => 4
theorem When_any {F : FieldV} (O : F.Ok) (hne : F.ents ≠ []) (hsl rsl lsl : AVal) (i : Nat) (hi : i < F.hs.length) (h : AH) (A : FieldAt h F hsl rsl lsl) :
    Runs Try.prog 16 [.agg (F.cells hsl rsl lsl), .int .i64 i] h (fun en h' => en = .ret (.tuple [.int .i64 (whenD (whenV F [(i : Nat)])), .int .i64 (whenE (whenV F [(i : Nat)]))]) ∧ Ext h h') := by
  cases q : whenV F [(i : Nat)] with
  | none => exact When_no O hsl rsl lsl i hi (.inr ⟨hne, q, rfl⟩) h A
  | some d => exact When_yes O hne hsl rsl lsl i hi q h A
theorem All_any {F : FieldV} (O : F.Ok) (hne : F.ents ≠ []) (hsl rsl lsl : AVal) (h : AH) (A : FieldAt h F hsl rsl lsl) :
    Runs Try.prog 26 [.agg (F.cells hsl rsl lsl)] h (fun en h' => en = .ret (.tuple [.int .i64 (whenD (whenV F (allHeaps F))), .int .i64 (whenE (whenV F (allHeaps F)))]) ∧ Ext h h') := by
  cases q : whenV F (allHeaps F) with
  | none => exact All_no O hsl rsl lsl (.inr ⟨hne, q, rfl⟩) h A
  | some d => exact All_yes O hne hsl rsl lsl q h A

/-- How far apart the ends of what a heap can be are. -/
def FieldV.apart (F : FieldV) (k d : Nat) : Int := (F.wet (k : Nat) d).2 - (F.wet (k : Nat) d).1
theorem doubtV_facts {F : FieldV} {d : Nat} (hg : ∀ k, k < F.hs.length → 0 ≤ F.apart k d ∧ F.apart k d ≤ 100) : ∀ m, m ≤ F.hs.length → ∃ p : Nat, (doubtV F d m).1 = (p : Nat) ∧ 0 ≤ (doubtV F d m).2 ∧ (doubtV F d m).2 ≤ 100 ∧ (m = 0 → p = 0 ∧ (doubtV F d m).2 = 0) ∧ (0 < m → p < m ∧ F.apart p d = (doubtV F d m).2) ∧
    ∀ k, k < m → F.apart k d ≤ (doubtV F d m).2 ∧ (F.apart k d = (doubtV F d m).2 → p ≤ k)
  | 0, _ => ⟨0, rfl, by simp [doubtV], by simp [doubtV], fun _ => ⟨rfl, rfl⟩, fun q => by omega, fun k q => by omega⟩
  | m + 1, hm => by
    obtain ⟨p, h1, h2, h2', h3, h4, h5⟩ := doubtV_facts hg m (by omega)
    have hgm := hg m (by omega)
    have hs := doubtV_succ F d m
    by_cases hlt : (doubtV F d m).2 < (F.wet (m : Nat) d).2 - (F.wet (m : Nat) d).1
    · rw [if_pos hlt] at hs
      have hap : F.apart m d = (F.wet (m : Nat) d).2 - (F.wet (m : Nat) d).1 := rfl
      rw [hs]
      refine ⟨m, rfl, by dsimp only; omega, by dsimp only; omega, fun q => by omega, fun _ => ⟨by omega, hap⟩, fun k hk => ?_⟩
      dsimp only
      by_cases hkm : k = m
      · subst hkm
        exact ⟨by omega, fun _ => Nat.le_refl _⟩
      · have := h5 k (by omega)
        exact ⟨by omega, fun q => by omega⟩
    · rw [if_neg hlt] at hs
      have hap : F.apart m d = (F.wet (m : Nat) d).2 - (F.wet (m : Nat) d).1 := rfl
      rw [hs]
      by_cases hm0 : m = 0
      · subst hm0
        obtain ⟨rfl, h0⟩ := h3 rfl
        refine ⟨0, h1, h2, h2', fun q => by omega, fun _ => ⟨by omega, by omega⟩, fun k hk => ?_⟩
        have : k = 0 := by omega
        subst this
        exact ⟨by omega, fun _ => Nat.le_refl _⟩
      · have h4' := h4 (by omega)
        refine ⟨p, h1, h2, h2', fun q => by omega, fun _ => ⟨by omega, h4'.2⟩, fun k hk => ?_⟩
        by_cases hkm : k = m
        · subst hkm
          exact ⟨by omega, fun q => by omega⟩
        · exact h5 k (by omega)

/-- The first one of the first days of which something holds, or -1. -/
def firstV (p : Nat → Bool) (d : Nat) : Int := match (List.range d).find? p with
  | some k => (k : Nat)
  | none => -1
theorem firstV_succ (p : Nat → Bool) (d : Nat) : firstV p (d + 1) = if firstV p d < 0 then (if p d then ((d : Nat) : Int) else -1) else firstV p d := by
  unfold firstV
  rw [List.range_succ, List.find?_append]
  cases q : (List.range d).find? p with
  | some k =>
    simp only [Option.some_or]
    rw [if_neg (by omega)]
  | none =>
    simp only [Option.none_or, List.find?_cons, List.find?_nil]
    rw [if_pos (by decide)]
    cases p d <;> rfl
theorem firstV_bd (p : Nat → Bool) (d : Nat) : -1 ≤ firstV p d ∧ firstV p d < d ∨ d = 0 ∧ firstV p d = -1 := by
  unfold firstV
  cases q : (List.range d).find? p with
  | some k =>
    have : k < d := by simpa using List.mem_of_find?_eq_some q
    left; dsimp only; omega
  | none => 
    dsimp only
    by_cases h0 : d = 0
    · exact .inr ⟨h0, rfl⟩
    · left; omega
theorem whenV_first (F : FieldV) (L : List Int) : firstV (fun d => L.all fun i => F.sure i d) F.rs.length = match whenV F L with | some k => ((k : Nat) : Int) | none => -1 := rfl
end Go.Proofs.Ytmdheijpnlonoaa

namespace Go.Proofs.Ytmdheijpnlonoaa
open Go Go.AbsE
set_option linter.unusedSimpArgs false
set_option maxRecDepth 100000
set_option maxHeartbeats 0
set_option linter.unusedVariables false

theorem law6_long (F : FieldV) (hsl rsl lsl : AVal) (n1 n2 n3 : Nat) (h1 : lenA hsl = some n1) (h2 : lenA rsl = some n2) (h3 : lenA lsl = some n3) (hr : decide (40 < n1 ∨ 40 < n2 ∨ 40 < n3) = true) (w o : Int) (h : AH) :
    Runs Try.prog 6 [.agg (F.cells hsl rsl lsl), .int .u8 w, .int .u8 o] h (fun en h' => en = .ret (.bool true) ∧ Ext h h') := by
  have hlo := long_ok F hsl rsl lsl n1 n2 n3 h1 h2 h3 hr
  unfold FieldV.cells fieldC at hlo ⊢
  refine Runs.intro aFunc6 rfl rfl rfl rfl fun rest => ?_
  refine Go.seq noJ_ok ?_
  refine Go.region noJ_ok rfl ?_
  refine GoR.box rfl rfl rfl rfl rfl rfl fun h4 x4 f4 => ?_
  have e0 := x4
  have := f4.1
  refine GoR.op rfl rfl rfl rfl ?_
  refine GoR.end ?_
  iterate 2 refine Go.seq noJ_ok ?_
  refine Go.region noJ_ok rfl ?_
  refine GoR.op rfl rfl (ld27 rfl f4 rfl) rfl ?_
  refine GoR.call rfl rfl (aOp_callFunc aFunc22 rfl) (hlo _) ?_ (by rintro _ _ ⟨q, _⟩; cases q)
  rintro v5 h5 ⟨q, x5⟩
  cases q
  refine ⟨_, rfl, ?_⟩
  replace f4 := f4.ext x5
  replace e0 := e0.trans x5
  refine GoR.op rfl rfl rfl rfl ?_
  iterate 3 refine GoR.skip rfl rfl rfl ?_
  refine GoR.op rfl rfl rfl rfl ?_
  refine GoR.end ?_
  refine Go.cond noJ_ok (b := true) rfl ?_
  refine Go.seq noJ_ok ?_
  refine Go.region JA_ok rfl ?_
  refine GoR.jump JA_ok rfl rfl (aOp_callFunc aFunc21 rfl) (v := .bool true) rfl rfl ?_
  refine GoR.op rfl rfl rfl rfl ?_
  refine GoR.end ?_
  exact Go.ret noJ_ok (ret_end (aResult_of Try.func6 rfl rfl) ⟨rfl, e0⟩)

theorem law6_short {F : FieldV} (hsl rsl lsl : AVal) (h : AH) (A : FieldAt h F hsl rsl lsl) (hb1 : F.hs.length ≤ 40) (hb2 : F.rs.length ≤ 40) (hb3 : F.looks.length ≤ 40) {w o : Int} (hw : 0 ≤ w ∧ w < 256) (ho : 0 ≤ o ∧ o < 256) :
    Runs Try.prog 6 [.agg (F.cells hsl rsl lsl), .int .u8 w, .int .u8 o] h (fun en h' => en = .ret (.bool true) ∧ Ext h h') := by
  have hl1 := A.hs.len
  have hl2 := A.rs.len
  have hl3 := A.ls.len
  rw [List.length_map] at hl1 hl2 hl3
  have hlo := long_ok F hsl rsl lsl _ _ _ hl1 hl2 hl3 (r := false) (decide_eq_false (by omega))
  have hHe := fun h A => heaps23_ok F hsl rsl lsl h A hb1 hb2 hb3
  have hWhn := fun (O : F.Ok) (he : F.ents = []) i hi h A => When_no O hsl rsl lsl i hi (c := 10) (.inl ⟨he, rfl⟩) h A
  have hAn := fun (O : F.Ok) (he : F.ents = []) h A => All_no O hsl rsl lsl (c := 10) (.inl ⟨he, rfl⟩) h A
  have hDn := fun (O : F.Ok) (he : F.ents = []) d hd h A => Doubt_no O he hsl rsl lsl d hd h A
  have hWh := fun (O : F.Ok) (hne : F.ents ≠ []) i hi h A => When_any O hne hsl rsl lsl i hi h A
  have hAl := fun (O : F.Ok) (hne : F.ents ≠ []) h A => All_any O hne hsl rsl lsl h A
  have hDo := fun (O : F.Ok) (hne : F.ents ≠ []) d hd h A => Doubt_yes O hne hsl rsl lsl d hd h A
  have hWe := fun (O : F.Ok) (hne : F.ents ≠ []) i hi d hd h A => Wet_yes O hne hsl rsl lsl i hi d hd h A
  have hDr := fun (O : F.Ok) (hne : F.ents ≠ []) i hi d hd h A => Dry_yes O hne hsl rsl lsl i hi d hd h A
  unfold FieldV.cells fieldC at hlo hHe hWhn hAn hDn hWh hAl hDo hWe hDr ⊢
  refine Runs.intro aFunc6 rfl rfl rfl rfl fun rest => ?_
  refine Go.seq noJ_ok ?_
  refine Go.region noJ_ok rfl ?_
  refine GoR.box rfl rfl rfl rfl rfl rfl fun h0 x0 f0 => ?_
  have e0 := x0
  have := f0.1
  refine GoR.op rfl rfl rfl rfl ?_
  refine GoR.end ?_
  iterate 2 refine Go.seq noJ_ok ?_
  refine Go.region noJ_ok rfl ?_
  refine GoR.op rfl rfl (ld27 rfl f0 rfl) rfl ?_
  refine GoR.call rfl rfl (aOp_callFunc aFunc22 rfl) (hlo _) ?_ (by rintro _ _ ⟨q, _⟩; cases q)
  rintro v1 h1 ⟨q, x1⟩
  cases q
  refine ⟨_, rfl, ?_⟩
  replace f0 := f0.ext x1
  replace e0 := e0.trans x1
  refine GoR.op rfl rfl rfl rfl ?_
  refine GoR.op rfl rfl (ld27 rfl f0 rfl) rfl ?_
  refine GoR.call rfl rfl (aOp_callFunc aFunc23 rfl) (hHe _ (A.ext e0)) ?_ (by rintro _ _ ⟨_, q, _⟩; cases q)
  rintro v9 h9 ⟨r, q, hok, x9⟩
  cases q
  refine ⟨_, rfl, ?_⟩
  replace f0 := f0.ext x9
  replace e0 := e0.trans x9
  cases r with
  | false =>
    iterate 2 refine GoR.op rfl rfl rfl rfl ?_
    refine GoR.end ?_
    refine Go.cond noJ_ok (b := true) rfl ?_
    refine Go.seq noJ_ok ?_
    refine Go.region JA_ok rfl ?_
    refine GoR.jump JA_ok rfl rfl (aOp_callFunc aFunc21 rfl) (v := .bool true) rfl rfl ?_
    refine GoR.op rfl rfl rfl rfl ?_
    refine GoR.end ?_
    exact Go.ret noJ_ok (ret_end (aResult_of Try.func6 rfl rfl) ⟨rfl, e0⟩)
  | true =>
  have O := hok rfl
  have hnh := O.nh
  have hnr := O.nr
  obtain ⟨i, hi⟩ : ∃ i, w.toNat % F.hs.length = i := ⟨_, rfl⟩
  obtain ⟨d, hd⟩ : ∃ d, o.toNat % F.rs.length = d := ⟨_, rfl⟩
  have hi1 : w.tmod (F.hs.length : Nat) = (i : Nat) := by
    rw [← hi]
    obtain ⟨w', rfl⟩ := Int.eq_ofNat_of_zero_le hw.1
    rfl
  have hd1 : o.tmod (F.rs.length : Nat) = (d : Nat) := by
    rw [← hd]
    obtain ⟨w', rfl⟩ := Int.eq_ofNat_of_zero_le ho.1
    rfl
  have hi2 : i < F.hs.length := by rw [← hi]; exact Nat.mod_lt _ (by omega)
  have hd2 : d < F.rs.length := by rw [← hd]; exact Nat.mod_lt _ (by omega)
  by_cases he : F.ents = []
  · iterate 2 refine GoR.op rfl rfl rfl rfl ?_
    refine GoR.end ?_
    refine Go.cond noJ_ok (b := false) rfl ?_
    refine Go.code noJ_ok ?_
    refine Go.seq noJ_ok ?_
    refine Go.drawnE plan6_0 ?_
    refine GoE.quiet rfl rfl rfl rfl ?_
    refine GoE.quiet rfl rfl (aOp_convU8 rfl Try.underlying5 Try.underlying3 hw) rfl ?_
    refine GoE.quiet rfl rfl (fa27_0 rfl) rfl ?_
    refine GoE.quiet rfl rfl (ld22 rfl f0 rfl) rfl ?_
    refine GoE.quiet rfl rfl (aOp_lenSlice Try.underlying22 rfl hl1) rfl ?_
    refine GoE.quiet rfl rfl (aOp_rem rfl rfl (by omega) hi1) rfl ?_
    refine GoE.quiet rfl rfl rfl rfl ?_
    refine GoE.quiet rfl rfl (aOp_convU8 rfl Try.underlying5 Try.underlying3 ho) rfl ?_
    refine GoE.quiet rfl rfl (fa27_1 rfl) rfl ?_
    refine GoE.quiet rfl rfl (ld23 rfl f0 rfl) rfl ?_
    refine GoE.quiet rfl rfl (aOp_lenSlice Try.underlying23 rfl hl2) rfl ?_
    refine GoE.quiet rfl rfl (aOp_rem rfl rfl (by omega) hd1) rfl ?_
    iterate 2 refine GoE.quiet rfl rfl rfl rfl ?_
    refine GoE.end rfl ?_
    refine Go.seq noJ_ok ?_
    refine Go.region noJ_ok rfl ?_
    refine GoR.op rfl rfl (ld27 rfl f0 rfl) rfl ?_
    refine GoR.op rfl rfl rfl rfl ?_
    refine GoR.call rfl rfl (aOp_callFunc aFunc16 rfl) (hWhn O he i hi2 _ (A.ext e0)) ?_ (by rintro _ _ ⟨q, _⟩; cases q)
    rintro v10 h10 ⟨q, x10⟩
    cases q
    refine ⟨_, rfl, ?_⟩
    replace f0 := f0.ext x10
    replace e0 := e0.trans x10
    iterate 5 refine GoR.op rfl rfl rfl rfl ?_
    refine GoR.end ?_
    refine Go.seq noJ_ok ?_
    refine Go.region noJ_ok rfl ?_
    refine GoR.op rfl rfl (ld27 rfl f0 rfl) rfl ?_
    refine GoR.call rfl rfl (aOp_callFunc aFunc26 rfl) (hAn O he _ (A.ext e0)) ?_ (by rintro _ _ ⟨q, _⟩; cases q)
    rintro v11 h11 ⟨q, x11⟩
    cases q
    refine ⟨_, rfl, ?_⟩
    replace f0 := f0.ext x11
    replace e0 := e0.trans x11
    iterate 5 refine GoR.op rfl rfl rfl rfl ?_
    refine GoR.end ?_
    refine Go.seq noJ_ok ?_
    refine Go.region noJ_ok rfl ?_
    refine GoR.op rfl rfl (ld27 rfl f0 rfl) rfl ?_
    refine GoR.op rfl rfl rfl rfl ?_
    refine GoR.call rfl rfl (aOp_callFunc aFunc17 rfl) (hDn O he d hd2 _ (A.ext e0)) ?_ (by rintro _ _ ⟨q, _⟩; cases q)
    rintro v12 h12 ⟨q, x12⟩
    cases q
    refine ⟨_, rfl, ?_⟩
    replace f0 := f0.ext x12
    replace e0 := e0.trans x12
    iterate 7 refine GoR.op rfl rfl rfl rfl ?_
    refine GoR.end ?_
    iterate 2 refine Go.seq noJ_ok ?_
    refine Go.region noJ_ok rfl ?_
    refine GoR.op rfl rfl rfl rfl ?_
    refine GoR.op rfl rfl (aOp_neq rfl rfl (r := true) (decide_eq_false (by omega))) rfl ?_
    refine GoR.end ?_
    refine Go.cond noJ_ok (b := true) rfl ?_
    refine Go.seq noJ_ok ?_
    refine Go.region JA_ok rfl ?_
    refine GoR.op rfl rfl rfl rfl ?_
    refine GoR.op rfl rfl (aOp_eql rfl rfl (r := true) (decide_eq_true (by omega))) rfl ?_
    iterate 3 refine GoR.op rfl rfl rfl rfl ?_
    refine GoR.op rfl rfl (aOp_eql rfl rfl (r := true) (decide_eq_true (by omega))) rfl ?_
    iterate 4 refine GoR.op rfl rfl rfl rfl ?_
    refine GoR.op rfl rfl (aOp_eql rfl rfl (r := true) (decide_eq_true (by omega))) rfl ?_
    iterate 3 refine GoR.op rfl rfl rfl rfl ?_
    refine GoR.op rfl rfl (aOp_eql rfl rfl (r := true) (decide_eq_true (by omega))) rfl ?_
    iterate 3 refine GoR.op rfl rfl rfl rfl ?_
    refine GoR.op rfl rfl (aOp_eql rfl rfl (r := true) (decide_eq_true (by omega))) rfl ?_
    iterate 3 refine GoR.op rfl rfl rfl rfl ?_
    refine GoR.op rfl rfl (aOp_eql rfl rfl (r := true) (decide_eq_true (by omega))) rfl ?_
    iterate 3 refine GoR.op rfl rfl rfl rfl ?_
    refine GoR.op rfl rfl (aOp_eql rfl rfl (r := true) (decide_eq_true (by omega))) rfl ?_
    iterate 2 refine GoR.op rfl rfl rfl rfl ?_
    refine GoR.jump JA_ok rfl rfl (aOp_callFunc aFunc21 rfl) (v := .bool true) rfl rfl ?_
    iterate 2 refine GoR.op rfl rfl rfl rfl ?_
    refine GoR.end ?_
    exact Go.ret noJ_ok (ret_end (aResult_of Try.func6 rfl rfl) ⟨rfl, e0⟩)
  · iterate 2 refine GoR.op rfl rfl rfl rfl ?_
    refine GoR.end ?_
    refine Go.cond noJ_ok (b := false) rfl ?_
    refine Go.code noJ_ok ?_
    refine Go.seq noJ_ok ?_
    refine Go.drawnE plan6_0 ?_
    refine GoE.quiet rfl rfl rfl rfl ?_
    refine GoE.quiet rfl rfl (aOp_convU8 rfl Try.underlying5 Try.underlying3 hw) rfl ?_
    refine GoE.quiet rfl rfl (fa27_0 rfl) rfl ?_
    refine GoE.quiet rfl rfl (ld22 rfl f0 rfl) rfl ?_
    refine GoE.quiet rfl rfl (aOp_lenSlice Try.underlying22 rfl hl1) rfl ?_
    refine GoE.quiet rfl rfl (aOp_rem rfl rfl (by omega) hi1) rfl ?_
    refine GoE.quiet rfl rfl rfl rfl ?_
    refine GoE.quiet rfl rfl (aOp_convU8 rfl Try.underlying5 Try.underlying3 ho) rfl ?_
    refine GoE.quiet rfl rfl (fa27_1 rfl) rfl ?_
    refine GoE.quiet rfl rfl (ld23 rfl f0 rfl) rfl ?_
    refine GoE.quiet rfl rfl (aOp_lenSlice Try.underlying23 rfl hl2) rfl ?_
    refine GoE.quiet rfl rfl (aOp_rem rfl rfl (by omega) hd1) rfl ?_
    iterate 2 refine GoE.quiet rfl rfl rfl rfl ?_
    refine GoE.end rfl ?_
    refine Go.seq noJ_ok ?_
    refine Go.region noJ_ok rfl ?_
    refine GoR.op rfl rfl (ld27 rfl f0 rfl) rfl ?_
    refine GoR.op rfl rfl rfl rfl ?_
    refine GoR.call rfl rfl (aOp_callFunc aFunc16 rfl) (hWh O he i hi2 _ (A.ext e0)) ?_ (by rintro _ _ ⟨q, _⟩; cases q)
    rintro v10 h10 ⟨q, x10⟩
    cases q
    refine ⟨_, rfl, ?_⟩
    replace f0 := f0.ext x10
    replace e0 := e0.trans x10
    iterate 5 refine GoR.op rfl rfl rfl rfl ?_
    refine GoR.end ?_
    refine Go.seq noJ_ok ?_
    refine Go.region noJ_ok rfl ?_
    refine GoR.op rfl rfl (ld27 rfl f0 rfl) rfl ?_
    refine GoR.call rfl rfl (aOp_callFunc aFunc26 rfl) (hAl O he _ (A.ext e0)) ?_ (by rintro _ _ ⟨q, _⟩; cases q)
    rintro v11 h11 ⟨q, x11⟩
    cases q
    refine ⟨_, rfl, ?_⟩
    replace f0 := f0.ext x11
    replace e0 := e0.trans x11
    iterate 5 refine GoR.op rfl rfl rfl rfl ?_
    refine GoR.end ?_
    refine Go.seq noJ_ok ?_
    refine Go.region noJ_ok rfl ?_
    refine GoR.op rfl rfl (ld27 rfl f0 rfl) rfl ?_
    refine GoR.op rfl rfl rfl rfl ?_
    refine GoR.call rfl rfl (aOp_callFunc aFunc17 rfl) (hDo O he d hd2 _ (A.ext e0)) ?_ (by rintro _ _ ⟨q, _⟩; cases q)
    rintro v12 h12 ⟨q, x12⟩
    cases q
    refine ⟨_, rfl, ?_⟩
    replace f0 := f0.ext x12
    replace e0 := e0.trans x12
    iterate 7 refine GoR.op rfl rfl rfl rfl ?_
    refine GoR.end ?_
    iterate 2 refine Go.seq noJ_ok ?_
    refine Go.region noJ_ok rfl ?_
    refine GoR.op rfl rfl rfl rfl ?_
    refine GoR.op rfl rfl (aOp_neq rfl rfl (r := false) (decide_eq_true (by omega))) rfl ?_
    refine GoR.end ?_
    refine Go.cond noJ_ok (b := false) rfl ?_
    refine Go.code noJ_ok ?_
    refine Go.seq noJ_ok ?_
    refine Go.region noJ_ok rfl ?_
    iterate 2 refine GoR.op rfl rfl rfl rfl ?_
    refine GoR.end ?_
    iterate 2 refine Go.seq noJ_ok ?_
    refine Go.region noJ_ok rfl ?_
    refine GoR.op rfl rfl (fa27_1 rfl) rfl ?_
    refine GoR.op rfl rfl (ld23 rfl f0 rfl) rfl ?_
    refine GoR.op rfl rfl (aOp_lenSlice Try.underlying23 rfl hl2) rfl ?_
    refine GoR.op rfl rfl rfl rfl ?_
    refine GoR.end ?_
    refine Go.block noJ_ok ?_
    have hg : ∀ k dd, k < F.hs.length → dd < F.rs.length → Good (F.wet (k : Nat) dd) := fun k dd hk hdd => wet_good O he hk hdd
    obtain ⟨hp, hp1, hp2, hp3, _, hp5, hp6⟩ := doubtV_facts (F := F) (d := d) (fun k hk => by have := hg k d hk hd2; unfold Good at this; unfold FieldV.apart; omega) F.hs.length (Nat.le_refl _)
    obtain ⟨wide, hwide⟩ : ∃ wide, (doubtV F d F.hs.length).2 = wide := ⟨_, rfl⟩
    rw [hwide] at hp2 hp3 hp5 hp6
    rw [hp1, hwide]
    replace hp5 := hp5 (by omega)
    clear hp1 hwide
    obtain ⟨a1, ha1⟩ : ∃ a1, whenD (whenV F [(i : Nat)]) = a1 := ⟨_, rfl⟩
    obtain ⟨a2, ha2⟩ : ∃ a2, whenE (whenV F [(i : Nat)]) = a2 := ⟨_, rfl⟩
    obtain ⟨a3, ha3⟩ : ∃ a3, whenD (whenV F (allHeaps F)) = a3 := ⟨_, rfl⟩
    obtain ⟨a4, ha4⟩ : ∃ a4, whenE (whenV F (allHeaps F)) = a4 := ⟨_, rfl⟩
    rw [ha1, ha2, ha3, ha4]
    refine Go.loopKeep (fun dd : Nat => [(3, .ptr h.next 0), (7, .int .i64 i), (8, .int .i64 d), (9, .int .i64 a1), (10, .int .i64 a2), (11, .int .i64 a3), (12, .int .i64 a4), (13, .int .i64 hp), (14, .int .i64 wide), (16, .int .i64 (firstV (fun d => F.sure (i : Nat) d) dd)), (17, .int .i64 (firstV (fun d => (allHeaps F).all fun i => F.sure i d) dd)), (98, .int .i64 F.rs.length), (99, .int .i64 (dd : Nat))])
      (fun m dd h' => m + dd = F.rs.length ∧ Ext h h' ∧ Has h' h.next (.cells .plain [hsl, rsl, .int .i64 F.a, .int .i64 F.b, .int .i64 F.c, .int .i64 F.lim, lsl] 27)) (n := F.rs.length) 0 ⟨rfl, rfl, rfl, rfl, rfl, rfl, rfl, rfl, rfl, rfl, rfl, rfl, rfl, trivial⟩ ⟨rfl, e0, f0⟩ ?_
    clear e0 f0
    rintro m dd hh ⟨hm, e0, f0⟩ again
    by_cases hdd : dd < F.rs.length
    · refine Go.seq noJ_ok ?_
      refine Go.region noJ_ok rfl ?_
      refine GoR.op rfl rfl (aOp_lss rfl rfl (r := true) (decide_eq_true (by omega))) rfl ?_
      refine GoR.end ?_
      refine Go.seq noJ_ok ?_
      refine Go.cond noJ_ok (b := true) rfl ?_
      refine Go.code noJ_ok ?_
      refine Go.seq noJ_ok ?_
      refine Go.block noJ_ok ?_
      refine Go.seq noJ_ok ?_
      refine Go.region noJ_ok rfl ?_
      iterate 2 refine GoR.op rfl rfl rfl rfl ?_
      refine GoR.end ?_
      refine Go.seq noJ_ok ?_
      refine Go.region noJ_ok rfl ?_
      refine GoR.op rfl rfl rfl rfl ?_
      refine GoR.end ?_
      iterate 2 refine Go.seq noJ_ok ?_
      refine Go.region noJ_ok rfl ?_
      refine GoR.op rfl rfl (fa27_0 rfl) rfl ?_
      refine GoR.op rfl rfl (ld22 rfl f0 rfl) rfl ?_
      refine GoR.op rfl rfl (aOp_lenSlice Try.underlying22 rfl hl1) rfl ?_
      refine GoR.op rfl rfl rfl rfl ?_
      refine GoR.end ?_
      refine Go.block noJ_ok ?_
      refine Go.loopKeep (fun k : Nat => [(3, .ptr h.next 0), (7, .int .i64 i), (8, .int .i64 d), (9, .int .i64 a1), (10, .int .i64 a2), (11, .int .i64 a3), (12, .int .i64 a4), (13, .int .i64 hp), (14, .int .i64 wide), (16, .int .i64 (firstV (fun d => F.sure (i : Nat) d) (if i < k then dd + 1 else dd))), (17, .int .i64 (firstV (fun d => (allHeaps F).all fun i => F.sure i d) dd)), (18, .int .i64 (dd : Nat)), (19, .bool ((List.range k).all fun j : Nat => F.sure (j : Nat) dd)), (98, .int .i64 F.rs.length), (99, .int .i64 (dd : Nat)), (104, .int .i64 F.hs.length), (105, .int .i64 (k : Nat))])
        (fun m k h' => m + k = F.hs.length ∧ Ext h h' ∧ Has h' h.next (.cells .plain [hsl, rsl, .int .i64 F.a, .int .i64 F.b, .int .i64 F.c, .int .i64 F.lim, lsl] 27)) (n := F.hs.length) 0 ⟨rfl, rfl, rfl, rfl, rfl, rfl, rfl, rfl, rfl, rfl, rfl, rfl, rfl, rfl, rfl, rfl, rfl, trivial⟩ ⟨rfl, e0, f0⟩ ?_
      clear e0 f0
      rintro m2 k hh2 ⟨hm2, e0, f0⟩ again2
      by_cases hk : k < F.hs.length
      · have hgw := hg k dd hk hdd
        have hw1 := hWe O he k hk dd hdd
        have hw2 := hDr O he k hk dd hdd
        have again2' := fun t' h' (hk' : keepOk t' [(3, .ptr h.next 0), (7, .int .i64 i), (8, .int .i64 d), (9, .int .i64 a1), (10, .int .i64 a2), (11, .int .i64 a3), (12, .int .i64 a4), (13, .int .i64 hp), (14, .int .i64 wide), (16, .int .i64 (firstV (fun d => F.sure (i : Nat) d) (if i < k + 1 then dd + 1 else dd))), (17, .int .i64 (firstV (fun d => (allHeaps F).all fun i => F.sure i d) dd)), (18, .int .i64 (dd : Nat)), (19, .bool ((List.range (k + 1)).all fun j : Nat => F.sure (j : Nat) dd)), (98, .int .i64 F.rs.length), (99, .int .i64 (dd : Nat)), (104, .int .i64 F.hs.length), (105, .int .i64 ((k : Nat) + 1))]) (e : Ext h h') (f : Has h' h.next (.cells .plain [hsl, rsl, .int .i64 F.a, .int .i64 F.b, .int .i64 F.c, .int .i64 F.lim, lsl] 27)) => again2 (m2 - 1) (k + 1) t' h' (by omega) hk' ⟨by omega, e, f⟩
        obtain ⟨ww, hww⟩ : ∃ ww, F.wet (k : Nat) dd = ww := ⟨_, rfl⟩
        obtain ⟨n, hn⟩ : ∃ n, dryV F.lim ww = n := ⟨_, rfl⟩
        rw [hww, hn] at hw2
        rw [hww] at hw1 hgw
        unfold spC at hw1
        unfold Good at hgw
        obtain ⟨u0, hu0⟩ : ∃ u0, firstV (fun d => F.sure (i : Nat) d) (if i < k then dd + 1 else dd) = u0 := ⟨_, rfl⟩
        obtain ⟨u1, hu1⟩ : ∃ u1, firstV (fun d => F.sure (i : Nat) d) (if i < k + 1 then dd + 1 else dd) = u1 := ⟨_, rfl⟩
        obtain ⟨b0, hb0⟩ : ∃ b0, ((List.range k).all fun j : Nat => F.sure (j : Nat) dd) = b0 := ⟨_, rfl⟩
        obtain ⟨b1, hb1'⟩ : ∃ b1, ((List.range (k + 1)).all fun j : Nat => F.sure (j : Nat) dd) = b1 := ⟨_, rfl⟩
        have hsure : F.sure (k : Nat) dd = decide (n = 2) := by unfold FieldV.sure; rw [hww, hn]
        have hbs : b1 = (b0 && decide (n = 2)) := by
          rw [← hb1', ← hb0, List.range_succ, List.all_append]
          simp [hsure]
        have hus1 : k ≠ i → u1 = u0 := by
          intro hne
          rw [← hu0, ← hu1]
          have : (if i < k + 1 then dd + 1 else dd) = (if i < k then dd + 1 else dd) := by split <;> split <;> omega
          rw [this]
        have hus2 : k = i → u1 = if u0 < 0 then (if n = 2 then ((dd : Nat) : Int) else -1) else u0 := by
          intro heq
          subst heq
          rw [if_neg (Nat.lt_irrefl _)] at hu0
          rw [if_pos (Nat.lt_succ_self _), firstV_succ, hu0] at hu1
          rw [← hu1, hsure]
          by_cases h2 : n = 2 <;> simp [h2]
        have hub : -1 ≤ u0 := by
          rw [← hu0]
          rcases firstV_bd (fun d => F.sure (i : Nat) d) (if i < k then dd + 1 else dd) with q | q <;> omega
        have hapk : dd = d → ww.2 - ww.1 ≤ wide ∧ (ww.2 - ww.1 = wide → hp ≤ k) ∧ (k = hp → ww.2 - ww.1 = wide) := by
          intro q
          subst q
          have h1 := hp6 k hk
          have h2 : F.apart k dd = ww.2 - ww.1 := by unfold FieldV.apart; rw [hww]
          rw [h2] at h1
          refine ⟨h1.1, h1.2, fun q => ?_⟩
          subst q
          rw [← h2]
          exact hp5.2
        have hn3 : (ww.2 ≤ F.lim ∧ n = 2) ∨ (¬ ww.2 ≤ F.lim ∧ F.lim < ww.1 ∧ n = 0) ∨ (¬ ww.2 ≤ F.lim ∧ ¬ F.lim < ww.1 ∧ n = 1) := by
          rw [← hn]
          unfold dryV
          by_cases q1 : ww.2 ≤ F.lim
          · rw [if_pos q1]; exact .inl ⟨q1, rfl⟩
          · rw [if_neg q1]
            by_cases q2 : F.lim < ww.1
            · rw [if_pos q2]; exact .inr (.inl ⟨q1, q2, rfl⟩)
            · rw [if_neg q2]; exact .inr (.inr ⟨q1, q2, rfl⟩)
        rw [hu0, hb0]
        rw [hu1, hb1'] at again2'
        clear hsure hn hww hu0 hu1 hb0 hb1' hp6 hp5
        refine Go.seq noJ_ok ?_
        refine Go.region noJ_ok rfl ?_
        refine GoR.op rfl rfl (aOp_lss rfl rfl (r := true) (decide_eq_true (by omega))) rfl ?_
        refine GoR.end ?_
        refine Go.seq noJ_ok ?_
        refine Go.cond noJ_ok (b := true) rfl ?_
        refine Go.code noJ_ok ?_
        refine Go.seq noJ_ok ?_
        refine Go.block noJ_ok ?_
        refine Go.seq noJ_ok ?_
        refine Go.region noJ_ok rfl ?_
        iterate 2 refine GoR.op rfl rfl rfl rfl ?_
        refine GoR.end ?_
        refine Go.seq noJ_ok ?_
        refine Go.region noJ_ok rfl ?_
        refine GoR.op rfl rfl (ld27 rfl f0 rfl) rfl ?_
        iterate 2 refine GoR.op rfl rfl rfl rfl ?_
        refine GoR.call rfl rfl (aOp_callFunc aFunc13 rfl) (hw1 _ (A.ext e0)) ?_ (by rintro _ _ ⟨q, _⟩; cases q)
        rintro v13 h13 ⟨q, x13⟩
        cases q
        refine ⟨_, rfl, ?_⟩
        replace f0 := f0.ext x13
        replace e0 := e0.trans x13
        iterate 3 refine GoR.op rfl rfl rfl rfl ?_
        refine GoR.alloc rfl rfl rfl zt30 rfl rfl fun h14 x14 f14 => ?_
        have := e0.1
        have := f0.1
        replace f0 := f0.ext x14
        replace e0 := e0.trans x14
        have := f14.1
        refine GoR.store rfl rfl rfl rfl rfl rfl f14 rfl sz30 rfl rfl rfl fun h15 u15 => ?_
        replace f14 := u15.has f14
        replace f0 := f0.upd u15 (by omega)
        first | replace e0 := e0.upd u15 (by omega) | clear e0
        refine GoR.op rfl rfl rfl rfl ?_
        refine GoR.end ?_
        refine Go.seq noJ_ok ?_
        refine Go.region noJ_ok rfl ?_
        refine GoR.op rfl rfl (ld27 rfl f0 rfl) rfl ?_
        iterate 2 refine GoR.op rfl rfl rfl rfl ?_
        refine GoR.call rfl rfl (aOp_callFunc aFunc15 rfl) (hw2 _ (A.ext e0)) ?_ (by rintro _ _ ⟨q, _⟩; cases q)
        rintro v16 h16 ⟨q, x16⟩
        cases q
        refine ⟨_, rfl, ?_⟩
        replace f14 := f14.ext x16
        replace f0 := f0.ext x16
        replace e0 := e0.trans x16
        iterate 5 refine GoR.op rfl rfl rfl rfl ?_
        refine GoR.end ?_
        refine Go.seq noJ_ok ?_
        have hx13 := x13.1
        have hlt13 := f14.1
        refine Go.join (fun _ : Unit => [(3, .ptr h.next 0), (7, .int .i64 i), (8, .int .i64 d), (9, .int .i64 a1), (10, .int .i64 a2), (11, .int .i64 a3), (12, .int .i64 a4), (13, .int .i64 hp), (14, .int .i64 wide), (16, .int .i64 u0), (17, .int .i64 (firstV (fun d => (allHeaps F).all fun i => F.sure i d) dd)), (18, .int .i64 (dd : Nat)), (19, .bool b0), (20, .int .i64 (k : Nat)), (21, .ptr h13.next 0), (23, .int .i64 n), (98, .int .i64 F.rs.length), (99, .int .i64 (dd : Nat)), (104, .int .i64 F.hs.length), (105, .int .i64 (k : Nat))]) (fun _ h' => Ext h h' ∧ Has h' h.next (.cells .plain [hsl, rsl, .int .i64 F.a, .int .i64 F.b, .int .i64 F.c, .int .i64 F.lim, lsl] 27) ∧ h13.next < h'.next ∧ Has h' h13.next (.cells .plain [.int .i64 ww.1, .int .i64 ww.2] 30)) ?_ ?_
        · intro k' done
          rcases hn3 with ⟨q1, rfl⟩ | ⟨q1, q2, rfl⟩ | ⟨q1, q2, rfl⟩
          · refine Go.seq noJ_ok ?_
            refine Go.region noJ_ok rfl ?_
            refine GoR.op rfl rfl rfl rfl ?_
            refine GoR.op rfl rfl (aOp_neq rfl rfl (r := false) (decide_eq_true (by omega))) rfl ?_
            iterate 2 refine GoR.op rfl rfl rfl rfl ?_
            refine GoR.op rfl rfl (aOp_neq rfl rfl (r := false) (decide_eq_true (by omega))) rfl ?_
            iterate 3 refine GoR.op rfl rfl rfl rfl ?_
            refine GoR.op rfl rfl (aOp_eql rfl rfl (r := true) (decide_eq_true (by omega))) rfl ?_
            refine GoR.op rfl rfl (fa30_1 rfl) rfl ?_
            refine GoR.op rfl rfl (ld3 rfl f14 rfl) rfl ?_
            refine GoR.op rfl rfl (fa27_3 rfl) rfl ?_
            refine GoR.op rfl rfl (ld3 rfl f0 rfl) rfl ?_
            refine GoR.op rfl rfl (aOp_leq rfl rfl (r := true) (decide_eq_true (by omega))) rfl ?_
            refine GoR.op rfl rfl (aOp_neqBool rfl rfl Try.underlying4 (r := false) rfl) rfl ?_
            iterate 3 refine GoR.op rfl rfl rfl rfl ?_
            refine GoR.op rfl rfl (aOp_eql rfl rfl (r := false) (decide_eq_false (by omega))) rfl ?_
            refine GoR.op rfl rfl (fa30_0 rfl) rfl ?_
            refine GoR.op rfl rfl (ld3 rfl f14 rfl) rfl ?_
            refine GoR.op rfl rfl (fa27_3 rfl) rfl ?_
            refine GoR.op rfl rfl (ld3 rfl f0 rfl) rfl ?_
            refine GoR.op rfl rfl (aOp_gtr rfl rfl (r := false) (decide_eq_false (by omega))) rfl ?_
            refine GoR.op rfl rfl (aOp_neqBool rfl rfl Try.underlying4 (r := false) rfl) rfl ?_
            iterate 3 refine GoR.op rfl rfl rfl rfl ?_
            refine GoR.op rfl rfl (aOp_lss rfl rfl (r := false) (decide_eq_false (by omega))) rfl ?_
            iterate 3 refine GoR.op rfl rfl rfl rfl ?_
            refine GoR.op rfl rfl (aOp_gtr rfl rfl (r := false) (decide_eq_false (by omega))) rfl ?_
            refine GoR.op rfl rfl rfl rfl ?_
            refine GoR.end ?_
            refine Go.cond noJ_ok (b := false) rfl ?_
            refine Go.code noJ_ok ?_
            exact done () _ _ ⟨rfl, rfl, rfl, rfl, rfl, rfl, rfl, rfl, rfl, rfl, rfl, rfl, rfl, rfl, rfl, rfl, rfl, rfl, rfl, rfl, trivial⟩ ⟨e0, f0, f14.1, f14⟩
          · refine Go.seq noJ_ok ?_
            refine Go.region noJ_ok rfl ?_
            refine GoR.op rfl rfl rfl rfl ?_
            refine GoR.op rfl rfl (aOp_neq rfl rfl (r := false) (decide_eq_true (by omega))) rfl ?_
            iterate 2 refine GoR.op rfl rfl rfl rfl ?_
            refine GoR.op rfl rfl (aOp_neq rfl rfl (r := false) (decide_eq_true (by omega))) rfl ?_
            iterate 3 refine GoR.op rfl rfl rfl rfl ?_
            refine GoR.op rfl rfl (aOp_eql rfl rfl (r := false) (decide_eq_false (by omega))) rfl ?_
            refine GoR.op rfl rfl (fa30_1 rfl) rfl ?_
            refine GoR.op rfl rfl (ld3 rfl f14 rfl) rfl ?_
            refine GoR.op rfl rfl (fa27_3 rfl) rfl ?_
            refine GoR.op rfl rfl (ld3 rfl f0 rfl) rfl ?_
            refine GoR.op rfl rfl (aOp_leq rfl rfl (r := false) (decide_eq_false (by omega))) rfl ?_
            refine GoR.op rfl rfl (aOp_neqBool rfl rfl Try.underlying4 (r := false) rfl) rfl ?_
            iterate 3 refine GoR.op rfl rfl rfl rfl ?_
            refine GoR.op rfl rfl (aOp_eql rfl rfl (r := true) (decide_eq_true (by omega))) rfl ?_
            refine GoR.op rfl rfl (fa30_0 rfl) rfl ?_
            refine GoR.op rfl rfl (ld3 rfl f14 rfl) rfl ?_
            refine GoR.op rfl rfl (fa27_3 rfl) rfl ?_
            refine GoR.op rfl rfl (ld3 rfl f0 rfl) rfl ?_
            refine GoR.op rfl rfl (aOp_gtr rfl rfl (r := true) (decide_eq_true (by omega))) rfl ?_
            refine GoR.op rfl rfl (aOp_neqBool rfl rfl Try.underlying4 (r := false) rfl) rfl ?_
            iterate 3 refine GoR.op rfl rfl rfl rfl ?_
            refine GoR.op rfl rfl (aOp_lss rfl rfl (r := false) (decide_eq_false (by omega))) rfl ?_
            iterate 3 refine GoR.op rfl rfl rfl rfl ?_
            refine GoR.op rfl rfl (aOp_gtr rfl rfl (r := false) (decide_eq_false (by omega))) rfl ?_
            refine GoR.op rfl rfl rfl rfl ?_
            refine GoR.end ?_
            refine Go.cond noJ_ok (b := false) rfl ?_
            refine Go.code noJ_ok ?_
            exact done () _ _ ⟨rfl, rfl, rfl, rfl, rfl, rfl, rfl, rfl, rfl, rfl, rfl, rfl, rfl, rfl, rfl, rfl, rfl, rfl, rfl, rfl, trivial⟩ ⟨e0, f0, f14.1, f14⟩
          · refine Go.seq noJ_ok ?_
            refine Go.region noJ_ok rfl ?_
            refine GoR.op rfl rfl rfl rfl ?_
            refine GoR.op rfl rfl (aOp_neq rfl rfl (r := false) (decide_eq_true (by omega))) rfl ?_
            iterate 2 refine GoR.op rfl rfl rfl rfl ?_
            refine GoR.op rfl rfl (aOp_neq rfl rfl (r := false) (decide_eq_true (by omega))) rfl ?_
            iterate 3 refine GoR.op rfl rfl rfl rfl ?_
            refine GoR.op rfl rfl (aOp_eql rfl rfl (r := false) (decide_eq_false (by omega))) rfl ?_
            refine GoR.op rfl rfl (fa30_1 rfl) rfl ?_
            refine GoR.op rfl rfl (ld3 rfl f14 rfl) rfl ?_
            refine GoR.op rfl rfl (fa27_3 rfl) rfl ?_
            refine GoR.op rfl rfl (ld3 rfl f0 rfl) rfl ?_
            refine GoR.op rfl rfl (aOp_leq rfl rfl (r := false) (decide_eq_false (by omega))) rfl ?_
            refine GoR.op rfl rfl (aOp_neqBool rfl rfl Try.underlying4 (r := false) rfl) rfl ?_
            iterate 3 refine GoR.op rfl rfl rfl rfl ?_
            refine GoR.op rfl rfl (aOp_eql rfl rfl (r := false) (decide_eq_false (by omega))) rfl ?_
            refine GoR.op rfl rfl (fa30_0 rfl) rfl ?_
            refine GoR.op rfl rfl (ld3 rfl f14 rfl) rfl ?_
            refine GoR.op rfl rfl (fa27_3 rfl) rfl ?_
            refine GoR.op rfl rfl (ld3 rfl f0 rfl) rfl ?_
            refine GoR.op rfl rfl (aOp_gtr rfl rfl (r := false) (decide_eq_false (by omega))) rfl ?_
            refine GoR.op rfl rfl (aOp_neqBool rfl rfl Try.underlying4 (r := false) rfl) rfl ?_
            iterate 3 refine GoR.op rfl rfl rfl rfl ?_
            refine GoR.op rfl rfl (aOp_lss rfl rfl (r := false) (decide_eq_false (by omega))) rfl ?_
            iterate 3 refine GoR.op rfl rfl rfl rfl ?_
            refine GoR.op rfl rfl (aOp_gtr rfl rfl (r := false) (decide_eq_false (by omega))) rfl ?_
            refine GoR.op rfl rfl rfl rfl ?_
            refine GoR.end ?_
            refine Go.cond noJ_ok (b := false) rfl ?_
            refine Go.code noJ_ok ?_
            exact done () _ _ ⟨rfl, rfl, rfl, rfl, rfl, rfl, rfl, rfl, rfl, rfl, rfl, rfl, rfl, rfl, rfl, rfl, rfl, rfl, rfl, rfl, trivial⟩ ⟨e0, f0, f14.1, f14⟩
        clear e0 f0 f14
        rintro ⟨⟩ h30 ⟨e0, f0, hlt, f14⟩
        refine Go.seq noJ_ok (Go.join (fun _ : Unit => [(3, .ptr h.next 0), (7, .int .i64 i), (8, .int .i64 d), (9, .int .i64 a1), (10, .int .i64 a2), (11, .int .i64 a3), (12, .int .i64 a4), (13, .int .i64 hp), (14, .int .i64 wide), (16, .int .i64 u1), (17, .int .i64 (firstV (fun d => (allHeaps F).all fun i => F.sure i d) dd)), (18, .int .i64 (dd : Nat)), (19, .bool b0), (20, .int .i64 (k : Nat)), (21, .ptr h13.next 0), (23, .int .i64 n), (98, .int .i64 F.rs.length), (99, .int .i64 (dd : Nat)), (104, .int .i64 F.hs.length), (105, .int .i64 (k : Nat))]) (fun _ h' => Ext h h' ∧ Has h' h.next (.cells .plain [hsl, rsl, .int .i64 F.a, .int .i64 F.b, .int .i64 F.c, .int .i64 F.lim, lsl] 27) ∧ h13.next < h'.next ∧ Has h' h13.next (.cells .plain [.int .i64 ww.1, .int .i64 ww.2] 30)) ?_ ?_)
        · intro k' done
          by_cases hki : k = i
          · have hu := hus2 hki
            by_cases hneg : u0 < 0
            · rw [if_pos hneg] at hu
              by_cases h2 : n = 2
              · rw [if_pos h2] at hu
                subst h2 hu
                refine Go.seq noJ_ok ?_
                refine Go.region noJ_ok rfl ?_
                iterate 2 refine GoR.op rfl rfl rfl rfl ?_
                refine GoR.op rfl rfl (aOp_eql rfl rfl (r := true) (decide_eq_true (by omega))) rfl ?_
                iterate 2 refine GoR.op rfl rfl rfl rfl ?_
                refine GoR.op rfl rfl (aOp_lss rfl rfl (r := true) (decide_eq_true (by omega))) rfl ?_
                iterate 3 refine GoR.op rfl rfl rfl rfl ?_
                refine GoR.op rfl rfl (aOp_eql rfl rfl (r := true) (decide_eq_true (by omega))) rfl ?_
                refine GoR.op rfl rfl rfl rfl ?_
                refine GoR.end ?_
                refine Go.cond noJ_ok (b := true) rfl ?_
                refine Go.region noJ_ok rfl ?_
                iterate 2 refine GoR.op rfl rfl rfl rfl ?_
                refine GoR.end ?_
                exact done () _ _ ⟨rfl, rfl, rfl, rfl, rfl, rfl, rfl, rfl, rfl, rfl, rfl, rfl, rfl, rfl, rfl, rfl, rfl, rfl, rfl, rfl, trivial⟩ ⟨e0, f0, f14.1, f14⟩
              · rw [if_neg h2] at hu
                have : u0 = -1 := by omega
                subst this hu
                refine Go.seq noJ_ok ?_
                refine Go.region noJ_ok rfl ?_
                iterate 2 refine GoR.op rfl rfl rfl rfl ?_
                refine GoR.op rfl rfl (aOp_eql rfl rfl (r := true) (decide_eq_true (by omega))) rfl ?_
                iterate 2 refine GoR.op rfl rfl rfl rfl ?_
                refine GoR.op rfl rfl (aOp_lss rfl rfl (r := true) (decide_eq_true (by omega))) rfl ?_
                iterate 3 refine GoR.op rfl rfl rfl rfl ?_
                refine GoR.op rfl rfl (aOp_eql rfl rfl (r := false) (decide_eq_false (by omega))) rfl ?_
                refine GoR.op rfl rfl rfl rfl ?_
                refine GoR.end ?_
                refine Go.cond noJ_ok (b := false) rfl ?_
                refine Go.code noJ_ok ?_
                exact done () _ _ ⟨rfl, rfl, rfl, rfl, rfl, rfl, rfl, rfl, rfl, rfl, rfl, rfl, rfl, rfl, rfl, rfl, rfl, rfl, rfl, rfl, trivial⟩ ⟨e0, f0, f14.1, f14⟩
            · rw [if_neg hneg] at hu
              subst hu
              refine Go.seq noJ_ok ?_
              refine Go.region noJ_ok rfl ?_
              iterate 2 refine GoR.op rfl rfl rfl rfl ?_
              refine GoR.op rfl rfl (aOp_eql rfl rfl (r := true) (decide_eq_true (by omega))) rfl ?_
              iterate 2 refine GoR.op rfl rfl rfl rfl ?_
              refine GoR.op rfl rfl (aOp_lss rfl rfl (r := false) (decide_eq_false (by omega))) rfl ?_
              iterate 2 refine GoR.op rfl rfl rfl rfl ?_
              iterate 2 refine GoR.skip rfl rfl rfl ?_
              refine GoR.op rfl rfl rfl rfl ?_
              refine GoR.end ?_
              refine Go.cond noJ_ok (b := false) rfl ?_
              refine Go.code noJ_ok ?_
              exact done () _ _ ⟨rfl, rfl, rfl, rfl, rfl, rfl, rfl, rfl, rfl, rfl, rfl, rfl, rfl, rfl, rfl, rfl, rfl, rfl, rfl, rfl, trivial⟩ ⟨e0, f0, f14.1, f14⟩
          · have hu := hus1 hki
            subst hu
            refine Go.seq noJ_ok ?_
            refine Go.region noJ_ok rfl ?_
            iterate 2 refine GoR.op rfl rfl rfl rfl ?_
            refine GoR.op rfl rfl (aOp_eql rfl rfl (r := false) (decide_eq_false (by omega))) rfl ?_
            refine GoR.op rfl rfl rfl rfl ?_
            iterate 2 refine GoR.skip rfl rfl rfl ?_
            iterate 2 refine GoR.op rfl rfl rfl rfl ?_
            iterate 2 refine GoR.skip rfl rfl rfl ?_
            refine GoR.op rfl rfl rfl rfl ?_
            refine GoR.end ?_
            refine Go.cond noJ_ok (b := false) rfl ?_
            refine Go.code noJ_ok ?_
            exact done () _ _ ⟨rfl, rfl, rfl, rfl, rfl, rfl, rfl, rfl, rfl, rfl, rfl, rfl, rfl, rfl, rfl, rfl, rfl, rfl, rfl, rfl, trivial⟩ ⟨e0, f0, f14.1, f14⟩
        clear e0 f0 f14
        rintro ⟨⟩ h31 ⟨e0, f0, hlt', f14⟩
        refine Go.seq noJ_ok (Go.join (fun _ : Unit => [(3, .ptr h.next 0), (7, .int .i64 i), (8, .int .i64 d), (9, .int .i64 a1), (10, .int .i64 a2), (11, .int .i64 a3), (12, .int .i64 a4), (13, .int .i64 hp), (14, .int .i64 wide), (16, .int .i64 u1), (17, .int .i64 (firstV (fun d => (allHeaps F).all fun i => F.sure i d) dd)), (18, .int .i64 (dd : Nat)), (19, .bool b1), (20, .int .i64 (k : Nat)), (21, .ptr h13.next 0), (23, .int .i64 n), (98, .int .i64 F.rs.length), (99, .int .i64 (dd : Nat)), (104, .int .i64 F.hs.length), (105, .int .i64 (k : Nat))]) (fun _ h' => Ext h h' ∧ Has h' h.next (.cells .plain [hsl, rsl, .int .i64 F.a, .int .i64 F.b, .int .i64 F.c, .int .i64 F.lim, lsl] 27) ∧ h13.next < h'.next ∧ Has h' h13.next (.cells .plain [.int .i64 ww.1, .int .i64 ww.2] 30)) ?_ ?_)
        · intro k' done
          cases b0 with
          | false =>
            have hb : b1 = false := by rw [hbs]; rfl
            subst hb
            refine Go.region noJ_ok rfl ?_
            iterate 2 refine GoR.op rfl rfl rfl rfl ?_
            iterate 2 refine GoR.skip rfl rfl rfl ?_
            iterate 2 refine GoR.op rfl rfl rfl rfl ?_
            refine GoR.end ?_
            exact done () _ _ ⟨rfl, rfl, rfl, rfl, rfl, rfl, rfl, rfl, rfl, rfl, rfl, rfl, rfl, rfl, rfl, rfl, rfl, rfl, rfl, rfl, trivial⟩ ⟨e0, f0, f14.1, f14⟩
          | true =>
            by_cases h2 : n = 2
            · have hb : b1 = true := by rw [hbs]; simp [h2]
              subst hb
              refine Go.region noJ_ok rfl ?_
              iterate 3 refine GoR.op rfl rfl rfl rfl ?_
              refine GoR.op rfl rfl (aOp_eql rfl rfl (r := true) (decide_eq_true (by omega))) rfl ?_
              iterate 2 refine GoR.op rfl rfl rfl rfl ?_
              refine GoR.end ?_
              exact done () _ _ ⟨rfl, rfl, rfl, rfl, rfl, rfl, rfl, rfl, rfl, rfl, rfl, rfl, rfl, rfl, rfl, rfl, rfl, rfl, rfl, rfl, trivial⟩ ⟨e0, f0, f14.1, f14⟩
            · have hb : b1 = false := by rw [hbs]; simp [h2]
              subst hb
              refine Go.region noJ_ok rfl ?_
              iterate 3 refine GoR.op rfl rfl rfl rfl ?_
              refine GoR.op rfl rfl (aOp_eql rfl rfl (r := false) (decide_eq_false (by omega))) rfl ?_
              iterate 2 refine GoR.op rfl rfl rfl rfl ?_
              refine GoR.end ?_
              exact done () _ _ ⟨rfl, rfl, rfl, rfl, rfl, rfl, rfl, rfl, rfl, rfl, rfl, rfl, rfl, rfl, rfl, rfl, rfl, rfl, rfl, rfl, trivial⟩ ⟨e0, f0, f14.1, f14⟩
        clear e0 f0 f14
        rintro ⟨⟩ h32 ⟨e0, f0, hlt'', f14⟩
        by_cases hdd' : dd = d
        · obtain ⟨g1, g2, g3⟩ := hapk hdd'
          by_cases heq : ww.2 - ww.1 = wide
          · have g2' := g2 heq
            by_cases hkp : k = hp
            · refine Go.seq noJ_ok ?_
              refine Go.region noJ_ok rfl ?_
              iterate 2 refine GoR.op rfl rfl rfl rfl ?_
              refine GoR.op rfl rfl (aOp_eql rfl rfl (r := true) (decide_eq_true (by omega))) rfl ?_
              refine GoR.op rfl rfl rfl rfl ?_
              refine GoR.op rfl rfl (fa30_1 rfl) rfl ?_
              refine GoR.op rfl rfl (ld3 rfl f14 rfl) rfl ?_
              refine GoR.op rfl rfl (fa30_0 rfl) rfl ?_
              refine GoR.op rfl rfl (ld3 rfl f14 rfl) rfl ?_
              refine GoR.op rfl rfl (aOp_sub rfl rfl (by constructor <;> omega) rfl) rfl ?_
              refine GoR.op rfl rfl rfl rfl ?_
              refine GoR.op rfl rfl (aOp_gtr rfl rfl (r := false) (decide_eq_false (by omega))) rfl ?_
              refine GoR.op rfl rfl rfl rfl ?_
              refine GoR.op rfl rfl (fa30_1 rfl) rfl ?_
              refine GoR.op rfl rfl (ld3 rfl f14 rfl) rfl ?_
              refine GoR.op rfl rfl (fa30_0 rfl) rfl ?_
              refine GoR.op rfl rfl (ld3 rfl f14 rfl) rfl ?_
              refine GoR.op rfl rfl (aOp_sub rfl rfl (by constructor <;> omega) rfl) rfl ?_
              refine GoR.op rfl rfl rfl rfl ?_
              refine GoR.op rfl rfl (aOp_eql rfl rfl (r := true) (decide_eq_true (by omega))) rfl ?_
              iterate 3 refine GoR.op rfl rfl rfl rfl ?_
              refine GoR.op rfl rfl (aOp_lss rfl rfl (r := false) (decide_eq_false (by omega))) rfl ?_
              iterate 5 refine GoR.op rfl rfl rfl rfl ?_
              refine GoR.op rfl rfl (aOp_eql rfl rfl (r := true) (decide_eq_true (by omega))) rfl ?_
              refine GoR.op rfl rfl rfl rfl ?_
              refine GoR.op rfl rfl (fa30_1 rfl) rfl ?_
              refine GoR.op rfl rfl (ld3 rfl f14 rfl) rfl ?_
              refine GoR.op rfl rfl (fa30_0 rfl) rfl ?_
              refine GoR.op rfl rfl (ld3 rfl f14 rfl) rfl ?_
              refine GoR.op rfl rfl (aOp_sub rfl rfl (by constructor <;> omega) rfl) rfl ?_
              refine GoR.op rfl rfl rfl rfl ?_
              refine GoR.op rfl rfl (aOp_neq rfl rfl (r := false) (decide_eq_true (by omega))) rfl ?_
              iterate 3 refine GoR.op rfl rfl rfl rfl ?_
              refine GoR.end ?_
              refine Go.cond noJ_ok (b := false) rfl ?_
              refine Go.code noJ_ok ?_
              refine Go.inBlock noJ_ok ?_
              refine Go.region noJ_ok rfl ?_
              refine GoR.op rfl rfl (aOp_add rfl rfl (by constructor <;> omega) rfl) rfl ?_
              refine GoR.op rfl rfl rfl rfl ?_
              refine GoR.end ?_
              exact again2' _ _ ⟨rfl, rfl, rfl, rfl, rfl, rfl, rfl, rfl, rfl, rfl, rfl, rfl, rfl, rfl, rfl, rfl, rfl, trivial⟩ e0 f0
            · refine Go.seq noJ_ok ?_
              refine Go.region noJ_ok rfl ?_
              iterate 2 refine GoR.op rfl rfl rfl rfl ?_
              refine GoR.op rfl rfl (aOp_eql rfl rfl (r := true) (decide_eq_true (by omega))) rfl ?_
              refine GoR.op rfl rfl rfl rfl ?_
              refine GoR.op rfl rfl (fa30_1 rfl) rfl ?_
              refine GoR.op rfl rfl (ld3 rfl f14 rfl) rfl ?_
              refine GoR.op rfl rfl (fa30_0 rfl) rfl ?_
              refine GoR.op rfl rfl (ld3 rfl f14 rfl) rfl ?_
              refine GoR.op rfl rfl (aOp_sub rfl rfl (by constructor <;> omega) rfl) rfl ?_
              refine GoR.op rfl rfl rfl rfl ?_
              refine GoR.op rfl rfl (aOp_gtr rfl rfl (r := false) (decide_eq_false (by omega))) rfl ?_
              refine GoR.op rfl rfl rfl rfl ?_
              refine GoR.op rfl rfl (fa30_1 rfl) rfl ?_
              refine GoR.op rfl rfl (ld3 rfl f14 rfl) rfl ?_
              refine GoR.op rfl rfl (fa30_0 rfl) rfl ?_
              refine GoR.op rfl rfl (ld3 rfl f14 rfl) rfl ?_
              refine GoR.op rfl rfl (aOp_sub rfl rfl (by constructor <;> omega) rfl) rfl ?_
              refine GoR.op rfl rfl rfl rfl ?_
              refine GoR.op rfl rfl (aOp_eql rfl rfl (r := true) (decide_eq_true (by omega))) rfl ?_
              iterate 3 refine GoR.op rfl rfl rfl rfl ?_
              refine GoR.op rfl rfl (aOp_lss rfl rfl (r := false) (decide_eq_false (by omega))) rfl ?_
              iterate 5 refine GoR.op rfl rfl rfl rfl ?_
              refine GoR.op rfl rfl (aOp_eql rfl rfl (r := false) (decide_eq_false (by omega))) rfl ?_
              refine GoR.op rfl rfl rfl rfl ?_
              iterate 7 refine GoR.skip rfl rfl rfl ?_
              iterate 3 refine GoR.op rfl rfl rfl rfl ?_
              refine GoR.end ?_
              refine Go.cond noJ_ok (b := false) rfl ?_
              refine Go.code noJ_ok ?_
              refine Go.inBlock noJ_ok ?_
              refine Go.region noJ_ok rfl ?_
              refine GoR.op rfl rfl (aOp_add rfl rfl (by constructor <;> omega) rfl) rfl ?_
              refine GoR.op rfl rfl rfl rfl ?_
              refine GoR.end ?_
              exact again2' _ _ ⟨rfl, rfl, rfl, rfl, rfl, rfl, rfl, rfl, rfl, rfl, rfl, rfl, rfl, rfl, rfl, rfl, rfl, trivial⟩ e0 f0
          · have hkp : k ≠ hp := fun q => heq (g3 q)
            refine Go.seq noJ_ok ?_
            refine Go.region noJ_ok rfl ?_
            iterate 2 refine GoR.op rfl rfl rfl rfl ?_
            refine GoR.op rfl rfl (aOp_eql rfl rfl (r := true) (decide_eq_true (by omega))) rfl ?_
            refine GoR.op rfl rfl rfl rfl ?_
            refine GoR.op rfl rfl (fa30_1 rfl) rfl ?_
            refine GoR.op rfl rfl (ld3 rfl f14 rfl) rfl ?_
            refine GoR.op rfl rfl (fa30_0 rfl) rfl ?_
            refine GoR.op rfl rfl (ld3 rfl f14 rfl) rfl ?_
            refine GoR.op rfl rfl (aOp_sub rfl rfl (by constructor <;> omega) rfl) rfl ?_
            refine GoR.op rfl rfl rfl rfl ?_
            refine GoR.op rfl rfl (aOp_gtr rfl rfl (r := false) (decide_eq_false (by omega))) rfl ?_
            refine GoR.op rfl rfl rfl rfl ?_
            refine GoR.op rfl rfl (fa30_1 rfl) rfl ?_
            refine GoR.op rfl rfl (ld3 rfl f14 rfl) rfl ?_
            refine GoR.op rfl rfl (fa30_0 rfl) rfl ?_
            refine GoR.op rfl rfl (ld3 rfl f14 rfl) rfl ?_
            refine GoR.op rfl rfl (aOp_sub rfl rfl (by constructor <;> omega) rfl) rfl ?_
            refine GoR.op rfl rfl rfl rfl ?_
            refine GoR.op rfl rfl (aOp_eql rfl rfl (r := false) (decide_eq_false (by omega))) rfl ?_
            refine GoR.op rfl rfl rfl rfl ?_
            iterate 3 refine GoR.skip rfl rfl rfl ?_
            iterate 5 refine GoR.op rfl rfl rfl rfl ?_
            refine GoR.op rfl rfl (aOp_eql rfl rfl (r := false) (decide_eq_false (by omega))) rfl ?_
            refine GoR.op rfl rfl rfl rfl ?_
            iterate 7 refine GoR.skip rfl rfl rfl ?_
            iterate 3 refine GoR.op rfl rfl rfl rfl ?_
            refine GoR.end ?_
            refine Go.cond noJ_ok (b := false) rfl ?_
            refine Go.code noJ_ok ?_
            refine Go.inBlock noJ_ok ?_
            refine Go.region noJ_ok rfl ?_
            refine GoR.op rfl rfl (aOp_add rfl rfl (by constructor <;> omega) rfl) rfl ?_
            refine GoR.op rfl rfl rfl rfl ?_
            refine GoR.end ?_
            exact again2' _ _ ⟨rfl, rfl, rfl, rfl, rfl, rfl, rfl, rfl, rfl, rfl, rfl, rfl, rfl, rfl, rfl, rfl, rfl, trivial⟩ e0 f0
        · refine Go.seq noJ_ok ?_
          refine Go.region noJ_ok rfl ?_
          iterate 2 refine GoR.op rfl rfl rfl rfl ?_
          refine GoR.op rfl rfl (aOp_eql rfl rfl (r := false) (decide_eq_false (by omega))) rfl ?_
          refine GoR.op rfl rfl rfl rfl ?_
          iterate 35 refine GoR.skip rfl rfl rfl ?_
          refine GoR.op rfl rfl rfl rfl ?_
          refine GoR.end ?_
          refine Go.cond noJ_ok (b := false) rfl ?_
          refine Go.code noJ_ok ?_
          refine Go.inBlock noJ_ok ?_
          refine Go.region noJ_ok rfl ?_
          refine GoR.op rfl rfl (aOp_add rfl rfl (by constructor <;> omega) rfl) rfl ?_
          refine GoR.op rfl rfl rfl rfl ?_
          refine GoR.end ?_
          exact again2' _ _ ⟨rfl, rfl, rfl, rfl, rfl, rfl, rfl, rfl, rfl, rfl, rfl, rfl, rfl, rfl, rfl, rfl, rfl, trivial⟩ e0 f0
      · have hkN : k = F.hs.length := by omega
        subst hkN
        have again' := fun t' h' (hk' : keepOk t' [(3, .ptr h.next 0), (7, .int .i64 i), (8, .int .i64 d), (9, .int .i64 a1), (10, .int .i64 a2), (11, .int .i64 a3), (12, .int .i64 a4), (13, .int .i64 hp), (14, .int .i64 wide), (16, .int .i64 (firstV (fun d => F.sure (i : Nat) d) (dd + 1))), (17, .int .i64 (firstV (fun d => (allHeaps F).all fun i => F.sure i d) (dd + 1))), (98, .int .i64 F.rs.length), (99, .int .i64 (((dd : Nat) : Int) + 1))]) (e : Ext h h') (f : Has h' h.next (.cells .plain [hsl, rsl, .int .i64 F.a, .int .i64 F.b, .int .i64 F.c, .int .i64 F.lim, lsl] 27)) => again (m - 1) (dd + 1) t' h' (by omega) hk' ⟨by omega, e, f⟩
        rw [if_pos hi2]
        obtain ⟨u1, hu1⟩ : ∃ u1, firstV (fun d => F.sure (i : Nat) d) (dd + 1) = u1 := ⟨_, rfl⟩
        rw [hu1] at again' ⊢
        obtain ⟨b0, hb0⟩ : ∃ b0, ((List.range F.hs.length).all fun j : Nat => F.sure (j : Nat) dd) = b0 := ⟨_, rfl⟩
        have hall : ((allHeaps F).all fun i => F.sure i dd) = b0 := by
          rw [← hb0]
          unfold allHeaps
          rw [List.all_map]
          rfl
        obtain ⟨v0, hv0⟩ : ∃ v0, firstV (fun d => (allHeaps F).all fun i => F.sure i d) dd = v0 := ⟨_, rfl⟩
        obtain ⟨v1, hv1⟩ : ∃ v1, firstV (fun d => (allHeaps F).all fun i => F.sure i d) (dd + 1) = v1 := ⟨_, rfl⟩
        have hvb : -1 ≤ v0 := by
          rw [← hv0]
          rcases firstV_bd (fun d => (allHeaps F).all fun i => F.sure i d) dd with q | q <;> omega
        have hvs : v1 = if v0 < 0 then (if b0 then ((dd : Nat) : Int) else -1) else v0 := by rw [← hv1, firstV_succ, hv0, hall]
        rw [hv1] at again'
        rw [hb0, hv0]
        clear hu1 hb0 hall hv0 hv1
        cases b0 with
        | false =>
          have hv : v1 = v0 := by rw [hvs]; split <;> simp <;> omega
          subst hv
          refine Go.seq noJ_ok ?_
          refine Go.region noJ_ok rfl ?_
          refine GoR.op rfl rfl (aOp_lss rfl rfl (r := false) (decide_eq_false (by omega))) rfl ?_
          refine GoR.end ?_
          refine Go.seq noJ_ok ?_
          refine Go.cond noJ_ok (b := false) rfl ?_
          refine Go.code noJ_ok ?_
          refine Go.seq noJ_ok ?_
          refine Go.region noJ_ok rfl ?_
          iterate 2 refine GoR.op rfl rfl rfl rfl ?_
          iterate 2 refine GoR.skip rfl rfl rfl ?_
          refine GoR.op rfl rfl rfl rfl ?_
          refine GoR.end ?_
          refine Go.cond noJ_ok (b := false) rfl ?_
          refine Go.code noJ_ok ?_
          refine Go.inBlock noJ_ok ?_
          refine Go.region noJ_ok rfl ?_
          refine GoR.op rfl rfl (aOp_add rfl rfl (by constructor <;> omega) rfl) rfl ?_
          refine GoR.op rfl rfl rfl rfl ?_
          refine GoR.end ?_
          exact again' _ _ ⟨rfl, rfl, rfl, rfl, rfl, rfl, rfl, rfl, rfl, rfl, rfl, rfl, rfl, trivial⟩ e0 f0
        | true =>
          by_cases hneg : v0 < 0
          · have hv : v1 = ((dd : Nat) : Int) := by rw [hvs, if_pos hneg]; rfl
            subst hv
            refine Go.seq noJ_ok ?_
            refine Go.region noJ_ok rfl ?_
            refine GoR.op rfl rfl (aOp_lss rfl rfl (r := false) (decide_eq_false (by omega))) rfl ?_
            refine GoR.end ?_
            refine Go.seq noJ_ok ?_
            refine Go.cond noJ_ok (b := false) rfl ?_
            refine Go.code noJ_ok ?_
            refine Go.seq noJ_ok ?_
            refine Go.region noJ_ok rfl ?_
            iterate 3 refine GoR.op rfl rfl rfl rfl ?_
            refine GoR.op rfl rfl (aOp_lss rfl rfl (r := true) (decide_eq_true (by omega))) rfl ?_
            refine GoR.op rfl rfl rfl rfl ?_
            refine GoR.end ?_
            refine Go.cond noJ_ok (b := true) rfl ?_
            refine Go.region noJ_ok rfl ?_
            iterate 2 refine GoR.op rfl rfl rfl rfl ?_
            refine GoR.end ?_
            refine Go.inBlock noJ_ok ?_
            refine Go.region noJ_ok rfl ?_
            refine GoR.op rfl rfl (aOp_add rfl rfl (by constructor <;> omega) rfl) rfl ?_
            refine GoR.op rfl rfl rfl rfl ?_
            refine GoR.end ?_
            exact again' _ _ ⟨rfl, rfl, rfl, rfl, rfl, rfl, rfl, rfl, rfl, rfl, rfl, rfl, rfl, trivial⟩ e0 f0
          · have hv : v1 = v0 := by rw [hvs, if_neg hneg]
            subst hv
            refine Go.seq noJ_ok ?_
            refine Go.region noJ_ok rfl ?_
            refine GoR.op rfl rfl (aOp_lss rfl rfl (r := false) (decide_eq_false (by omega))) rfl ?_
            refine GoR.end ?_
            refine Go.seq noJ_ok ?_
            refine Go.cond noJ_ok (b := false) rfl ?_
            refine Go.code noJ_ok ?_
            refine Go.seq noJ_ok ?_
            refine Go.region noJ_ok rfl ?_
            iterate 3 refine GoR.op rfl rfl rfl rfl ?_
            refine GoR.op rfl rfl (aOp_lss rfl rfl (r := false) (decide_eq_false (by omega))) rfl ?_
            refine GoR.op rfl rfl rfl rfl ?_
            refine GoR.end ?_
            refine Go.cond noJ_ok (b := false) rfl ?_
            refine Go.code noJ_ok ?_
            refine Go.inBlock noJ_ok ?_
            refine Go.region noJ_ok rfl ?_
            refine GoR.op rfl rfl (aOp_add rfl rfl (by constructor <;> omega) rfl) rfl ?_
            refine GoR.op rfl rfl rfl rfl ?_
            refine GoR.end ?_
            exact again' _ _ ⟨rfl, rfl, rfl, rfl, rfl, rfl, rfl, rfl, rfl, rfl, rfl, rfl, rfl, trivial⟩ e0 f0
    · have hdn : dd = F.rs.length := by omega
      subst hdn
      have hp7 := hp5.1
      have hf1 : firstV (fun d => F.sure (i : Nat) d) F.rs.length = match whenV F [(i : Nat)] with | some k => ((k : Nat) : Int) | none => -1 := by
        have : (fun d => F.sure (i : Nat) d) = fun d => [((i : Nat) : Int)].all fun i => F.sure i d := by
          funext d
          simp
        rw [this]
        rfl
      have hf2 : firstV (fun d => (allHeaps F).all fun i => F.sure i d) F.rs.length = match whenV F (allHeaps F) with | some k => ((k : Nat) : Int) | none => -1 := rfl
      rw [hf1, hf2]
      cases o1 : whenV F [(i : Nat)] with
      | some k1 =>
        rw [o1] at ha1 ha2
        cases o2 : whenV F (allHeaps F) with
        | some k2 =>
          rw [o2] at ha3 ha4
          subst ha1 ha2 ha3 ha4
          dsimp only [whenD, whenE]
          refine Go.seq noJ_ok ?_
          refine Go.region noJ_ok rfl ?_
          refine GoR.op rfl rfl (aOp_lss rfl rfl (r := false) (decide_eq_false (by omega))) rfl ?_
          refine GoR.end ?_
          refine Go.seq noJ_ok ?_
          refine Go.cond noJ_ok (b := false) rfl ?_
          refine Go.code noJ_ok ?_
          iterate 2 refine Go.seq noJ_ok ?_
          refine Go.region noJ_ok rfl ?_
          refine GoR.op rfl rfl rfl rfl ?_
          refine GoR.op rfl rfl (aOp_lss rfl rfl (r := false) (decide_eq_false (by omega))) rfl ?_
          iterate 2 refine GoR.op rfl rfl rfl rfl ?_
          refine GoR.op rfl rfl (fa27_0 rfl) rfl ?_
          refine GoR.op rfl rfl (ld22 rfl f0 rfl) rfl ?_
          refine GoR.op rfl rfl (aOp_lenSlice Try.underlying22 rfl hl1) rfl ?_
          refine GoR.op rfl rfl (aOp_geq rfl rfl (r := false) (decide_eq_false (by omega))) rfl ?_
          iterate 3 refine GoR.op rfl rfl rfl rfl ?_
          refine GoR.op rfl rfl (aOp_eql rfl rfl (r := true) (decide_eq_true (by omega))) rfl ?_
          refine GoR.op rfl rfl rfl rfl ?_
          refine GoR.op rfl rfl (aOp_geq rfl rfl (r := true) (decide_eq_true (by simp))) rfl ?_
          refine GoR.op rfl rfl (aOp_neqBool rfl rfl Try.underlying4 (r := false) rfl) rfl ?_
          iterate 3 refine GoR.op rfl rfl rfl rfl ?_
          refine GoR.op rfl rfl (aOp_eql rfl rfl (r := true) (decide_eq_true (by omega))) rfl ?_
          iterate 3 refine GoR.op rfl rfl rfl rfl ?_
          refine GoR.op rfl rfl (aOp_neq rfl rfl (r := false) (decide_eq_true (by omega))) rfl ?_
          iterate 4 refine GoR.op rfl rfl rfl rfl ?_
          refine GoR.op rfl rfl (aOp_neq rfl rfl (r := false) (decide_eq_true (by omega))) rfl ?_
          refine GoR.op rfl rfl rfl rfl ?_
          iterate 6 refine GoR.skip rfl rfl rfl ?_
          iterate 2 refine GoR.op rfl rfl rfl rfl ?_
          refine GoR.end ?_
          refine Go.cond noJ_ok (b := false) rfl ?_
          refine Go.code noJ_ok ?_
          refine Go.seq noJ_ok ?_
          refine Go.region JA_ok rfl ?_
          refine GoR.op rfl rfl rfl rfl ?_
          refine GoR.op rfl rfl (aOp_eql rfl rfl (r := true) (decide_eq_true (by omega))) rfl ?_
          refine GoR.op rfl rfl rfl rfl ?_
          refine GoR.op rfl rfl (aOp_geq rfl rfl (r := true) (decide_eq_true (by simp))) rfl ?_
          refine GoR.op rfl rfl (aOp_eqlBool rfl rfl Try.underlying4 (r := true) rfl) rfl ?_
          iterate 2 refine GoR.op rfl rfl rfl rfl ?_
          refine GoR.op rfl rfl (aOp_neq rfl rfl (r := false) (decide_eq_true (by omega))) rfl ?_
          iterate 3 refine GoR.op rfl rfl rfl rfl ?_
          refine GoR.op rfl rfl (aOp_eql rfl rfl (r := true) (decide_eq_true (by omega))) rfl ?_
          iterate 4 refine GoR.op rfl rfl rfl rfl ?_
          refine GoR.op rfl rfl (aOp_eql rfl rfl (r := true) (decide_eq_true (by omega))) rfl ?_
          refine GoR.op rfl rfl rfl rfl ?_
          iterate 6 refine GoR.skip rfl rfl rfl ?_
          iterate 3 refine GoR.op rfl rfl rfl rfl ?_
          refine GoR.jump JA_ok rfl rfl (aOp_callFunc aFunc21 rfl) (v := .bool true) rfl rfl ?_
          iterate 2 refine GoR.op rfl rfl rfl rfl ?_
          refine GoR.end ?_
          exact Go.ret noJ_ok (ret_end (aResult_of Try.func6 rfl rfl) ⟨rfl, e0⟩)
        | none =>
          rw [o2] at ha3 ha4
          subst ha1 ha2 ha3 ha4
          dsimp only [whenD, whenE]
          refine Go.seq noJ_ok ?_
          refine Go.region noJ_ok rfl ?_
          refine GoR.op rfl rfl (aOp_lss rfl rfl (r := false) (decide_eq_false (by omega))) rfl ?_
          refine GoR.end ?_
          refine Go.seq noJ_ok ?_
          refine Go.cond noJ_ok (b := false) rfl ?_
          refine Go.code noJ_ok ?_
          iterate 2 refine Go.seq noJ_ok ?_
          refine Go.region noJ_ok rfl ?_
          refine GoR.op rfl rfl rfl rfl ?_
          refine GoR.op rfl rfl (aOp_lss rfl rfl (r := false) (decide_eq_false (by omega))) rfl ?_
          iterate 2 refine GoR.op rfl rfl rfl rfl ?_
          refine GoR.op rfl rfl (fa27_0 rfl) rfl ?_
          refine GoR.op rfl rfl (ld22 rfl f0 rfl) rfl ?_
          refine GoR.op rfl rfl (aOp_lenSlice Try.underlying22 rfl hl1) rfl ?_
          refine GoR.op rfl rfl (aOp_geq rfl rfl (r := false) (decide_eq_false (by omega))) rfl ?_
          iterate 3 refine GoR.op rfl rfl rfl rfl ?_
          refine GoR.op rfl rfl (aOp_eql rfl rfl (r := true) (decide_eq_true (by omega))) rfl ?_
          refine GoR.op rfl rfl rfl rfl ?_
          refine GoR.op rfl rfl (aOp_geq rfl rfl (r := true) (decide_eq_true (by simp))) rfl ?_
          refine GoR.op rfl rfl (aOp_neqBool rfl rfl Try.underlying4 (r := false) rfl) rfl ?_
          iterate 3 refine GoR.op rfl rfl rfl rfl ?_
          refine GoR.op rfl rfl (aOp_eql rfl rfl (r := true) (decide_eq_true (by omega))) rfl ?_
          iterate 3 refine GoR.op rfl rfl rfl rfl ?_
          refine GoR.op rfl rfl (aOp_neq rfl rfl (r := false) (decide_eq_true (by omega))) rfl ?_
          iterate 4 refine GoR.op rfl rfl rfl rfl ?_
          refine GoR.op rfl rfl (aOp_neq rfl rfl (r := false) (decide_eq_true (by omega))) rfl ?_
          refine GoR.op rfl rfl rfl rfl ?_
          iterate 6 refine GoR.skip rfl rfl rfl ?_
          iterate 2 refine GoR.op rfl rfl rfl rfl ?_
          refine GoR.end ?_
          refine Go.cond noJ_ok (b := false) rfl ?_
          refine Go.code noJ_ok ?_
          refine Go.seq noJ_ok ?_
          refine Go.region JA_ok rfl ?_
          refine GoR.op rfl rfl rfl rfl ?_
          refine GoR.op rfl rfl (aOp_eql rfl rfl (r := false) (decide_eq_false (by omega))) rfl ?_
          refine GoR.op rfl rfl rfl rfl ?_
          refine GoR.op rfl rfl (aOp_geq rfl rfl (r := false) (decide_eq_false (by omega))) rfl ?_
          refine GoR.op rfl rfl (aOp_eqlBool rfl rfl Try.underlying4 (r := true) rfl) rfl ?_
          iterate 2 refine GoR.op rfl rfl rfl rfl ?_
          refine GoR.op rfl rfl (aOp_neq rfl rfl (r := true) (decide_eq_false (by omega))) rfl ?_
          refine GoR.op rfl rfl rfl rfl ?_
          iterate 3 refine GoR.skip rfl rfl rfl ?_
          iterate 4 refine GoR.op rfl rfl rfl rfl ?_
          refine GoR.op rfl rfl (aOp_eql rfl rfl (r := false) (decide_eq_false (by omega))) rfl ?_
          iterate 2 refine GoR.op rfl rfl rfl rfl ?_
          refine GoR.op rfl rfl (aOp_eql rfl rfl (r := true) (decide_eq_true (by omega))) rfl ?_
          iterate 2 refine GoR.op rfl rfl rfl rfl ?_
          refine GoR.op rfl rfl (aOp_eql rfl rfl (r := true) (decide_eq_true (by omega))) rfl ?_
          iterate 4 refine GoR.op rfl rfl rfl rfl ?_
          refine GoR.jump JA_ok rfl rfl (aOp_callFunc aFunc21 rfl) (v := .bool true) rfl rfl ?_
          iterate 2 refine GoR.op rfl rfl rfl rfl ?_
          refine GoR.end ?_
          exact Go.ret noJ_ok (ret_end (aResult_of Try.func6 rfl rfl) ⟨rfl, e0⟩)
      | none =>
        rw [o1] at ha1 ha2
        cases o2 : whenV F (allHeaps F) with
        | some k2 =>
          rw [o2] at ha3 ha4
          subst ha1 ha2 ha3 ha4
          dsimp only [whenD, whenE]
          refine Go.seq noJ_ok ?_
          refine Go.region noJ_ok rfl ?_
          refine GoR.op rfl rfl (aOp_lss rfl rfl (r := false) (decide_eq_false (by omega))) rfl ?_
          refine GoR.end ?_
          refine Go.seq noJ_ok ?_
          refine Go.cond noJ_ok (b := false) rfl ?_
          refine Go.code noJ_ok ?_
          iterate 2 refine Go.seq noJ_ok ?_
          refine Go.region noJ_ok rfl ?_
          refine GoR.op rfl rfl rfl rfl ?_
          refine GoR.op rfl rfl (aOp_lss rfl rfl (r := false) (decide_eq_false (by omega))) rfl ?_
          iterate 2 refine GoR.op rfl rfl rfl rfl ?_
          refine GoR.op rfl rfl (fa27_0 rfl) rfl ?_
          refine GoR.op rfl rfl (ld22 rfl f0 rfl) rfl ?_
          refine GoR.op rfl rfl (aOp_lenSlice Try.underlying22 rfl hl1) rfl ?_
          refine GoR.op rfl rfl (aOp_geq rfl rfl (r := false) (decide_eq_false (by omega))) rfl ?_
          iterate 3 refine GoR.op rfl rfl rfl rfl ?_
          refine GoR.op rfl rfl (aOp_eql rfl rfl (r := false) (decide_eq_false (by omega))) rfl ?_
          refine GoR.op rfl rfl rfl rfl ?_
          refine GoR.op rfl rfl (aOp_geq rfl rfl (r := false) (decide_eq_false (by omega))) rfl ?_
          refine GoR.op rfl rfl (aOp_neqBool rfl rfl Try.underlying4 (r := false) rfl) rfl ?_
          iterate 3 refine GoR.op rfl rfl rfl rfl ?_
          refine GoR.op rfl rfl (aOp_eql rfl rfl (r := false) (decide_eq_false (by omega))) rfl ?_
          refine GoR.op rfl rfl rfl rfl ?_
          iterate 3 refine GoR.skip rfl rfl rfl ?_
          iterate 4 refine GoR.op rfl rfl rfl rfl ?_
          refine GoR.op rfl rfl (aOp_neq rfl rfl (r := true) (decide_eq_false (by omega))) rfl ?_
          iterate 2 refine GoR.op rfl rfl rfl rfl ?_
          refine GoR.op rfl rfl (aOp_neq rfl rfl (r := false) (decide_eq_true (by omega))) rfl ?_
          iterate 2 refine GoR.op rfl rfl rfl rfl ?_
          refine GoR.op rfl rfl (aOp_neq rfl rfl (r := false) (decide_eq_true (by omega))) rfl ?_
          iterate 3 refine GoR.op rfl rfl rfl rfl ?_
          refine GoR.end ?_
          refine Go.cond noJ_ok (b := false) rfl ?_
          refine Go.code noJ_ok ?_
          refine Go.seq noJ_ok ?_
          refine Go.region JA_ok rfl ?_
          refine GoR.op rfl rfl rfl rfl ?_
          refine GoR.op rfl rfl (aOp_eql rfl rfl (r := true) (decide_eq_true (by omega))) rfl ?_
          refine GoR.op rfl rfl rfl rfl ?_
          refine GoR.op rfl rfl (aOp_geq rfl rfl (r := true) (decide_eq_true (by simp))) rfl ?_
          refine GoR.op rfl rfl (aOp_eqlBool rfl rfl Try.underlying4 (r := true) rfl) rfl ?_
          iterate 2 refine GoR.op rfl rfl rfl rfl ?_
          refine GoR.op rfl rfl (aOp_neq rfl rfl (r := false) (decide_eq_true (by omega))) rfl ?_
          iterate 3 refine GoR.op rfl rfl rfl rfl ?_
          refine GoR.op rfl rfl (aOp_eql rfl rfl (r := true) (decide_eq_true (by omega))) rfl ?_
          iterate 4 refine GoR.op rfl rfl rfl rfl ?_
          refine GoR.op rfl rfl (aOp_eql rfl rfl (r := true) (decide_eq_true (by omega))) rfl ?_
          refine GoR.op rfl rfl rfl rfl ?_
          iterate 6 refine GoR.skip rfl rfl rfl ?_
          iterate 3 refine GoR.op rfl rfl rfl rfl ?_
          refine GoR.jump JA_ok rfl rfl (aOp_callFunc aFunc21 rfl) (v := .bool true) rfl rfl ?_
          iterate 2 refine GoR.op rfl rfl rfl rfl ?_
          refine GoR.end ?_
          exact Go.ret noJ_ok (ret_end (aResult_of Try.func6 rfl rfl) ⟨rfl, e0⟩)
        | none =>
          rw [o2] at ha3 ha4
          subst ha1 ha2 ha3 ha4
          dsimp only [whenD, whenE]
          refine Go.seq noJ_ok ?_
          refine Go.region noJ_ok rfl ?_
          refine GoR.op rfl rfl (aOp_lss rfl rfl (r := false) (decide_eq_false (by omega))) rfl ?_
          refine GoR.end ?_
          refine Go.seq noJ_ok ?_
          refine Go.cond noJ_ok (b := false) rfl ?_
          refine Go.code noJ_ok ?_
          iterate 2 refine Go.seq noJ_ok ?_
          refine Go.region noJ_ok rfl ?_
          refine GoR.op rfl rfl rfl rfl ?_
          refine GoR.op rfl rfl (aOp_lss rfl rfl (r := false) (decide_eq_false (by omega))) rfl ?_
          iterate 2 refine GoR.op rfl rfl rfl rfl ?_
          refine GoR.op rfl rfl (fa27_0 rfl) rfl ?_
          refine GoR.op rfl rfl (ld22 rfl f0 rfl) rfl ?_
          refine GoR.op rfl rfl (aOp_lenSlice Try.underlying22 rfl hl1) rfl ?_
          refine GoR.op rfl rfl (aOp_geq rfl rfl (r := false) (decide_eq_false (by omega))) rfl ?_
          iterate 3 refine GoR.op rfl rfl rfl rfl ?_
          refine GoR.op rfl rfl (aOp_eql rfl rfl (r := false) (decide_eq_false (by omega))) rfl ?_
          refine GoR.op rfl rfl rfl rfl ?_
          refine GoR.op rfl rfl (aOp_geq rfl rfl (r := false) (decide_eq_false (by omega))) rfl ?_
          refine GoR.op rfl rfl (aOp_neqBool rfl rfl Try.underlying4 (r := false) rfl) rfl ?_
          iterate 3 refine GoR.op rfl rfl rfl rfl ?_
          refine GoR.op rfl rfl (aOp_eql rfl rfl (r := false) (decide_eq_false (by omega))) rfl ?_
          refine GoR.op rfl rfl rfl rfl ?_
          iterate 3 refine GoR.skip rfl rfl rfl ?_
          iterate 4 refine GoR.op rfl rfl rfl rfl ?_
          refine GoR.op rfl rfl (aOp_neq rfl rfl (r := true) (decide_eq_false (by omega))) rfl ?_
          iterate 2 refine GoR.op rfl rfl rfl rfl ?_
          refine GoR.op rfl rfl (aOp_neq rfl rfl (r := false) (decide_eq_true (by omega))) rfl ?_
          iterate 2 refine GoR.op rfl rfl rfl rfl ?_
          refine GoR.op rfl rfl (aOp_neq rfl rfl (r := false) (decide_eq_true (by omega))) rfl ?_
          iterate 3 refine GoR.op rfl rfl rfl rfl ?_
          refine GoR.end ?_
          refine Go.cond noJ_ok (b := false) rfl ?_
          refine Go.code noJ_ok ?_
          refine Go.seq noJ_ok ?_
          refine Go.region JA_ok rfl ?_
          refine GoR.op rfl rfl rfl rfl ?_
          refine GoR.op rfl rfl (aOp_eql rfl rfl (r := false) (decide_eq_false (by omega))) rfl ?_
          refine GoR.op rfl rfl rfl rfl ?_
          refine GoR.op rfl rfl (aOp_geq rfl rfl (r := false) (decide_eq_false (by omega))) rfl ?_
          refine GoR.op rfl rfl (aOp_eqlBool rfl rfl Try.underlying4 (r := true) rfl) rfl ?_
          iterate 2 refine GoR.op rfl rfl rfl rfl ?_
          refine GoR.op rfl rfl (aOp_neq rfl rfl (r := true) (decide_eq_false (by omega))) rfl ?_
          refine GoR.op rfl rfl rfl rfl ?_
          iterate 3 refine GoR.skip rfl rfl rfl ?_
          iterate 4 refine GoR.op rfl rfl rfl rfl ?_
          refine GoR.op rfl rfl (aOp_eql rfl rfl (r := false) (decide_eq_false (by omega))) rfl ?_
          iterate 2 refine GoR.op rfl rfl rfl rfl ?_
          refine GoR.op rfl rfl (aOp_eql rfl rfl (r := true) (decide_eq_true (by omega))) rfl ?_
          iterate 2 refine GoR.op rfl rfl rfl rfl ?_
          refine GoR.op rfl rfl (aOp_eql rfl rfl (r := true) (decide_eq_true (by omega))) rfl ?_
          iterate 4 refine GoR.op rfl rfl rfl rfl ?_
          refine GoR.jump JA_ok rfl rfl (aOp_callFunc aFunc21 rfl) (v := .bool true) rfl rfl ?_
          iterate 2 refine GoR.op rfl rfl rfl rfl ?_
          refine GoR.end ?_
          exact Go.ret noJ_ok (ret_end (aResult_of Try.func6 rfl rfl) ⟨rfl, e0⟩)
end Go.Proofs.Ytmdheijpnlonoaa
