import Derived.Test.YtidfcmjlfadieaaY
import Derived.RowKit3
set_option linter.unusedSimpArgs false
namespace Go.AbsE
open Go Go.RowKit

theorem AH.get_h0 (b : Nat) : h0.get b = none := by show Tr.get Tr.leaf (pth b) = none; exact Tr.get_leaf _

theorem HR.start (P : Program) (W : World) : HR P (Base.all W) ⟨fun _ => none, fun _ => none⟩ h0 W :=
  { dom := fun _ _ q => (by cases q), blk := fun b o q => (by rw [AH.get_h0] at q; cases q), inj := fun b b' B c c' o o' q => (by rw [AH.get_h0] at q; cases q),
    imm := fun _ _ q => (by cases q), os := rfl, tape := rfl, output := rfl, size := Nat.le_refl _, old := fun _ _ => rfl, young := fun i O hi hO => (by have h1 := (Array.getElem?_eq_some_iff.1 hO).1; exact absurd h1 (Nat.not_lt.2 hi)) }

theorem HR.grown {P : Program} {w0 : World} {e : Env} {h : AH} {W : World} (r : HR P (Base.all w0) e h W) : Grown w0 W := by
  obtain ⟨s1, s2, s3, s4, s5, s6⟩ := r.isStill
  refine ⟨⟨s1, s3, fun i hi => ?_⟩, fun a => ?_, s4⟩
  · rw [s5 i hi]
    have hs : ∃ o, w0.heap[i]? = some o := ⟨_, Array.getElem?_eq_getElem hi⟩
    obtain ⟨o, ho⟩ := hs
    rw [ho]
    cases o <;> first | rfl | exact ⟨rfl, rfl, rfl, fun _ _ => rfl⟩ | exact .inr ⟨rfl, rfl⟩
  · by_cases ha : a.block < w0.heap.size
    · simp only [World.frozen?, s5 _ ha]
    · have h0 : w0.heap[a.block]? = none := by simp; omega
      have h1 : w0.frozen? a = false := by simp [World.frozen?, h0]
      rw [h1]
      cases hq : W.heap[a.block]? with
      | none => simp [World.frozen?, hq]
      | some O =>
        have hy := s6 a.block O (by omega) hq
        cases O with
        | cells c el fr =>
          have hy : fr = (0, 0) := hy
          subst hy
          simp [World.frozen?, hq]
        | _ => simp [World.frozen?, hq]

/-- **A CLOSED CALL WITHOUT ARGUMENTS THAT ANSWERS A PLAIN VALUE: whatever the world.** -/
theorem calls_closed {P : Program} {J : Jump} (hJ : JOk P J) {fuel : Nat} {f : FuncId} {m : AM} {b : Bool} {h' : AH} (k : aCall P J fuel f [] h0 = some m) (kd : aDone P f m = some (.bool b, h')) (W : World) :
    Calls P f #[] W fun en W' => en = .returned (.bool b) ∧ Grown W W' := by
  refine (calls_of_aCall hJ (HR.start P W) .nil k kd).mono ?_
  rintro en W' ⟨e', V, rfl, hv, hr⟩
  cases hv
  exact ⟨rfl, hr.grown⟩
end Go.AbsE
