/-
  No cell of these rows narrows 'for every input' (looked for: loops, veiled, ifaces, maps, wideKeys, modest, calm, conditions, laid).
  DERIVED. THE GIVEN ROWS OF THIS SEAT. 8 by the template 'for every input the law returns true; each argument reads behind the call as it read before'; 0 by the template 'total and deterministic' (their statements: YtobhkdgcciolmaaGreatTotals.lean).
  GIVEN WITH THE SEED: the statements are not yours to turn. If you find one false, say at which input.
  Laid BY PROGRAM, IN A SANDBOX (cutbox-rows.mjs): the forced cells as the released guide's own fill.sh prints them over the translation 635bcff2b5bb4a67… (all of the seat's roots in one cut). By AI agents, Wed Nov 11 2026. No macro, syntax, notation, axiom, sorry.
-/
import Derived.Test.YtobhkdgcciolmaaGreatChecked
import GoSem.Claim
import GoSem.ClaimJoined
import GoSem.ClaimMapViews
import Derived.JoinedTies
import Derived.KernelRfl
namespace Go.Proofs.YtobhkdgcciolmaaGreat
/- THE CELL 'sum', in the pinned program and in every row, IS THE sha256 OF THE DUMP (.gsa) THAT YtobhkdgcciolmaaGreatProg.lean LOADS. Nothing in Lean hashes anything: it is a label: what it is worth is what the hold of that sum in a sandbox is worth. -/
noncomputable def Tryz.pinned : Pinned := { name := "ytobhkdgcciolmaagreat", sum := "635bcff2b5bb4a6721f7b0f54b0d6eb15dc479445a305a925792896ec5a183c2", checked := Tryz.checked }
namespace Rows
def none {H : Type} : Left H := { results := [], args := [] }

/-- 'bogworkslaw09.ClampTells': WHATEVER THE INPUT: true; the input reads as it did. -/
def clampTellsSpec : ChangeSpec := { name := "clampTells", fn := fun _ => fun
  | [d1, d2, d3] => { results := [.lit (.bool true)], args := [d1, d2, d3] }
  | _ => none }
def clampTellsRow : OpenClaim := { program := "ytobhkdgcciolmaagreat", sum := "635bcff2b5bb4a6721f7b0f54b0d6eb15dc479445a305a925792896ec5a183c2", func := "bogworks/bogworkslaw09.ClampTells", spec := "clampTells", unfollowed := true, recurses := true, plainKeys := false, apart := false }
def ClampTellsSaid : Prop := clampTellsRow.holds Tryz.pinned (OpenSpec.ofChange clampTellsSpec)

/-- ITS FALSE NEIGHBOUR: 'it returns false'. Refute it at one input. -/
def clampTellsWrong : ChangeSpec := { name := "clampTells", fn := fun _ => fun
  | [d1, d2, d3] => { results := [.lit (.bool false)], args := [d1, d2, d3] }
  | _ => none }
def ClampTellsWrongFalsely : Prop := clampTellsRow.holds Tryz.pinned (OpenSpec.ofChange clampTellsWrong)

/-- 'bogworkslaw09.ClampSets': WHATEVER THE INPUT: true; the input reads as it did. -/
def clampSetsSpec : ChangeSpec := { name := "clampSets", fn := fun _ => fun
  | [d1, d2] => { results := [.lit (.bool true)], args := [d1, d2] }
  | _ => none }
def clampSetsRow : OpenClaim := { program := "ytobhkdgcciolmaagreat", sum := "635bcff2b5bb4a6721f7b0f54b0d6eb15dc479445a305a925792896ec5a183c2", func := "bogworks/bogworkslaw09.ClampSets", spec := "clampSets", unfollowed := true, recurses := true, plainKeys := false, apart := false }
def ClampSetsSaid : Prop := clampSetsRow.holds Tryz.pinned (OpenSpec.ofChange clampSetsSpec)

/-- ITS FALSE NEIGHBOUR: 'it returns false'. Refute it at one input. -/
def clampSetsWrong : ChangeSpec := { name := "clampSets", fn := fun _ => fun
  | [d1, d2] => { results := [.lit (.bool false)], args := [d1, d2] }
  | _ => none }
def ClampSetsWrongFalsely : Prop := clampSetsRow.holds Tryz.pinned (OpenSpec.ofChange clampSetsWrong)

/-- 'bogworkslaw09.ClampTrue': WHATEVER THE INPUT: true; the input reads as it did. -/
def clampTrueSpec : ChangeSpec := { name := "clampTrue", fn := fun _ => fun
  | [d1, d2, d3] => { results := [.lit (.bool true)], args := [d1, d2, d3] }
  | _ => none }
def clampTrueRow : OpenClaim := { program := "ytobhkdgcciolmaagreat", sum := "635bcff2b5bb4a6721f7b0f54b0d6eb15dc479445a305a925792896ec5a183c2", func := "bogworks/bogworkslaw09.ClampTrue", spec := "clampTrue", unfollowed := true, recurses := true, plainKeys := false, apart := false }
def ClampTrueSaid : Prop := clampTrueRow.holds Tryz.pinned (OpenSpec.ofChange clampTrueSpec)

/-- ITS FALSE NEIGHBOUR: 'it returns false'. Refute it at one input. -/
def clampTrueWrong : ChangeSpec := { name := "clampTrue", fn := fun _ => fun
  | [d1, d2, d3] => { results := [.lit (.bool false)], args := [d1, d2, d3] }
  | _ => none }
def ClampTrueWrongFalsely : Prop := clampTrueRow.holds Tryz.pinned (OpenSpec.ofChange clampTrueWrong)

/-- 'bogworkslaw09.ClampEnds': WHATEVER THE INPUT: true; the input reads as it did. -/
def clampEndsSpec : ChangeSpec := { name := "clampEnds", fn := fun _ => fun
  | [d1, d2, d3] => { results := [.lit (.bool true)], args := [d1, d2, d3] }
  | _ => none }
def clampEndsRow : OpenClaim := { program := "ytobhkdgcciolmaagreat", sum := "635bcff2b5bb4a6721f7b0f54b0d6eb15dc479445a305a925792896ec5a183c2", func := "bogworks/bogworkslaw09.ClampEnds", spec := "clampEnds", unfollowed := true, recurses := true, plainKeys := false, apart := false }
def ClampEndsSaid : Prop := clampEndsRow.holds Tryz.pinned (OpenSpec.ofChange clampEndsSpec)

/-- ITS FALSE NEIGHBOUR: 'it returns false'. Refute it at one input. -/
def clampEndsWrong : ChangeSpec := { name := "clampEnds", fn := fun _ => fun
  | [d1, d2, d3] => { results := [.lit (.bool false)], args := [d1, d2, d3] }
  | _ => none }
def ClampEndsWrongFalsely : Prop := clampEndsRow.holds Tryz.pinned (OpenSpec.ofChange clampEndsWrong)

/-- 'bogworkslaw09.ClampAll': WHATEVER THE INPUT: true; the input reads as it did. -/
def clampAllSpec : ChangeSpec := { name := "clampAll", fn := fun _ => fun
  | [d] => { results := [.lit (.bool true)], args := [d] }
  | _ => none }
def clampAllRow : OpenClaim := { program := "ytobhkdgcciolmaagreat", sum := "635bcff2b5bb4a6721f7b0f54b0d6eb15dc479445a305a925792896ec5a183c2", func := "bogworks/bogworkslaw09.ClampAll", spec := "clampAll", unfollowed := true, recurses := true, plainKeys := false, apart := false }
def ClampAllSaid : Prop := clampAllRow.holds Tryz.pinned (OpenSpec.ofChange clampAllSpec)

/-- ITS FALSE NEIGHBOUR: 'it returns false'. Refute it at one input. -/
def clampAllWrong : ChangeSpec := { name := "clampAll", fn := fun _ => fun
  | [d] => { results := [.lit (.bool false)], args := [d] }
  | _ => none }
def ClampAllWrongFalsely : Prop := clampAllRow.holds Tryz.pinned (OpenSpec.ofChange clampAllWrong)

/-- 'bogworkslaw09.ClampShare': WHATEVER THE INPUT: true; the input reads as it did. -/
def clampShareSpec : ChangeSpec := { name := "clampShare", fn := fun _ => fun
  | [d1, d2, d3] => { results := [.lit (.bool true)], args := [d1, d2, d3] }
  | _ => none }
def clampShareRow : OpenClaim := { program := "ytobhkdgcciolmaagreat", sum := "635bcff2b5bb4a6721f7b0f54b0d6eb15dc479445a305a925792896ec5a183c2", func := "bogworks/bogworkslaw09.ClampShare", spec := "clampShare", unfollowed := true, recurses := true, plainKeys := false, apart := false }
def ClampShareSaid : Prop := clampShareRow.holds Tryz.pinned (OpenSpec.ofChange clampShareSpec)

/-- ITS FALSE NEIGHBOUR: 'it returns false'. Refute it at one input. -/
def clampShareWrong : ChangeSpec := { name := "clampShare", fn := fun _ => fun
  | [d1, d2, d3] => { results := [.lit (.bool false)], args := [d1, d2, d3] }
  | _ => none }
def ClampShareWrongFalsely : Prop := clampShareRow.holds Tryz.pinned (OpenSpec.ofChange clampShareWrong)

/-- 'bogworkslaw09.ClampClash': WHATEVER THE INPUT: true; the input reads as it did. -/
def clampClashSpec : ChangeSpec := { name := "clampClash", fn := fun _ => fun
  | [d1, d2] => { results := [.lit (.bool true)], args := [d1, d2] }
  | _ => none }
def clampClashRow : OpenClaim := { program := "ytobhkdgcciolmaagreat", sum := "635bcff2b5bb4a6721f7b0f54b0d6eb15dc479445a305a925792896ec5a183c2", func := "bogworks/bogworkslaw09.ClampClash", spec := "clampClash", unfollowed := true, recurses := true, plainKeys := false, apart := false }
def ClampClashSaid : Prop := clampClashRow.holds Tryz.pinned (OpenSpec.ofChange clampClashSpec)

/-- ITS FALSE NEIGHBOUR: 'it returns false'. Refute it at one input. -/
def clampClashWrong : ChangeSpec := { name := "clampClash", fn := fun _ => fun
  | [d1, d2] => { results := [.lit (.bool false)], args := [d1, d2] }
  | _ => none }
def ClampClashWrongFalsely : Prop := clampClashRow.holds Tryz.pinned (OpenSpec.ofChange clampClashWrong)

/-- 'bogworkslaw09.ClampMore': WHATEVER THE INPUT: true; the input reads as it did. -/
def clampMoreSpec : ChangeSpec := { name := "clampMore", fn := fun _ => fun
  | [d1, d2, d3, d4, d5] => { results := [.lit (.bool true)], args := [d1, d2, d3, d4, d5] }
  | _ => none }
def clampMoreRow : OpenClaim := { program := "ytobhkdgcciolmaagreat", sum := "635bcff2b5bb4a6721f7b0f54b0d6eb15dc479445a305a925792896ec5a183c2", func := "bogworks/bogworkslaw09.ClampMore", spec := "clampMore", unfollowed := true, recurses := true, plainKeys := false, apart := false }
def ClampMoreSaid : Prop := clampMoreRow.holds Tryz.pinned (OpenSpec.ofChange clampMoreSpec)

/-- ITS FALSE NEIGHBOUR: 'it returns false'. Refute it at one input. -/
def clampMoreWrong : ChangeSpec := { name := "clampMore", fn := fun _ => fun
  | [d1, d2, d3, d4, d5] => { results := [.lit (.bool false)], args := [d1, d2, d3, d4, d5] }
  | _ => none }
def ClampMoreWrongFalsely : Prop := clampMoreRow.holds Tryz.pinned (OpenSpec.ofChange clampMoreWrong)

/- THE SECOND FORM. 'bulk': how many values and letters a reading holds, each counted each time it is reached (what is shared counts as often as it is met; a slice's spare places count too). A statement '..UptoSaid' is the law's where the arguments, and the package variables that the reading takes, are together of bulk at most 1048576: NARROWER than '..Said'. Prove '..Said' where nothing that the law and all that it calls make is longer than what came in: it says more and counts as full. Else prove '..UptoSaid'. A law counts once. -/
mutual
def uptoBulk {H : Type} : DataW H → Nat
  | .lit (.string bytes) => bytes.length + 1
  | .lit _ => 1
  | .nil => 1
  | .ptr d => uptoBulk d + 1
  | .slice elems spare => uptoBulkAll elems + uptoBulkAll spare + 1
  | .agg parts => uptoBulkAll parts + 1
  | .iface _ d => uptoBulk d + 1
  | .map entries => uptoBulkEntries entries + 1
  | .held _ => 1
def uptoBulkAll {H : Type} : List (DataW H) → Nat
  | [] => 0
  | d :: r => uptoBulk d + uptoBulkAll r
def uptoBulkEntries {H : Type} : List (Lit × DataW H) → Nat
  | [] => 0
  | x :: r => uptoBulkEntry x + uptoBulkEntries r
def uptoBulkEntry {H : Type} : Lit × DataW H → Nat
  | (.string bytes, d) => bytes.length + uptoBulk d + 1
  | (_, d) => uptoBulk d + 1
 end
def uptoSmall : (H : Type) → List (DataW H) → Bool := fun _ ds => decide (uptoBulkAll ds ≤ 1048576)
def OpenSpec.upto (s : _root_.Go.ChangeSpec) : _root_.Go.OpenSpec := { _root_.Go.OpenSpec.ofChange s with cond := some uptoSmall }

/-- 'bogworkslaw09.ClampTells', WHERE WHAT IT READS IS OF BULK AT MOST 1048576: true; the input reads as it did. -/
def clampTellsUptoRow : OpenClaim := { program := "ytobhkdgcciolmaagreat", sum := "635bcff2b5bb4a6721f7b0f54b0d6eb15dc479445a305a925792896ec5a183c2", func := "bogworks/bogworkslaw09.ClampTells", spec := "clampTells", unfollowed := true, recurses := true, plainKeys := false, apart := false, narrowed := true }
def ClampTellsUptoSaid : Prop := clampTellsUptoRow.holds Tryz.pinned (OpenSpec.upto clampTellsSpec)

/-- 'bogworkslaw09.ClampSets', WHERE WHAT IT READS IS OF BULK AT MOST 1048576: true; the input reads as it did. -/
def clampSetsUptoRow : OpenClaim := { program := "ytobhkdgcciolmaagreat", sum := "635bcff2b5bb4a6721f7b0f54b0d6eb15dc479445a305a925792896ec5a183c2", func := "bogworks/bogworkslaw09.ClampSets", spec := "clampSets", unfollowed := true, recurses := true, plainKeys := false, apart := false, narrowed := true }
def ClampSetsUptoSaid : Prop := clampSetsUptoRow.holds Tryz.pinned (OpenSpec.upto clampSetsSpec)

/-- 'bogworkslaw09.ClampTrue', WHERE WHAT IT READS IS OF BULK AT MOST 1048576: true; the input reads as it did. -/
def clampTrueUptoRow : OpenClaim := { program := "ytobhkdgcciolmaagreat", sum := "635bcff2b5bb4a6721f7b0f54b0d6eb15dc479445a305a925792896ec5a183c2", func := "bogworks/bogworkslaw09.ClampTrue", spec := "clampTrue", unfollowed := true, recurses := true, plainKeys := false, apart := false, narrowed := true }
def ClampTrueUptoSaid : Prop := clampTrueUptoRow.holds Tryz.pinned (OpenSpec.upto clampTrueSpec)

/-- 'bogworkslaw09.ClampEnds', WHERE WHAT IT READS IS OF BULK AT MOST 1048576: true; the input reads as it did. -/
def clampEndsUptoRow : OpenClaim := { program := "ytobhkdgcciolmaagreat", sum := "635bcff2b5bb4a6721f7b0f54b0d6eb15dc479445a305a925792896ec5a183c2", func := "bogworks/bogworkslaw09.ClampEnds", spec := "clampEnds", unfollowed := true, recurses := true, plainKeys := false, apart := false, narrowed := true }
def ClampEndsUptoSaid : Prop := clampEndsUptoRow.holds Tryz.pinned (OpenSpec.upto clampEndsSpec)

/-- 'bogworkslaw09.ClampAll', WHERE WHAT IT READS IS OF BULK AT MOST 1048576: true; the input reads as it did. -/
def clampAllUptoRow : OpenClaim := { program := "ytobhkdgcciolmaagreat", sum := "635bcff2b5bb4a6721f7b0f54b0d6eb15dc479445a305a925792896ec5a183c2", func := "bogworks/bogworkslaw09.ClampAll", spec := "clampAll", unfollowed := true, recurses := true, plainKeys := false, apart := false, narrowed := true }
def ClampAllUptoSaid : Prop := clampAllUptoRow.holds Tryz.pinned (OpenSpec.upto clampAllSpec)

/-- 'bogworkslaw09.ClampShare', WHERE WHAT IT READS IS OF BULK AT MOST 1048576: true; the input reads as it did. -/
def clampShareUptoRow : OpenClaim := { program := "ytobhkdgcciolmaagreat", sum := "635bcff2b5bb4a6721f7b0f54b0d6eb15dc479445a305a925792896ec5a183c2", func := "bogworks/bogworkslaw09.ClampShare", spec := "clampShare", unfollowed := true, recurses := true, plainKeys := false, apart := false, narrowed := true }
def ClampShareUptoSaid : Prop := clampShareUptoRow.holds Tryz.pinned (OpenSpec.upto clampShareSpec)

/-- 'bogworkslaw09.ClampClash', WHERE WHAT IT READS IS OF BULK AT MOST 1048576: true; the input reads as it did. -/
def clampClashUptoRow : OpenClaim := { program := "ytobhkdgcciolmaagreat", sum := "635bcff2b5bb4a6721f7b0f54b0d6eb15dc479445a305a925792896ec5a183c2", func := "bogworks/bogworkslaw09.ClampClash", spec := "clampClash", unfollowed := true, recurses := true, plainKeys := false, apart := false, narrowed := true }
def ClampClashUptoSaid : Prop := clampClashUptoRow.holds Tryz.pinned (OpenSpec.upto clampClashSpec)

/-- 'bogworkslaw09.ClampMore', WHERE WHAT IT READS IS OF BULK AT MOST 1048576: true; the input reads as it did. -/
def clampMoreUptoRow : OpenClaim := { program := "ytobhkdgcciolmaagreat", sum := "635bcff2b5bb4a6721f7b0f54b0d6eb15dc479445a305a925792896ec5a183c2", func := "bogworks/bogworkslaw09.ClampMore", spec := "clampMore", unfollowed := true, recurses := true, plainKeys := false, apart := false, narrowed := true }
def ClampMoreUptoSaid : Prop := clampMoreUptoRow.holds Tryz.pinned (OpenSpec.upto clampMoreSpec)

end Rows
end Go.Proofs.YtobhkdgcciolmaaGreat
