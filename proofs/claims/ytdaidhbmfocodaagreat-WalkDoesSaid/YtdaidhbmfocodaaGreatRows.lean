/-
  No cell of these rows narrows 'for every input' (looked for: loops, veiled, ifaces, maps, wideKeys, modest, calm, conditions, laid).
  DERIVED. THE GIVEN ROWS OF THIS SEAT. 4 by the template 'for every input the law returns true; each argument reads behind the call as it read before'; 0 by the template 'total and deterministic' (their statements: YtdaidhbmfocodaaGreatTotals.lean).
  GIVEN WITH THE SEED: the statements are not yours to turn. If you find one false, say at which input.
  Laid BY PROGRAM, IN A SANDBOX (cutbox-rows.mjs): the forced cells as the released guide's own fill.sh prints them over the translation 3d658049a37c927d… (all of the seat's roots in one cut). By AI agents, Wed Nov 11 2026. No macro, syntax, notation, axiom, sorry.
-/
import Derived.Test.YtdaidhbmfocodaaGreatChecked
import GoSem.Claim
import GoSem.ClaimJoined
import GoSem.ClaimMapViews
import Derived.JoinedTies
import Derived.KernelRfl
namespace Go.Proofs.YtdaidhbmfocodaaGreat
/- THE CELL 'sum', in the pinned program and in every row, IS THE sha256 OF THE DUMP (.gsa) THAT YtdaidhbmfocodaaGreatProg.lean LOADS. Nothing in Lean hashes anything: it is a label: what it is worth is what the hold of that sum in a sandbox is worth. -/
noncomputable def Tryz.pinned : Pinned := { name := "ytdaidhbmfocodaagreat", sum := "3d658049a37c927db4ff5191ec307ad2943132d51c18233ee367989c71e181a1", checked := Tryz.checked }
namespace Rows
def none {H : Type} : Left H := { results := [], args := [] }

/-- 'scionrylaw11.WalkNames': WHATEVER THE INPUT: true; the input reads as it did. -/
def walkNamesSpec : ChangeSpec := { name := "walkNames", fn := fun _ => fun
  | [] => { results := [.lit (.bool true)], args := [] }
  | _ => none }
def walkNamesRow : OpenClaim := { program := "ytdaidhbmfocodaagreat", sum := "3d658049a37c927db4ff5191ec307ad2943132d51c18233ee367989c71e181a1", func := "scionry/scionrylaw11.WalkNames", spec := "walkNames", unfollowed := true, recurses := true, apart := false }
def WalkNamesSaid : Prop := walkNamesRow.holds Tryz.pinned (OpenSpec.ofChange walkNamesSpec)

/-- ITS FALSE NEIGHBOUR: 'it returns false'. Refute it at one input. -/
def walkNamesWrong : ChangeSpec := { name := "walkNames", fn := fun _ => fun
  | [] => { results := [.lit (.bool false)], args := [] }
  | _ => none }
def WalkNamesWrongFalsely : Prop := walkNamesRow.holds Tryz.pinned (OpenSpec.ofChange walkNamesWrong)

/-- 'scionrylaw11.WalkDoes': WHATEVER THE INPUT: true; the input reads as it did. -/
def walkDoesSpec : ChangeSpec := { name := "walkDoes", fn := fun _ => fun
  | [d1, d2, d3, d4] => { results := [.lit (.bool true)], args := [d1, d2, d3, d4] }
  | _ => none }
def walkDoesRow : OpenClaim := { program := "ytdaidhbmfocodaagreat", sum := "3d658049a37c927db4ff5191ec307ad2943132d51c18233ee367989c71e181a1", func := "scionry/scionrylaw11.WalkDoes", spec := "walkDoes", unfollowed := true, recurses := true, apart := false }
def WalkDoesSaid : Prop := walkDoesRow.holds Tryz.pinned (OpenSpec.ofChange walkDoesSpec)

/-- ITS FALSE NEIGHBOUR: 'it returns false'. Refute it at one input. -/
def walkDoesWrong : ChangeSpec := { name := "walkDoes", fn := fun _ => fun
  | [d1, d2, d3, d4] => { results := [.lit (.bool false)], args := [d1, d2, d3, d4] }
  | _ => none }
def WalkDoesWrongFalsely : Prop := walkDoesRow.holds Tryz.pinned (OpenSpec.ofChange walkDoesWrong)

/-- 'scionrylaw11.WalkNodes': WHATEVER THE INPUT: true; the input reads as it did. -/
def walkNodesSpec : ChangeSpec := { name := "walkNodes", fn := fun _ => fun
  | [d1, d2] => { results := [.lit (.bool true)], args := [d1, d2] }
  | _ => none }
def walkNodesRow : OpenClaim := { program := "ytdaidhbmfocodaagreat", sum := "3d658049a37c927db4ff5191ec307ad2943132d51c18233ee367989c71e181a1", func := "scionry/scionrylaw11.WalkNodes", spec := "walkNodes", unfollowed := true, recurses := true, apart := false }
def WalkNodesSaid : Prop := walkNodesRow.holds Tryz.pinned (OpenSpec.ofChange walkNodesSpec)

/-- ITS FALSE NEIGHBOUR: 'it returns false'. Refute it at one input. -/
def walkNodesWrong : ChangeSpec := { name := "walkNodes", fn := fun _ => fun
  | [d1, d2] => { results := [.lit (.bool false)], args := [d1, d2] }
  | _ => none }
def WalkNodesWrongFalsely : Prop := walkNodesRow.holds Tryz.pinned (OpenSpec.ofChange walkNodesWrong)

/-- 'scionrylaw11.WalkWider': WHATEVER THE INPUT: true; the input reads as it did. -/
def walkWiderSpec : ChangeSpec := { name := "walkWider", fn := fun _ => fun
  | [d1, d2, d3, d4, d5, d6] => { results := [.lit (.bool true)], args := [d1, d2, d3, d4, d5, d6] }
  | _ => none }
def walkWiderRow : OpenClaim := { program := "ytdaidhbmfocodaagreat", sum := "3d658049a37c927db4ff5191ec307ad2943132d51c18233ee367989c71e181a1", func := "scionry/scionrylaw11.WalkWider", spec := "walkWider", unfollowed := true, recurses := true, apart := false }
def WalkWiderSaid : Prop := walkWiderRow.holds Tryz.pinned (OpenSpec.ofChange walkWiderSpec)

/-- ITS FALSE NEIGHBOUR: 'it returns false'. Refute it at one input. -/
def walkWiderWrong : ChangeSpec := { name := "walkWider", fn := fun _ => fun
  | [d1, d2, d3, d4, d5, d6] => { results := [.lit (.bool false)], args := [d1, d2, d3, d4, d5, d6] }
  | _ => none }
def WalkWiderWrongFalsely : Prop := walkWiderRow.holds Tryz.pinned (OpenSpec.ofChange walkWiderWrong)

/- THE SECOND FORM. 'bulk': how many values and letters a reading holds, each counted each time it is reached (what is shared counts as often as it is met; a slice's spare places count too). A statement '..UptoSaid' is the law's where the arguments, and the package variables that the reading takes, are together of bulk at most 1048576: NARROWER than '..Said'. Prove '..Said' where nothing that the law and all that it calls make is longer than what came in: it says more and counts as full. Else prove '..UptoSaid'. A law counts once. -/
mutual
def uptoBulk {H : Type} : DataW H → Nat
  | .lit (.string bytes) => bytes.length + 1
  | .lit _ => 1
  | .nil => 1
  | .ptr d => uptoBulk d + 1
  | .slice elems spare => uptoBulkAll elems + uptoBulkAll spare + 1
  | .agg parts => uptoBulkAll parts + 1
  | .iface _ d => uptoBulk d + 1
  | .map entries => uptoBulkEntries entries + 1
  | .held _ => 1
def uptoBulkAll {H : Type} : List (DataW H) → Nat
  | [] => 0
  | d :: r => uptoBulk d + uptoBulkAll r
def uptoBulkEntries {H : Type} : List (Lit × DataW H) → Nat
  | [] => 0
  | x :: r => uptoBulkEntry x + uptoBulkEntries r
def uptoBulkEntry {H : Type} : Lit × DataW H → Nat
  | (.string bytes, d) => bytes.length + uptoBulk d + 1
  | (_, d) => uptoBulk d + 1
 end
def uptoSmall : (H : Type) → List (DataW H) → Bool := fun _ ds => decide (uptoBulkAll ds ≤ 1048576)
def OpenSpec.upto (s : _root_.Go.ChangeSpec) : _root_.Go.OpenSpec := { _root_.Go.OpenSpec.ofChange s with cond := some uptoSmall }

/-- 'scionrylaw11.WalkNames', WHERE WHAT IT READS IS OF BULK AT MOST 1048576: true; the input reads as it did. -/
def walkNamesUptoRow : OpenClaim := { program := "ytdaidhbmfocodaagreat", sum := "3d658049a37c927db4ff5191ec307ad2943132d51c18233ee367989c71e181a1", func := "scionry/scionrylaw11.WalkNames", spec := "walkNames", unfollowed := true, recurses := true, apart := false, narrowed := true }
def WalkNamesUptoSaid : Prop := walkNamesUptoRow.holds Tryz.pinned (OpenSpec.upto walkNamesSpec)

/-- 'scionrylaw11.WalkDoes', WHERE WHAT IT READS IS OF BULK AT MOST 1048576: true; the input reads as it did. -/
def walkDoesUptoRow : OpenClaim := { program := "ytdaidhbmfocodaagreat", sum := "3d658049a37c927db4ff5191ec307ad2943132d51c18233ee367989c71e181a1", func := "scionry/scionrylaw11.WalkDoes", spec := "walkDoes", unfollowed := true, recurses := true, apart := false, narrowed := true }
def WalkDoesUptoSaid : Prop := walkDoesUptoRow.holds Tryz.pinned (OpenSpec.upto walkDoesSpec)

/-- 'scionrylaw11.WalkNodes', WHERE WHAT IT READS IS OF BULK AT MOST 1048576: true; the input reads as it did. -/
def walkNodesUptoRow : OpenClaim := { program := "ytdaidhbmfocodaagreat", sum := "3d658049a37c927db4ff5191ec307ad2943132d51c18233ee367989c71e181a1", func := "scionry/scionrylaw11.WalkNodes", spec := "walkNodes", unfollowed := true, recurses := true, apart := false, narrowed := true }
def WalkNodesUptoSaid : Prop := walkNodesUptoRow.holds Tryz.pinned (OpenSpec.upto walkNodesSpec)

/-- 'scionrylaw11.WalkWider', WHERE WHAT IT READS IS OF BULK AT MOST 1048576: true; the input reads as it did. -/
def walkWiderUptoRow : OpenClaim := { program := "ytdaidhbmfocodaagreat", sum := "3d658049a37c927db4ff5191ec307ad2943132d51c18233ee367989c71e181a1", func := "scionry/scionrylaw11.WalkWider", spec := "walkWider", unfollowed := true, recurses := true, apart := false, narrowed := true }
def WalkWiderUptoSaid : Prop := walkWiderUptoRow.holds Tryz.pinned (OpenSpec.upto walkWiderSpec)

end Rows
end Go.Proofs.YtdaidhbmfocodaaGreat
