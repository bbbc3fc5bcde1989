/-
  No cell of these rows narrows 'for every input' (looked for: loops, veiled, ifaces, maps, wideKeys, modest, calm, conditions, laid).
  DERIVED. THE GIVEN ROWS OF THIS SEAT. 5 by the template 'for every input the law returns true; each argument reads behind the call as it read before'; 0 by the template 'total and deterministic' (their statements: YtmdlgnlfgfhkmaaTotals.lean).
  GIVEN WITH THE SEED: the statements are not yours to turn. If you find one false, say at which input.
  Laid BY PROGRAM, IN A SANDBOX (cutbox-rows.mjs): the forced cells as the released guide's own fill.sh prints them over the translation 6b77f3dd0e7d1893… (all of the seat's roots in one cut). By AI agents, Wed Nov 11 2026. No macro, syntax, notation, axiom, sorry.
-/
import Derived.Test.YtmdlgnlfgfhkmaaChecked
import GoSem.Claim
import GoSem.ClaimJoined
import GoSem.ClaimMapViews
import Derived.JoinedTies
import Derived.KernelRfl
namespace Go.Proofs.Ytmdlgnlfgfhkmaa
/- THE CELL 'sum', in the pinned program and in every row, IS THE sha256 OF THE DUMP (.gsa) THAT YtmdlgnlfgfhkmaaProg.lean LOADS. Nothing in Lean hashes anything: it is a label: what it is worth is what the hold of that sum in a sandbox is worth. -/
noncomputable def Try.pinned : Pinned := { name := "ytmdlgnlfgfhkmaa", sum := "6b77f3dd0e7d189394e9162e59501660bf8938886542ebd04fce83c2c16405c7", checked := Try.checked }
namespace Rows
def none {H : Type} : Left H := { results := [], args := [] }

/-- 'scionrylaw09.DropNames': WHATEVER THE INPUT: true; the input reads as it did. -/
def dropNamesSpec : ChangeSpec := { name := "dropNames", fn := fun _ => fun
  | [] => { results := [.lit (.bool true)], args := [] }
  | _ => none }
def dropNamesRow : OpenClaim := { program := "ytmdlgnlfgfhkmaa", sum := "6b77f3dd0e7d189394e9162e59501660bf8938886542ebd04fce83c2c16405c7", func := "scionry/scionrylaw09.DropNames", spec := "dropNames", unfollowed := true, recurses := true, apart := false }
def DropNamesSaid : Prop := dropNamesRow.holds Try.pinned (OpenSpec.ofChange dropNamesSpec)

/-- ITS FALSE NEIGHBOUR: 'it returns false'. Refute it at one input. -/
def dropNamesWrong : ChangeSpec := { name := "dropNames", fn := fun _ => fun
  | [] => { results := [.lit (.bool false)], args := [] }
  | _ => none }
def DropNamesWrongFalsely : Prop := dropNamesRow.holds Try.pinned (OpenSpec.ofChange dropNamesWrong)

/-- 'scionrylaw09.DropBack': WHATEVER THE INPUT: true; the input reads as it did. -/
def dropBackSpec : ChangeSpec := { name := "dropBack", fn := fun _ => fun
  | [d1, d2] => { results := [.lit (.bool true)], args := [d1, d2] }
  | _ => none }
def dropBackRow : OpenClaim := { program := "ytmdlgnlfgfhkmaa", sum := "6b77f3dd0e7d189394e9162e59501660bf8938886542ebd04fce83c2c16405c7", func := "scionry/scionrylaw09.DropBack", spec := "dropBack", unfollowed := true, recurses := true, apart := false }
def DropBackSaid : Prop := dropBackRow.holds Try.pinned (OpenSpec.ofChange dropBackSpec)

/-- ITS FALSE NEIGHBOUR: 'it returns false'. Refute it at one input. -/
def dropBackWrong : ChangeSpec := { name := "dropBack", fn := fun _ => fun
  | [d1, d2] => { results := [.lit (.bool false)], args := [d1, d2] }
  | _ => none }
def DropBackWrongFalsely : Prop := dropBackRow.holds Try.pinned (OpenSpec.ofChange dropBackWrong)

/-- 'scionrylaw09.DropLeaves': WHATEVER THE INPUT: true; the input reads as it did. -/
def dropLeavesSpec : ChangeSpec := { name := "dropLeaves", fn := fun _ => fun
  | [d1, d2] => { results := [.lit (.bool true)], args := [d1, d2] }
  | _ => none }
def dropLeavesRow : OpenClaim := { program := "ytmdlgnlfgfhkmaa", sum := "6b77f3dd0e7d189394e9162e59501660bf8938886542ebd04fce83c2c16405c7", func := "scionry/scionrylaw09.DropLeaves", spec := "dropLeaves", unfollowed := true, recurses := true, apart := false }
def DropLeavesSaid : Prop := dropLeavesRow.holds Try.pinned (OpenSpec.ofChange dropLeavesSpec)

/-- ITS FALSE NEIGHBOUR: 'it returns false'. Refute it at one input. -/
def dropLeavesWrong : ChangeSpec := { name := "dropLeaves", fn := fun _ => fun
  | [d1, d2] => { results := [.lit (.bool false)], args := [d1, d2] }
  | _ => none }
def DropLeavesWrongFalsely : Prop := dropLeavesRow.holds Try.pinned (OpenSpec.ofChange dropLeavesWrong)

/-- 'scionrylaw09.DropTwice': WHATEVER THE INPUT: true; the input reads as it did. -/
def dropTwiceSpec : ChangeSpec := { name := "dropTwice", fn := fun _ => fun
  | [d1, d2] => { results := [.lit (.bool true)], args := [d1, d2] }
  | _ => none }
def dropTwiceRow : OpenClaim := { program := "ytmdlgnlfgfhkmaa", sum := "6b77f3dd0e7d189394e9162e59501660bf8938886542ebd04fce83c2c16405c7", func := "scionry/scionrylaw09.DropTwice", spec := "dropTwice", unfollowed := true, recurses := true, apart := false }
def DropTwiceSaid : Prop := dropTwiceRow.holds Try.pinned (OpenSpec.ofChange dropTwiceSpec)

/-- ITS FALSE NEIGHBOUR: 'it returns false'. Refute it at one input. -/
def dropTwiceWrong : ChangeSpec := { name := "dropTwice", fn := fun _ => fun
  | [d1, d2] => { results := [.lit (.bool false)], args := [d1, d2] }
  | _ => none }
def DropTwiceWrongFalsely : Prop := dropTwiceRow.holds Try.pinned (OpenSpec.ofChange dropTwiceWrong)

/-- 'scionrylaw09.DropLooses': WHATEVER THE INPUT: true; the input reads as it did. -/
def dropLoosesSpec : ChangeSpec := { name := "dropLooses", fn := fun _ => fun
  | [d1, d2] => { results := [.lit (.bool true)], args := [d1, d2] }
  | _ => none }
def dropLoosesRow : OpenClaim := { program := "ytmdlgnlfgfhkmaa", sum := "6b77f3dd0e7d189394e9162e59501660bf8938886542ebd04fce83c2c16405c7", func := "scionry/scionrylaw09.DropLooses", spec := "dropLooses", unfollowed := true, recurses := true, apart := false }
def DropLoosesSaid : Prop := dropLoosesRow.holds Try.pinned (OpenSpec.ofChange dropLoosesSpec)

/-- ITS FALSE NEIGHBOUR: 'it returns false'. Refute it at one input. -/
def dropLoosesWrong : ChangeSpec := { name := "dropLooses", fn := fun _ => fun
  | [d1, d2] => { results := [.lit (.bool false)], args := [d1, d2] }
  | _ => none }
def DropLoosesWrongFalsely : Prop := dropLoosesRow.holds Try.pinned (OpenSpec.ofChange dropLoosesWrong)

/- THE SECOND FORM. 'bulk': how many values and letters a reading holds, each counted each time it is reached (what is shared counts as often as it is met; a slice's spare places count too). A statement '..UptoSaid' is the law's where the arguments, and the package variables that the reading takes, are together of bulk at most 1048576: NARROWER than '..Said'. Prove '..Said' where nothing that the law and all that it calls make is longer than what came in: it says more and counts as full. Else prove '..UptoSaid'. A law counts once. -/
mutual
def uptoBulk {H : Type} : DataW H → Nat
  | .lit (.string bytes) => bytes.length + 1
  | .lit _ => 1
  | .nil => 1
  | .ptr d => uptoBulk d + 1
  | .slice elems spare => uptoBulkAll elems + uptoBulkAll spare + 1
  | .agg parts => uptoBulkAll parts + 1
  | .iface _ d => uptoBulk d + 1
  | .map entries => uptoBulkEntries entries + 1
  | .held _ => 1
def uptoBulkAll {H : Type} : List (DataW H) → Nat
  | [] => 0
  | d :: r => uptoBulk d + uptoBulkAll r
def uptoBulkEntries {H : Type} : List (Lit × DataW H) → Nat
  | [] => 0
  | x :: r => uptoBulkEntry x + uptoBulkEntries r
def uptoBulkEntry {H : Type} : Lit × DataW H → Nat
  | (.string bytes, d) => bytes.length + uptoBulk d + 1
  | (_, d) => uptoBulk d + 1
 end
def uptoSmall : (H : Type) → List (DataW H) → Bool := fun _ ds => decide (uptoBulkAll ds ≤ 1048576)
def OpenSpec.upto (s : _root_.Go.ChangeSpec) : _root_.Go.OpenSpec := { _root_.Go.OpenSpec.ofChange s with cond := some uptoSmall }

/-- 'scionrylaw09.DropNames', WHERE WHAT IT READS IS OF BULK AT MOST 1048576: true; the input reads as it did. -/
def dropNamesUptoRow : OpenClaim := { program := "ytmdlgnlfgfhkmaa", sum := "6b77f3dd0e7d189394e9162e59501660bf8938886542ebd04fce83c2c16405c7", func := "scionry/scionrylaw09.DropNames", spec := "dropNames", unfollowed := true, recurses := true, apart := false, narrowed := true }
def DropNamesUptoSaid : Prop := dropNamesUptoRow.holds Try.pinned (OpenSpec.upto dropNamesSpec)

/-- 'scionrylaw09.DropBack', WHERE WHAT IT READS IS OF BULK AT MOST 1048576: true; the input reads as it did. -/
def dropBackUptoRow : OpenClaim := { program := "ytmdlgnlfgfhkmaa", sum := "6b77f3dd0e7d189394e9162e59501660bf8938886542ebd04fce83c2c16405c7", func := "scionry/scionrylaw09.DropBack", spec := "dropBack", unfollowed := true, recurses := true, apart := false, narrowed := true }
def DropBackUptoSaid : Prop := dropBackUptoRow.holds Try.pinned (OpenSpec.upto dropBackSpec)

/-- 'scionrylaw09.DropLeaves', WHERE WHAT IT READS IS OF BULK AT MOST 1048576: true; the input reads as it did. -/
def dropLeavesUptoRow : OpenClaim := { program := "ytmdlgnlfgfhkmaa", sum := "6b77f3dd0e7d189394e9162e59501660bf8938886542ebd04fce83c2c16405c7", func := "scionry/scionrylaw09.DropLeaves", spec := "dropLeaves", unfollowed := true, recurses := true, apart := false, narrowed := true }
def DropLeavesUptoSaid : Prop := dropLeavesUptoRow.holds Try.pinned (OpenSpec.upto dropLeavesSpec)

/-- 'scionrylaw09.DropTwice', WHERE WHAT IT READS IS OF BULK AT MOST 1048576: true; the input reads as it did. -/
def dropTwiceUptoRow : OpenClaim := { program := "ytmdlgnlfgfhkmaa", sum := "6b77f3dd0e7d189394e9162e59501660bf8938886542ebd04fce83c2c16405c7", func := "scionry/scionrylaw09.DropTwice", spec := "dropTwice", unfollowed := true, recurses := true, apart := false, narrowed := true }
def DropTwiceUptoSaid : Prop := dropTwiceUptoRow.holds Try.pinned (OpenSpec.upto dropTwiceSpec)

/-- 'scionrylaw09.DropLooses', WHERE WHAT IT READS IS OF BULK AT MOST 1048576: true; the input reads as it did. -/
def dropLoosesUptoRow : OpenClaim := { program := "ytmdlgnlfgfhkmaa", sum := "6b77f3dd0e7d189394e9162e59501660bf8938886542ebd04fce83c2c16405c7", func := "scionry/scionrylaw09.DropLooses", spec := "dropLooses", unfollowed := true, recurses := true, apart := false, narrowed := true }
def DropLoosesUptoSaid : Prop := dropLoosesUptoRow.holds Try.pinned (OpenSpec.upto dropLoosesSpec)

end Rows
end Go.Proofs.Ytmdlgnlfgfhkmaa
