/-
  No cell of these rows narrows 'for every input' (looked for: loops, veiled, ifaces, maps, wideKeys, modest, calm, conditions, laid).
  DERIVED. THE GIVEN ROWS OF THIS SEAT. 5 by the template 'for every input the law returns true; each argument reads behind the call as it read before'; 0 by the template 'total and deterministic' (their statements: YtmafkphcfkhokaaGreatTotals.lean).
  GIVEN WITH THE SEED: the statements are not yours to turn. If you find one false, say at which input.
  Laid BY PROGRAM, IN A SANDBOX (cutbox-rows.mjs): the forced cells as the released guide's own fill.sh prints them over the translation 13601334d844167d… (all of the seat's roots in one cut). By AI agents, Wed Nov 11 2026. No macro, syntax, notation, axiom, sorry.
-/
import Derived.Test.YtmafkphcfkhokaaGreatChecked
import GoSem.Claim
import GoSem.ClaimJoined
import GoSem.ClaimMapViews
import Derived.JoinedTies
import Derived.KernelRfl
namespace Go.Proofs.YtmafkphcfkhokaaGreat
/- THE CELL 'sum', in the pinned program and in every row, IS THE sha256 OF THE DUMP (.gsa) THAT YtmafkphcfkhokaaGreatProg.lean LOADS. Nothing in Lean hashes anything: it is a label: what it is worth is what the hold of that sum in a sandbox is worth. -/
noncomputable def Tryz.pinned : Pinned := { name := "ytmafkphcfkhokaagreat", sum := "13601334d844167dc20675a49103d2d6c000d803aa0c6b0b4f209b6efc5aed31", checked := Tryz.checked }
namespace Rows
def none {H : Type} : Left H := { results := [], args := [] }

/-- 'scionrylaw14.ForestNames': WHATEVER THE INPUT: true; the input reads as it did. -/
def forestNamesSpec : ChangeSpec := { name := "forestNames", fn := fun _ => fun
  | [] => { results := [.lit (.bool true)], args := [] }
  | _ => none }
def forestNamesRow : OpenClaim := { program := "ytmafkphcfkhokaagreat", sum := "13601334d844167dc20675a49103d2d6c000d803aa0c6b0b4f209b6efc5aed31", func := "scionry/scionrylaw14.ForestNames", spec := "forestNames", inPlace := ["slices.overlaps[scionry/api.Item]"], unfollowed := true, recurses := true, apart := false }
def ForestNamesSaid : Prop := forestNamesRow.holds Tryz.pinned (OpenSpec.ofChange forestNamesSpec)

/-- ITS FALSE NEIGHBOUR: 'it returns false'. Refute it at one input. -/
def forestNamesWrong : ChangeSpec := { name := "forestNames", fn := fun _ => fun
  | [] => { results := [.lit (.bool false)], args := [] }
  | _ => none }
def ForestNamesWrongFalsely : Prop := forestNamesRow.holds Tryz.pinned (OpenSpec.ofChange forestNamesWrong)

/-- 'scionrylaw14.ForestSets': WHATEVER THE INPUT: true; the input reads as it did. -/
def forestSetsSpec : ChangeSpec := { name := "forestSets", fn := fun _ => fun
  | [d1, d2, d3] => { results := [.lit (.bool true)], args := [d1, d2, d3] }
  | _ => none }
def forestSetsRow : OpenClaim := { program := "ytmafkphcfkhokaagreat", sum := "13601334d844167dc20675a49103d2d6c000d803aa0c6b0b4f209b6efc5aed31", func := "scionry/scionrylaw14.ForestSets", spec := "forestSets", inPlace := ["slices.overlaps[scionry/api.Item]"], unfollowed := true, recurses := true, apart := false }
def ForestSetsSaid : Prop := forestSetsRow.holds Tryz.pinned (OpenSpec.ofChange forestSetsSpec)

/-- ITS FALSE NEIGHBOUR: 'it returns false'. Refute it at one input. -/
def forestSetsWrong : ChangeSpec := { name := "forestSets", fn := fun _ => fun
  | [d1, d2, d3] => { results := [.lit (.bool false)], args := [d1, d2, d3] }
  | _ => none }
def ForestSetsWrongFalsely : Prop := forestSetsRow.holds Tryz.pinned (OpenSpec.ofChange forestSetsWrong)

/-- 'scionrylaw14.ForestCounts': WHATEVER THE INPUT: true; the input reads as it did. -/
def forestCountsSpec : ChangeSpec := { name := "forestCounts", fn := fun _ => fun
  | [d] => { results := [.lit (.bool true)], args := [d] }
  | _ => none }
def forestCountsRow : OpenClaim := { program := "ytmafkphcfkhokaagreat", sum := "13601334d844167dc20675a49103d2d6c000d803aa0c6b0b4f209b6efc5aed31", func := "scionry/scionrylaw14.ForestCounts", spec := "forestCounts", inPlace := ["slices.overlaps[scionry/api.Item]"], unfollowed := true, recurses := true, apart := false }
def ForestCountsSaid : Prop := forestCountsRow.holds Tryz.pinned (OpenSpec.ofChange forestCountsSpec)

/-- ITS FALSE NEIGHBOUR: 'it returns false'. Refute it at one input. -/
def forestCountsWrong : ChangeSpec := { name := "forestCounts", fn := fun _ => fun
  | [d] => { results := [.lit (.bool false)], args := [d] }
  | _ => none }
def ForestCountsWrongFalsely : Prop := forestCountsRow.holds Tryz.pinned (OpenSpec.ofChange forestCountsWrong)

/-- 'scionrylaw14.ForestFinds': WHATEVER THE INPUT: true; the input reads as it did. -/
def forestFindsSpec : ChangeSpec := { name := "forestFinds", fn := fun _ => fun
  | [d1, d2] => { results := [.lit (.bool true)], args := [d1, d2] }
  | _ => none }
def forestFindsRow : OpenClaim := { program := "ytmafkphcfkhokaagreat", sum := "13601334d844167dc20675a49103d2d6c000d803aa0c6b0b4f209b6efc5aed31", func := "scionry/scionrylaw14.ForestFinds", spec := "forestFinds", inPlace := ["slices.overlaps[scionry/api.Item]"], unfollowed := true, recurses := true, apart := false }
def ForestFindsSaid : Prop := forestFindsRow.holds Tryz.pinned (OpenSpec.ofChange forestFindsSpec)

/-- ITS FALSE NEIGHBOUR: 'it returns false'. Refute it at one input. -/
def forestFindsWrong : ChangeSpec := { name := "forestFinds", fn := fun _ => fun
  | [d1, d2] => { results := [.lit (.bool false)], args := [d1, d2] }
  | _ => none }
def ForestFindsWrongFalsely : Prop := forestFindsRow.holds Tryz.pinned (OpenSpec.ofChange forestFindsWrong)

/-- 'scionrylaw14.ForestTwice': WHATEVER THE INPUT: true; the input reads as it did. -/
def forestTwiceSpec : ChangeSpec := { name := "forestTwice", fn := fun _ => fun
  | [d1, d2] => { results := [.lit (.bool true)], args := [d1, d2] }
  | _ => none }
def forestTwiceRow : OpenClaim := { program := "ytmafkphcfkhokaagreat", sum := "13601334d844167dc20675a49103d2d6c000d803aa0c6b0b4f209b6efc5aed31", func := "scionry/scionrylaw14.ForestTwice", spec := "forestTwice", inPlace := ["slices.overlaps[scionry/api.Item]"], unfollowed := true, recurses := true, apart := false }
def ForestTwiceSaid : Prop := forestTwiceRow.holds Tryz.pinned (OpenSpec.ofChange forestTwiceSpec)

/-- ITS FALSE NEIGHBOUR: 'it returns false'. Refute it at one input. -/
def forestTwiceWrong : ChangeSpec := { name := "forestTwice", fn := fun _ => fun
  | [d1, d2] => { results := [.lit (.bool false)], args := [d1, d2] }
  | _ => none }
def ForestTwiceWrongFalsely : Prop := forestTwiceRow.holds Tryz.pinned (OpenSpec.ofChange forestTwiceWrong)

/- THE SECOND FORM. 'bulk': how many values and letters a reading holds, each counted each time it is reached (what is shared counts as often as it is met; a slice's spare places count too). A statement '..UptoSaid' is the law's where the arguments, and the package variables that the reading takes, are together of bulk at most 1048576: NARROWER than '..Said'. Prove '..Said' where nothing that the law and all that it calls make is longer than what came in: it says more and counts as full. Else prove '..UptoSaid'. A law counts once. -/
mutual
def uptoBulk {H : Type} : DataW H → Nat
  | .lit (.string bytes) => bytes.length + 1
  | .lit _ => 1
  | .nil => 1
  | .ptr d => uptoBulk d + 1
  | .slice elems spare => uptoBulkAll elems + uptoBulkAll spare + 1
  | .agg parts => uptoBulkAll parts + 1
  | .iface _ d => uptoBulk d + 1
  | .map entries => uptoBulkEntries entries + 1
  | .held _ => 1
def uptoBulkAll {H : Type} : List (DataW H) → Nat
  | [] => 0
  | d :: r => uptoBulk d + uptoBulkAll r
def uptoBulkEntries {H : Type} : List (Lit × DataW H) → Nat
  | [] => 0
  | x :: r => uptoBulkEntry x + uptoBulkEntries r
def uptoBulkEntry {H : Type} : Lit × DataW H → Nat
  | (.string bytes, d) => bytes.length + uptoBulk d + 1
  | (_, d) => uptoBulk d + 1
 end
def uptoSmall : (H : Type) → List (DataW H) → Bool := fun _ ds => decide (uptoBulkAll ds ≤ 1048576)
def OpenSpec.upto (s : _root_.Go.ChangeSpec) : _root_.Go.OpenSpec := { _root_.Go.OpenSpec.ofChange s with cond := some uptoSmall }

/-- 'scionrylaw14.ForestNames', WHERE WHAT IT READS IS OF BULK AT MOST 1048576: true; the input reads as it did. -/
def forestNamesUptoRow : OpenClaim := { program := "ytmafkphcfkhokaagreat", sum := "13601334d844167dc20675a49103d2d6c000d803aa0c6b0b4f209b6efc5aed31", func := "scionry/scionrylaw14.ForestNames", spec := "forestNames", inPlace := ["slices.overlaps[scionry/api.Item]"], unfollowed := true, recurses := true, apart := false, narrowed := true }
def ForestNamesUptoSaid : Prop := forestNamesUptoRow.holds Tryz.pinned (OpenSpec.upto forestNamesSpec)

/-- 'scionrylaw14.ForestSets', WHERE WHAT IT READS IS OF BULK AT MOST 1048576: true; the input reads as it did. -/
def forestSetsUptoRow : OpenClaim := { program := "ytmafkphcfkhokaagreat", sum := "13601334d844167dc20675a49103d2d6c000d803aa0c6b0b4f209b6efc5aed31", func := "scionry/scionrylaw14.ForestSets", spec := "forestSets", inPlace := ["slices.overlaps[scionry/api.Item]"], unfollowed := true, recurses := true, apart := false, narrowed := true }
def ForestSetsUptoSaid : Prop := forestSetsUptoRow.holds Tryz.pinned (OpenSpec.upto forestSetsSpec)

/-- 'scionrylaw14.ForestCounts', WHERE WHAT IT READS IS OF BULK AT MOST 1048576: true; the input reads as it did. -/
def forestCountsUptoRow : OpenClaim := { program := "ytmafkphcfkhokaagreat", sum := "13601334d844167dc20675a49103d2d6c000d803aa0c6b0b4f209b6efc5aed31", func := "scionry/scionrylaw14.ForestCounts", spec := "forestCounts", inPlace := ["slices.overlaps[scionry/api.Item]"], unfollowed := true, recurses := true, apart := false, narrowed := true }
def ForestCountsUptoSaid : Prop := forestCountsUptoRow.holds Tryz.pinned (OpenSpec.upto forestCountsSpec)

/-- 'scionrylaw14.ForestFinds', WHERE WHAT IT READS IS OF BULK AT MOST 1048576: true; the input reads as it did. -/
def forestFindsUptoRow : OpenClaim := { program := "ytmafkphcfkhokaagreat", sum := "13601334d844167dc20675a49103d2d6c000d803aa0c6b0b4f209b6efc5aed31", func := "scionry/scionrylaw14.ForestFinds", spec := "forestFinds", inPlace := ["slices.overlaps[scionry/api.Item]"], unfollowed := true, recurses := true, apart := false, narrowed := true }
def ForestFindsUptoSaid : Prop := forestFindsUptoRow.holds Tryz.pinned (OpenSpec.upto forestFindsSpec)

/-- 'scionrylaw14.ForestTwice', WHERE WHAT IT READS IS OF BULK AT MOST 1048576: true; the input reads as it did. -/
def forestTwiceUptoRow : OpenClaim := { program := "ytmafkphcfkhokaagreat", sum := "13601334d844167dc20675a49103d2d6c000d803aa0c6b0b4f209b6efc5aed31", func := "scionry/scionrylaw14.ForestTwice", spec := "forestTwice", inPlace := ["slices.overlaps[scionry/api.Item]"], unfollowed := true, recurses := true, apart := false, narrowed := true }
def ForestTwiceUptoSaid : Prop := forestTwiceUptoRow.holds Tryz.pinned (OpenSpec.upto forestTwiceSpec)

end Rows
end Go.Proofs.YtmafkphcfkhokaaGreat
