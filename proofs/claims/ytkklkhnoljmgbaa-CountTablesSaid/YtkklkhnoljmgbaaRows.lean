/-
  No cell of these rows narrows 'for every input' (looked for: loops, veiled, ifaces, maps, wideKeys, modest, calm, conditions, laid).
  DERIVED. THE GIVEN ROWS OF THIS SEAT. 6 by the template 'for every input the law returns true; each argument reads behind the call as it read before'; 0 by the template 'total and deterministic' (their statements: YtkklkhnoljmgbaaTotals.lean).
  GIVEN WITH THE SEED: the statements are not yours to turn. If you find one false, say at which input.
  Laid BY PROGRAM, IN A SANDBOX (cutbox-rows.mjs): the forced cells as the released guide's own fill.sh prints them over the translation 0b66eaf70792e22b… (all of the seat's roots in one cut). By AI agents, Wed Nov 11 2026. No macro, syntax, notation, axiom, sorry.
-/
import Derived.Test.YtkklkhnoljmgbaaChecked
import GoSem.Claim
import GoSem.ClaimJoined
import GoSem.ClaimMapViews
import Derived.JoinedTies
import Derived.KernelRfl
namespace Go.Proofs.Ytkklkhnoljmgbaa
/- THE CELL 'sum', in the pinned program and in every row, IS THE sha256 OF THE DUMP (.gsa) THAT YtkklkhnoljmgbaaProg.lean LOADS. Nothing in Lean hashes anything: it is a label: what it is worth is what the hold of that sum in a sandbox is worth. -/
noncomputable def Try.pinned : Pinned := { name := "ytkklkhnoljmgbaa", sum := "0b66eaf70792e22bf606932d39830aefaabbf308f01348f1cb61b7b1b5a539ce", checked := Try.checked }
namespace Rows
def none {H : Type} : Left H := { results := [], args := [] }

/-- 'scionrylaw07.CountNames': WHATEVER THE INPUT: true; the input reads as it did. -/
def countNamesSpec : ChangeSpec := { name := "countNames", fn := fun _ => fun
  | [] => { results := [.lit (.bool true)], args := [] }
  | _ => none }
def countNamesRow : OpenClaim := { program := "ytkklkhnoljmgbaa", sum := "0b66eaf70792e22bf606932d39830aefaabbf308f01348f1cb61b7b1b5a539ce", func := "scionry/scionrylaw07.CountNames", spec := "countNames", unfollowed := true, recurses := true, apart := false }
def CountNamesSaid : Prop := countNamesRow.holds Try.pinned (OpenSpec.ofChange countNamesSpec)

/-- ITS FALSE NEIGHBOUR: 'it returns false'. Refute it at one input. -/
def countNamesWrong : ChangeSpec := { name := "countNames", fn := fun _ => fun
  | [] => { results := [.lit (.bool false)], args := [] }
  | _ => none }
def CountNamesWrongFalsely : Prop := countNamesRow.holds Try.pinned (OpenSpec.ofChange countNamesWrong)

/-- 'scionrylaw07.CountTables': WHATEVER THE INPUT: true; the input reads as it did. -/
def countTablesSpec : ChangeSpec := { name := "countTables", fn := fun _ => fun
  | [d1, d2, d3, d4] => { results := [.lit (.bool true)], args := [d1, d2, d3, d4] }
  | _ => none }
def countTablesRow : OpenClaim := { program := "ytkklkhnoljmgbaa", sum := "0b66eaf70792e22bf606932d39830aefaabbf308f01348f1cb61b7b1b5a539ce", func := "scionry/scionrylaw07.CountTables", spec := "countTables", unfollowed := true, recurses := true, apart := false }
def CountTablesSaid : Prop := countTablesRow.holds Try.pinned (OpenSpec.ofChange countTablesSpec)

/-- ITS FALSE NEIGHBOUR: 'it returns false'. Refute it at one input. -/
def countTablesWrong : ChangeSpec := { name := "countTables", fn := fun _ => fun
  | [d1, d2, d3, d4] => { results := [.lit (.bool false)], args := [d1, d2, d3, d4] }
  | _ => none }
def CountTablesWrongFalsely : Prop := countTablesRow.holds Try.pinned (OpenSpec.ofChange countTablesWrong)

/-- 'scionrylaw07.CountTurns': WHATEVER THE INPUT: true; the input reads as it did. -/
def countTurnsSpec : ChangeSpec := { name := "countTurns", fn := fun _ => fun
  | [d1, d2] => { results := [.lit (.bool true)], args := [d1, d2] }
  | _ => none }
def countTurnsRow : OpenClaim := { program := "ytkklkhnoljmgbaa", sum := "0b66eaf70792e22bf606932d39830aefaabbf308f01348f1cb61b7b1b5a539ce", func := "scionry/scionrylaw07.CountTurns", spec := "countTurns", apart := false }
def CountTurnsSaid : Prop := countTurnsRow.holds Try.pinned (OpenSpec.ofChange countTurnsSpec)

/-- ITS FALSE NEIGHBOUR: 'it returns false'. Refute it at one input. -/
def countTurnsWrong : ChangeSpec := { name := "countTurns", fn := fun _ => fun
  | [d1, d2] => { results := [.lit (.bool false)], args := [d1, d2] }
  | _ => none }
def CountTurnsWrongFalsely : Prop := countTurnsRow.holds Try.pinned (OpenSpec.ofChange countTurnsWrong)

/-- 'scionrylaw07.CountSides': WHATEVER THE INPUT: true; the input reads as it did. -/
def countSidesSpec : ChangeSpec := { name := "countSides", fn := fun _ => fun
  | [d1, d2, d3] => { results := [.lit (.bool true)], args := [d1, d2, d3] }
  | _ => none }
def countSidesRow : OpenClaim := { program := "ytkklkhnoljmgbaa", sum := "0b66eaf70792e22bf606932d39830aefaabbf308f01348f1cb61b7b1b5a539ce", func := "scionry/scionrylaw07.CountSides", spec := "countSides", unfollowed := true, recurses := true, apart := false }
def CountSidesSaid : Prop := countSidesRow.holds Try.pinned (OpenSpec.ofChange countSidesSpec)

/-- ITS FALSE NEIGHBOUR: 'it returns false'. Refute it at one input. -/
def countSidesWrong : ChangeSpec := { name := "countSides", fn := fun _ => fun
  | [d1, d2, d3] => { results := [.lit (.bool false)], args := [d1, d2, d3] }
  | _ => none }
def CountSidesWrongFalsely : Prop := countSidesRow.holds Try.pinned (OpenSpec.ofChange countSidesWrong)

/-- 'scionrylaw07.CountApart': WHATEVER THE INPUT: true; the input reads as it did. -/
def countApartSpec : ChangeSpec := { name := "countApart", fn := fun _ => fun
  | [d1, d2, d3] => { results := [.lit (.bool true)], args := [d1, d2, d3] }
  | _ => none }
def countApartRow : OpenClaim := { program := "ytkklkhnoljmgbaa", sum := "0b66eaf70792e22bf606932d39830aefaabbf308f01348f1cb61b7b1b5a539ce", func := "scionry/scionrylaw07.CountApart", spec := "countApart", apart := false }
def CountApartSaid : Prop := countApartRow.holds Try.pinned (OpenSpec.ofChange countApartSpec)

/-- ITS FALSE NEIGHBOUR: 'it returns false'. Refute it at one input. -/
def countApartWrong : ChangeSpec := { name := "countApart", fn := fun _ => fun
  | [d1, d2, d3] => { results := [.lit (.bool false)], args := [d1, d2, d3] }
  | _ => none }
def CountApartWrongFalsely : Prop := countApartRow.holds Try.pinned (OpenSpec.ofChange countApartWrong)

/-- 'scionrylaw07.CountSums': WHATEVER THE INPUT: true; the input reads as it did. -/
def countSumsSpec : ChangeSpec := { name := "countSums", fn := fun _ => fun
  | [d1, d2, d3, d4] => { results := [.lit (.bool true)], args := [d1, d2, d3, d4] }
  | _ => none }
def countSumsRow : OpenClaim := { program := "ytkklkhnoljmgbaa", sum := "0b66eaf70792e22bf606932d39830aefaabbf308f01348f1cb61b7b1b5a539ce", func := "scionry/scionrylaw07.CountSums", spec := "countSums", unfollowed := true, recurses := true, apart := false }
def CountSumsSaid : Prop := countSumsRow.holds Try.pinned (OpenSpec.ofChange countSumsSpec)

/-- ITS FALSE NEIGHBOUR: 'it returns false'. Refute it at one input. -/
def countSumsWrong : ChangeSpec := { name := "countSums", fn := fun _ => fun
  | [d1, d2, d3, d4] => { results := [.lit (.bool false)], args := [d1, d2, d3, d4] }
  | _ => none }
def CountSumsWrongFalsely : Prop := countSumsRow.holds Try.pinned (OpenSpec.ofChange countSumsWrong)

/- THE SECOND FORM. 'bulk': how many values and letters a reading holds, each counted each time it is reached (what is shared counts as often as it is met; a slice's spare places count too). A statement '..UptoSaid' is the law's where the arguments, and the package variables that the reading takes, are together of bulk at most 1048576: NARROWER than '..Said'. Prove '..Said' where nothing that the law and all that it calls make is longer than what came in: it says more and counts as full. Else prove '..UptoSaid'. A law counts once. -/
mutual
def uptoBulk {H : Type} : DataW H → Nat
  | .lit (.string bytes) => bytes.length + 1
  | .lit _ => 1
  | .nil => 1
  | .ptr d => uptoBulk d + 1
  | .slice elems spare => uptoBulkAll elems + uptoBulkAll spare + 1
  | .agg parts => uptoBulkAll parts + 1
  | .iface _ d => uptoBulk d + 1
  | .map entries => uptoBulkEntries entries + 1
  | .held _ => 1
def uptoBulkAll {H : Type} : List (DataW H) → Nat
  | [] => 0
  | d :: r => uptoBulk d + uptoBulkAll r
def uptoBulkEntries {H : Type} : List (Lit × DataW H) → Nat
  | [] => 0
  | x :: r => uptoBulkEntry x + uptoBulkEntries r
def uptoBulkEntry {H : Type} : Lit × DataW H → Nat
  | (.string bytes, d) => bytes.length + uptoBulk d + 1
  | (_, d) => uptoBulk d + 1
 end
def uptoSmall : (H : Type) → List (DataW H) → Bool := fun _ ds => decide (uptoBulkAll ds ≤ 1048576)
def OpenSpec.upto (s : _root_.Go.ChangeSpec) : _root_.Go.OpenSpec := { _root_.Go.OpenSpec.ofChange s with cond := some uptoSmall }

/-- 'scionrylaw07.CountNames', WHERE WHAT IT READS IS OF BULK AT MOST 1048576: true; the input reads as it did. -/
def countNamesUptoRow : OpenClaim := { program := "ytkklkhnoljmgbaa", sum := "0b66eaf70792e22bf606932d39830aefaabbf308f01348f1cb61b7b1b5a539ce", func := "scionry/scionrylaw07.CountNames", spec := "countNames", unfollowed := true, recurses := true, apart := false, narrowed := true }
def CountNamesUptoSaid : Prop := countNamesUptoRow.holds Try.pinned (OpenSpec.upto countNamesSpec)

/-- 'scionrylaw07.CountTables', WHERE WHAT IT READS IS OF BULK AT MOST 1048576: true; the input reads as it did. -/
def countTablesUptoRow : OpenClaim := { program := "ytkklkhnoljmgbaa", sum := "0b66eaf70792e22bf606932d39830aefaabbf308f01348f1cb61b7b1b5a539ce", func := "scionry/scionrylaw07.CountTables", spec := "countTables", unfollowed := true, recurses := true, apart := false, narrowed := true }
def CountTablesUptoSaid : Prop := countTablesUptoRow.holds Try.pinned (OpenSpec.upto countTablesSpec)

/-- 'scionrylaw07.CountTurns', WHERE WHAT IT READS IS OF BULK AT MOST 1048576: true; the input reads as it did. -/
def countTurnsUptoRow : OpenClaim := { program := "ytkklkhnoljmgbaa", sum := "0b66eaf70792e22bf606932d39830aefaabbf308f01348f1cb61b7b1b5a539ce", func := "scionry/scionrylaw07.CountTurns", spec := "countTurns", apart := false, narrowed := true }
def CountTurnsUptoSaid : Prop := countTurnsUptoRow.holds Try.pinned (OpenSpec.upto countTurnsSpec)

/-- 'scionrylaw07.CountSides', WHERE WHAT IT READS IS OF BULK AT MOST 1048576: true; the input reads as it did. -/
def countSidesUptoRow : OpenClaim := { program := "ytkklkhnoljmgbaa", sum := "0b66eaf70792e22bf606932d39830aefaabbf308f01348f1cb61b7b1b5a539ce", func := "scionry/scionrylaw07.CountSides", spec := "countSides", unfollowed := true, recurses := true, apart := false, narrowed := true }
def CountSidesUptoSaid : Prop := countSidesUptoRow.holds Try.pinned (OpenSpec.upto countSidesSpec)

/-- 'scionrylaw07.CountApart', WHERE WHAT IT READS IS OF BULK AT MOST 1048576: true; the input reads as it did. -/
def countApartUptoRow : OpenClaim := { program := "ytkklkhnoljmgbaa", sum := "0b66eaf70792e22bf606932d39830aefaabbf308f01348f1cb61b7b1b5a539ce", func := "scionry/scionrylaw07.CountApart", spec := "countApart", apart := false, narrowed := true }
def CountApartUptoSaid : Prop := countApartUptoRow.holds Try.pinned (OpenSpec.upto countApartSpec)

/-- 'scionrylaw07.CountSums', WHERE WHAT IT READS IS OF BULK AT MOST 1048576: true; the input reads as it did. -/
def countSumsUptoRow : OpenClaim := { program := "ytkklkhnoljmgbaa", sum := "0b66eaf70792e22bf606932d39830aefaabbf308f01348f1cb61b7b1b5a539ce", func := "scionry/scionrylaw07.CountSums", spec := "countSums", unfollowed := true, recurses := true, apart := false, narrowed := true }
def CountSumsUptoSaid : Prop := countSumsUptoRow.holds Try.pinned (OpenSpec.upto countSumsSpec)

end Rows
end Go.Proofs.Ytkklkhnoljmgbaa
