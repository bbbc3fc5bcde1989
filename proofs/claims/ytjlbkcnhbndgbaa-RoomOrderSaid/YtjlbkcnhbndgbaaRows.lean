/-
  No cell of these rows narrows 'for every input' (looked for: loops, veiled, ifaces, maps, wideKeys, modest, calm, conditions, laid).
  DERIVED. THE GIVEN ROWS OF THIS SEAT. 5 by the template 'for every input the law returns true; each argument reads behind the call as it read before'; 0 by the template 'total and deterministic' (their statements: YtjlbkcnhbndgbaaTotals.lean).
  GIVEN WITH THE SEED: the statements are not yours to turn. If you find one false, say at which input.
  Laid BY PROGRAM, IN A SANDBOX (cutbox-rows.mjs): the forced cells as the released guide's own fill.sh prints them over the translation a2ca26b4b409fd74… (all of the seat's roots in one cut). By AI agents, Wed Nov 11 2026. No macro, syntax, notation, axiom, sorry.
-/
import Derived.Test.YtjlbkcnhbndgbaaChecked
import GoSem.Claim
import GoSem.ClaimJoined
import GoSem.ClaimMapViews
import Derived.JoinedTies
import Derived.KernelRfl
namespace Go.Proofs.Ytjlbkcnhbndgbaa
/- THE CELL 'sum', in the pinned program and in every row, IS THE sha256 OF THE DUMP (.gsa) THAT YtjlbkcnhbndgbaaProg.lean LOADS. Nothing in Lean hashes anything: it is a label: what it is worth is what the hold of that sum in a sandbox is worth. -/
noncomputable def Try.pinned : Pinned := { name := "ytjlbkcnhbndgbaa", sum := "a2ca26b4b409fd745a1c8e3daac940c0c775c3ff5b37f492fd219e2e83a15eac", checked := Try.checked }
namespace Rows
def none {H : Type} : Left H := { results := [], args := [] }

/-- 'scionrylaw08.RoomNames': WHATEVER THE INPUT: true; the input reads as it did. -/
def roomNamesSpec : ChangeSpec := { name := "roomNames", fn := fun _ => fun
  | [] => { results := [.lit (.bool true)], args := [] }
  | _ => none }
def roomNamesRow : OpenClaim := { program := "ytjlbkcnhbndgbaa", sum := "a2ca26b4b409fd745a1c8e3daac940c0c775c3ff5b37f492fd219e2e83a15eac", func := "scionry/scionrylaw08.RoomNames", spec := "roomNames", unfollowed := true, recurses := true, apart := false }
def RoomNamesSaid : Prop := roomNamesRow.holds Try.pinned (OpenSpec.ofChange roomNamesSpec)

/-- ITS FALSE NEIGHBOUR: 'it returns false'. Refute it at one input. -/
def roomNamesWrong : ChangeSpec := { name := "roomNames", fn := fun _ => fun
  | [] => { results := [.lit (.bool false)], args := [] }
  | _ => none }
def RoomNamesWrongFalsely : Prop := roomNamesRow.holds Try.pinned (OpenSpec.ofChange roomNamesWrong)

/-- 'scionrylaw08.RoomTakes': WHATEVER THE INPUT: true; the input reads as it did. -/
def roomTakesSpec : ChangeSpec := { name := "roomTakes", fn := fun _ => fun
  | [d1, d2, d3] => { results := [.lit (.bool true)], args := [d1, d2, d3] }
  | _ => none }
def roomTakesRow : OpenClaim := { program := "ytjlbkcnhbndgbaa", sum := "a2ca26b4b409fd745a1c8e3daac940c0c775c3ff5b37f492fd219e2e83a15eac", func := "scionry/scionrylaw08.RoomTakes", spec := "roomTakes", unfollowed := true, recurses := true, apart := false }
def RoomTakesSaid : Prop := roomTakesRow.holds Try.pinned (OpenSpec.ofChange roomTakesSpec)

/-- ITS FALSE NEIGHBOUR: 'it returns false'. Refute it at one input. -/
def roomTakesWrong : ChangeSpec := { name := "roomTakes", fn := fun _ => fun
  | [d1, d2, d3] => { results := [.lit (.bool false)], args := [d1, d2, d3] }
  | _ => none }
def RoomTakesWrongFalsely : Prop := roomTakesRow.holds Try.pinned (OpenSpec.ofChange roomTakesWrong)

/-- 'scionrylaw08.RoomShares': WHATEVER THE INPUT: true; the input reads as it did. -/
def roomSharesSpec : ChangeSpec := { name := "roomShares", fn := fun _ => fun
  | [d1, d2] => { results := [.lit (.bool true)], args := [d1, d2] }
  | _ => none }
def roomSharesRow : OpenClaim := { program := "ytjlbkcnhbndgbaa", sum := "a2ca26b4b409fd745a1c8e3daac940c0c775c3ff5b37f492fd219e2e83a15eac", func := "scionry/scionrylaw08.RoomShares", spec := "roomShares", unfollowed := true, recurses := true, apart := false }
def RoomSharesSaid : Prop := roomSharesRow.holds Try.pinned (OpenSpec.ofChange roomSharesSpec)

/-- ITS FALSE NEIGHBOUR: 'it returns false'. Refute it at one input. -/
def roomSharesWrong : ChangeSpec := { name := "roomShares", fn := fun _ => fun
  | [d1, d2] => { results := [.lit (.bool false)], args := [d1, d2] }
  | _ => none }
def RoomSharesWrongFalsely : Prop := roomSharesRow.holds Try.pinned (OpenSpec.ofChange roomSharesWrong)

/-- 'scionrylaw08.RoomCounts': WHATEVER THE INPUT: true; the input reads as it did. -/
def roomCountsSpec : ChangeSpec := { name := "roomCounts", fn := fun _ => fun
  | [d1, d2, d3] => { results := [.lit (.bool true)], args := [d1, d2, d3] }
  | _ => none }
def roomCountsRow : OpenClaim := { program := "ytjlbkcnhbndgbaa", sum := "a2ca26b4b409fd745a1c8e3daac940c0c775c3ff5b37f492fd219e2e83a15eac", func := "scionry/scionrylaw08.RoomCounts", spec := "roomCounts", unfollowed := true, recurses := true, apart := false }
def RoomCountsSaid : Prop := roomCountsRow.holds Try.pinned (OpenSpec.ofChange roomCountsSpec)

/-- ITS FALSE NEIGHBOUR: 'it returns false'. Refute it at one input. -/
def roomCountsWrong : ChangeSpec := { name := "roomCounts", fn := fun _ => fun
  | [d1, d2, d3] => { results := [.lit (.bool false)], args := [d1, d2, d3] }
  | _ => none }
def RoomCountsWrongFalsely : Prop := roomCountsRow.holds Try.pinned (OpenSpec.ofChange roomCountsWrong)

/-- 'scionrylaw08.RoomOrder': WHATEVER THE INPUT: true; the input reads as it did. -/
def roomOrderSpec : ChangeSpec := { name := "roomOrder", fn := fun _ => fun
  | [d1, d2, d3, d4, d5] => { results := [.lit (.bool true)], args := [d1, d2, d3, d4, d5] }
  | _ => none }
def roomOrderRow : OpenClaim := { program := "ytjlbkcnhbndgbaa", sum := "a2ca26b4b409fd745a1c8e3daac940c0c775c3ff5b37f492fd219e2e83a15eac", func := "scionry/scionrylaw08.RoomOrder", spec := "roomOrder", unfollowed := true, recurses := true, apart := false }
def RoomOrderSaid : Prop := roomOrderRow.holds Try.pinned (OpenSpec.ofChange roomOrderSpec)

/-- ITS FALSE NEIGHBOUR: 'it returns false'. Refute it at one input. -/
def roomOrderWrong : ChangeSpec := { name := "roomOrder", fn := fun _ => fun
  | [d1, d2, d3, d4, d5] => { results := [.lit (.bool false)], args := [d1, d2, d3, d4, d5] }
  | _ => none }
def RoomOrderWrongFalsely : Prop := roomOrderRow.holds Try.pinned (OpenSpec.ofChange roomOrderWrong)

/- THE SECOND FORM. 'bulk': how many values and letters a reading holds, each counted each time it is reached (what is shared counts as often as it is met; a slice's spare places count too). A statement '..UptoSaid' is the law's where the arguments, and the package variables that the reading takes, are together of bulk at most 1048576: NARROWER than '..Said'. Prove '..Said' where nothing that the law and all that it calls make is longer than what came in: it says more and counts as full. Else prove '..UptoSaid'. A law counts once. -/
mutual
def uptoBulk {H : Type} : DataW H → Nat
  | .lit (.string bytes) => bytes.length + 1
  | .lit _ => 1
  | .nil => 1
  | .ptr d => uptoBulk d + 1
  | .slice elems spare => uptoBulkAll elems + uptoBulkAll spare + 1
  | .agg parts => uptoBulkAll parts + 1
  | .iface _ d => uptoBulk d + 1
  | .map entries => uptoBulkEntries entries + 1
  | .held _ => 1
def uptoBulkAll {H : Type} : List (DataW H) → Nat
  | [] => 0
  | d :: r => uptoBulk d + uptoBulkAll r
def uptoBulkEntries {H : Type} : List (Lit × DataW H) → Nat
  | [] => 0
  | x :: r => uptoBulkEntry x + uptoBulkEntries r
def uptoBulkEntry {H : Type} : Lit × DataW H → Nat
  | (.string bytes, d) => bytes.length + uptoBulk d + 1
  | (_, d) => uptoBulk d + 1
 end
def uptoSmall : (H : Type) → List (DataW H) → Bool := fun _ ds => decide (uptoBulkAll ds ≤ 1048576)
def OpenSpec.upto (s : _root_.Go.ChangeSpec) : _root_.Go.OpenSpec := { _root_.Go.OpenSpec.ofChange s with cond := some uptoSmall }

/-- 'scionrylaw08.RoomNames', WHERE WHAT IT READS IS OF BULK AT MOST 1048576: true; the input reads as it did. -/
def roomNamesUptoRow : OpenClaim := { program := "ytjlbkcnhbndgbaa", sum := "a2ca26b4b409fd745a1c8e3daac940c0c775c3ff5b37f492fd219e2e83a15eac", func := "scionry/scionrylaw08.RoomNames", spec := "roomNames", unfollowed := true, recurses := true, apart := false, narrowed := true }
def RoomNamesUptoSaid : Prop := roomNamesUptoRow.holds Try.pinned (OpenSpec.upto roomNamesSpec)

/-- 'scionrylaw08.RoomTakes', WHERE WHAT IT READS IS OF BULK AT MOST 1048576: true; the input reads as it did. -/
def roomTakesUptoRow : OpenClaim := { program := "ytjlbkcnhbndgbaa", sum := "a2ca26b4b409fd745a1c8e3daac940c0c775c3ff5b37f492fd219e2e83a15eac", func := "scionry/scionrylaw08.RoomTakes", spec := "roomTakes", unfollowed := true, recurses := true, apart := false, narrowed := true }
def RoomTakesUptoSaid : Prop := roomTakesUptoRow.holds Try.pinned (OpenSpec.upto roomTakesSpec)

/-- 'scionrylaw08.RoomShares', WHERE WHAT IT READS IS OF BULK AT MOST 1048576: true; the input reads as it did. -/
def roomSharesUptoRow : OpenClaim := { program := "ytjlbkcnhbndgbaa", sum := "a2ca26b4b409fd745a1c8e3daac940c0c775c3ff5b37f492fd219e2e83a15eac", func := "scionry/scionrylaw08.RoomShares", spec := "roomShares", unfollowed := true, recurses := true, apart := false, narrowed := true }
def RoomSharesUptoSaid : Prop := roomSharesUptoRow.holds Try.pinned (OpenSpec.upto roomSharesSpec)

/-- 'scionrylaw08.RoomCounts', WHERE WHAT IT READS IS OF BULK AT MOST 1048576: true; the input reads as it did. -/
def roomCountsUptoRow : OpenClaim := { program := "ytjlbkcnhbndgbaa", sum := "a2ca26b4b409fd745a1c8e3daac940c0c775c3ff5b37f492fd219e2e83a15eac", func := "scionry/scionrylaw08.RoomCounts", spec := "roomCounts", unfollowed := true, recurses := true, apart := false, narrowed := true }
def RoomCountsUptoSaid : Prop := roomCountsUptoRow.holds Try.pinned (OpenSpec.upto roomCountsSpec)

/-- 'scionrylaw08.RoomOrder', WHERE WHAT IT READS IS OF BULK AT MOST 1048576: true; the input reads as it did. -/
def roomOrderUptoRow : OpenClaim := { program := "ytjlbkcnhbndgbaa", sum := "a2ca26b4b409fd745a1c8e3daac940c0c775c3ff5b37f492fd219e2e83a15eac", func := "scionry/scionrylaw08.RoomOrder", spec := "roomOrder", unfollowed := true, recurses := true, apart := false, narrowed := true }
def RoomOrderUptoSaid : Prop := roomOrderUptoRow.holds Try.pinned (OpenSpec.upto roomOrderSpec)

end Rows
end Go.Proofs.Ytjlbkcnhbndgbaa
