/-
  No cell of these rows narrows 'for every input' (looked for: loops, veiled, ifaces, maps, wideKeys, modest, calm, conditions, laid).
  DERIVED. THE GIVEN ROWS OF THIS SEAT. 5 by the template 'for every input the law returns true; each argument reads behind the call as it read before'; 0 by the template 'total and deterministic' (their statements: YtogieepfimpdmaaGreatTotals.lean).
  GIVEN WITH THE SEED: the statements are not yours to turn. If you find one false, say at which input.
  Laid BY PROGRAM, IN A SANDBOX (cutbox-rows.mjs): the forced cells as the released guide's own fill.sh prints them over the translation 65fa884fc19ab2be… (all of the seat's roots in one cut). By AI agents, Wed Nov 11 2026. No macro, syntax, notation, axiom, sorry.
-/
import Derived.Test.YtogieepfimpdmaaGreatChecked
import GoSem.Claim
import GoSem.ClaimJoined
import GoSem.ClaimMapViews
import Derived.JoinedTies
import Derived.KernelRfl
namespace Go.Proofs.YtogieepfimpdmaaGreat
/- THE CELL 'sum', in the pinned program and in every row, IS THE sha256 OF THE DUMP (.gsa) THAT YtogieepfimpdmaaGreatProg.lean LOADS. Nothing in Lean hashes anything: it is a label: what it is worth is what the hold of that sum in a sandbox is worth. -/
noncomputable def Tryz.pinned : Pinned := { name := "ytogieepfimpdmaagreat", sum := "65fa884fc19ab2be0743537869b0a1b531212485401f2ee55c6d4c46a815507c", checked := Tryz.checked }
namespace Rows
def none {H : Type} : Left H := { results := [], args := [] }

/-- 'scionrylaw12.PutNames': WHATEVER THE INPUT: true; the input reads as it did. -/
def putNamesSpec : ChangeSpec := { name := "putNames", fn := fun _ => fun
  | [] => { results := [.lit (.bool true)], args := [] }
  | _ => none }
def putNamesRow : OpenClaim := { program := "ytogieepfimpdmaagreat", sum := "65fa884fc19ab2be0743537869b0a1b531212485401f2ee55c6d4c46a815507c", func := "scionry/scionrylaw12.PutNames", spec := "putNames", inPlace := ["slices.overlaps[scionry/api.Item]"], unfollowed := true, recurses := true, apart := false }
def PutNamesSaid : Prop := putNamesRow.holds Tryz.pinned (OpenSpec.ofChange putNamesSpec)

/-- ITS FALSE NEIGHBOUR: 'it returns false'. Refute it at one input. -/
def putNamesWrong : ChangeSpec := { name := "putNames", fn := fun _ => fun
  | [] => { results := [.lit (.bool false)], args := [] }
  | _ => none }
def PutNamesWrongFalsely : Prop := putNamesRow.holds Tryz.pinned (OpenSpec.ofChange putNamesWrong)

/-- 'scionrylaw12.PutItems': WHATEVER THE INPUT: true; the input reads as it did. -/
def putItemsSpec : ChangeSpec := { name := "putItems", fn := fun _ => fun
  | [d1, d2, d3, d4] => { results := [.lit (.bool true)], args := [d1, d2, d3, d4] }
  | _ => none }
def putItemsRow : OpenClaim := { program := "ytogieepfimpdmaagreat", sum := "65fa884fc19ab2be0743537869b0a1b531212485401f2ee55c6d4c46a815507c", func := "scionry/scionrylaw12.PutItems", spec := "putItems", inPlace := ["slices.overlaps[scionry/api.Item]"], unfollowed := true, recurses := true, apart := false }
def PutItemsSaid : Prop := putItemsRow.holds Tryz.pinned (OpenSpec.ofChange putItemsSpec)

/-- ITS FALSE NEIGHBOUR: 'it returns false'. Refute it at one input. -/
def putItemsWrong : ChangeSpec := { name := "putItems", fn := fun _ => fun
  | [d1, d2, d3, d4] => { results := [.lit (.bool false)], args := [d1, d2, d3, d4] }
  | _ => none }
def PutItemsWrongFalsely : Prop := putItemsRow.holds Tryz.pinned (OpenSpec.ofChange putItemsWrong)

/-- 'scionrylaw12.PutTells': WHATEVER THE INPUT: true; the input reads as it did. -/
def putTellsSpec : ChangeSpec := { name := "putTells", fn := fun _ => fun
  | [d1, d2, d3, d4] => { results := [.lit (.bool true)], args := [d1, d2, d3, d4] }
  | _ => none }
def putTellsRow : OpenClaim := { program := "ytogieepfimpdmaagreat", sum := "65fa884fc19ab2be0743537869b0a1b531212485401f2ee55c6d4c46a815507c", func := "scionry/scionrylaw12.PutTells", spec := "putTells", inPlace := ["slices.overlaps[scionry/api.Item]"], unfollowed := true, recurses := true, apart := false }
def PutTellsSaid : Prop := putTellsRow.holds Tryz.pinned (OpenSpec.ofChange putTellsSpec)

/-- ITS FALSE NEIGHBOUR: 'it returns false'. Refute it at one input. -/
def putTellsWrong : ChangeSpec := { name := "putTells", fn := fun _ => fun
  | [d1, d2, d3, d4] => { results := [.lit (.bool false)], args := [d1, d2, d3, d4] }
  | _ => none }
def PutTellsWrongFalsely : Prop := putTellsRow.holds Tryz.pinned (OpenSpec.ofChange putTellsWrong)

/-- 'scionrylaw12.PutOrder': WHATEVER THE INPUT: true; the input reads as it did. -/
def putOrderSpec : ChangeSpec := { name := "putOrder", fn := fun _ => fun
  | [d1, d2, d3, d4] => { results := [.lit (.bool true)], args := [d1, d2, d3, d4] }
  | _ => none }
def putOrderRow : OpenClaim := { program := "ytogieepfimpdmaagreat", sum := "65fa884fc19ab2be0743537869b0a1b531212485401f2ee55c6d4c46a815507c", func := "scionry/scionrylaw12.PutOrder", spec := "putOrder", inPlace := ["slices.overlaps[scionry/api.Item]"], unfollowed := true, recurses := true, apart := false }
def PutOrderSaid : Prop := putOrderRow.holds Tryz.pinned (OpenSpec.ofChange putOrderSpec)

/-- ITS FALSE NEIGHBOUR: 'it returns false'. Refute it at one input. -/
def putOrderWrong : ChangeSpec := { name := "putOrder", fn := fun _ => fun
  | [d1, d2, d3, d4] => { results := [.lit (.bool false)], args := [d1, d2, d3, d4] }
  | _ => none }
def PutOrderWrongFalsely : Prop := putOrderRow.holds Tryz.pinned (OpenSpec.ofChange putOrderWrong)

/-- 'scionrylaw12.PutCounts': WHATEVER THE INPUT: true; the input reads as it did. -/
def putCountsSpec : ChangeSpec := { name := "putCounts", fn := fun _ => fun
  | [d1, d2, d3] => { results := [.lit (.bool true)], args := [d1, d2, d3] }
  | _ => none }
def putCountsRow : OpenClaim := { program := "ytogieepfimpdmaagreat", sum := "65fa884fc19ab2be0743537869b0a1b531212485401f2ee55c6d4c46a815507c", func := "scionry/scionrylaw12.PutCounts", spec := "putCounts", inPlace := ["slices.overlaps[scionry/api.Item]"], unfollowed := true, recurses := true, apart := false }
def PutCountsSaid : Prop := putCountsRow.holds Tryz.pinned (OpenSpec.ofChange putCountsSpec)

/-- ITS FALSE NEIGHBOUR: 'it returns false'. Refute it at one input. -/
def putCountsWrong : ChangeSpec := { name := "putCounts", fn := fun _ => fun
  | [d1, d2, d3] => { results := [.lit (.bool false)], args := [d1, d2, d3] }
  | _ => none }
def PutCountsWrongFalsely : Prop := putCountsRow.holds Tryz.pinned (OpenSpec.ofChange putCountsWrong)

/- THE SECOND FORM. 'bulk': how many values and letters a reading holds, each counted each time it is reached (what is shared counts as often as it is met; a slice's spare places count too). A statement '..UptoSaid' is the law's where the arguments, and the package variables that the reading takes, are together of bulk at most 1048576: NARROWER than '..Said'. Prove '..Said' where nothing that the law and all that it calls make is longer than what came in: it says more and counts as full. Else prove '..UptoSaid'. A law counts once. -/
mutual
def uptoBulk {H : Type} : DataW H → Nat
  | .lit (.string bytes) => bytes.length + 1
  | .lit _ => 1
  | .nil => 1
  | .ptr d => uptoBulk d + 1
  | .slice elems spare => uptoBulkAll elems + uptoBulkAll spare + 1
  | .agg parts => uptoBulkAll parts + 1
  | .iface _ d => uptoBulk d + 1
  | .map entries => uptoBulkEntries entries + 1
  | .held _ => 1
def uptoBulkAll {H : Type} : List (DataW H) → Nat
  | [] => 0
  | d :: r => uptoBulk d + uptoBulkAll r
def uptoBulkEntries {H : Type} : List (Lit × DataW H) → Nat
  | [] => 0
  | x :: r => uptoBulkEntry x + uptoBulkEntries r
def uptoBulkEntry {H : Type} : Lit × DataW H → Nat
  | (.string bytes, d) => bytes.length + uptoBulk d + 1
  | (_, d) => uptoBulk d + 1
 end
def uptoSmall : (H : Type) → List (DataW H) → Bool := fun _ ds => decide (uptoBulkAll ds ≤ 1048576)
def OpenSpec.upto (s : _root_.Go.ChangeSpec) : _root_.Go.OpenSpec := { _root_.Go.OpenSpec.ofChange s with cond := some uptoSmall }

/-- 'scionrylaw12.PutNames', WHERE WHAT IT READS IS OF BULK AT MOST 1048576: true; the input reads as it did. -/
def putNamesUptoRow : OpenClaim := { program := "ytogieepfimpdmaagreat", sum := "65fa884fc19ab2be0743537869b0a1b531212485401f2ee55c6d4c46a815507c", func := "scionry/scionrylaw12.PutNames", spec := "putNames", inPlace := ["slices.overlaps[scionry/api.Item]"], unfollowed := true, recurses := true, apart := false, narrowed := true }
def PutNamesUptoSaid : Prop := putNamesUptoRow.holds Tryz.pinned (OpenSpec.upto putNamesSpec)

/-- 'scionrylaw12.PutItems', WHERE WHAT IT READS IS OF BULK AT MOST 1048576: true; the input reads as it did. -/
def putItemsUptoRow : OpenClaim := { program := "ytogieepfimpdmaagreat", sum := "65fa884fc19ab2be0743537869b0a1b531212485401f2ee55c6d4c46a815507c", func := "scionry/scionrylaw12.PutItems", spec := "putItems", inPlace := ["slices.overlaps[scionry/api.Item]"], unfollowed := true, recurses := true, apart := false, narrowed := true }
def PutItemsUptoSaid : Prop := putItemsUptoRow.holds Tryz.pinned (OpenSpec.upto putItemsSpec)

/-- 'scionrylaw12.PutTells', WHERE WHAT IT READS IS OF BULK AT MOST 1048576: true; the input reads as it did. -/
def putTellsUptoRow : OpenClaim := { program := "ytogieepfimpdmaagreat", sum := "65fa884fc19ab2be0743537869b0a1b531212485401f2ee55c6d4c46a815507c", func := "scionry/scionrylaw12.PutTells", spec := "putTells", inPlace := ["slices.overlaps[scionry/api.Item]"], unfollowed := true, recurses := true, apart := false, narrowed := true }
def PutTellsUptoSaid : Prop := putTellsUptoRow.holds Tryz.pinned (OpenSpec.upto putTellsSpec)

/-- 'scionrylaw12.PutOrder', WHERE WHAT IT READS IS OF BULK AT MOST 1048576: true; the input reads as it did. -/
def putOrderUptoRow : OpenClaim := { program := "ytogieepfimpdmaagreat", sum := "65fa884fc19ab2be0743537869b0a1b531212485401f2ee55c6d4c46a815507c", func := "scionry/scionrylaw12.PutOrder", spec := "putOrder", inPlace := ["slices.overlaps[scionry/api.Item]"], unfollowed := true, recurses := true, apart := false, narrowed := true }
def PutOrderUptoSaid : Prop := putOrderUptoRow.holds Tryz.pinned (OpenSpec.upto putOrderSpec)

/-- 'scionrylaw12.PutCounts', WHERE WHAT IT READS IS OF BULK AT MOST 1048576: true; the input reads as it did. -/
def putCountsUptoRow : OpenClaim := { program := "ytogieepfimpdmaagreat", sum := "65fa884fc19ab2be0743537869b0a1b531212485401f2ee55c6d4c46a815507c", func := "scionry/scionrylaw12.PutCounts", spec := "putCounts", inPlace := ["slices.overlaps[scionry/api.Item]"], unfollowed := true, recurses := true, apart := false, narrowed := true }
def PutCountsUptoSaid : Prop := putCountsUptoRow.holds Tryz.pinned (OpenSpec.upto putCountsSpec)

end Rows
end Go.Proofs.YtogieepfimpdmaaGreat
