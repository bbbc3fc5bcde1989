/-
  No cell of these rows narrows 'for every input' (looked for: loops, veiled, ifaces, maps, wideKeys, modest, calm, conditions, laid).
  DERIVED. THE GIVEN ROWS OF THIS SEAT. 6 by the template 'for every input the law returns true; each argument reads behind the call as it read before'; 0 by the template 'total and deterministic' (their statements: YtgmbjnajdfgenaaGreatTotals.lean).
  GIVEN WITH THE SEED: the statements are not yours to turn. If you find one false, say at which input.
  Laid BY PROGRAM, IN A SANDBOX (cutbox-rows.mjs): the forced cells as the released guide's own fill.sh prints them over the translation d1614979b493c7fc… (all of the seat's roots in one cut). By AI agents, Wed Nov 11 2026. No macro, syntax, notation, axiom, sorry.
-/
import Derived.Test.YtgmbjnajdfgenaaGreatChecked
import GoSem.Claim
import GoSem.ClaimJoined
import GoSem.ClaimMapViews
import Derived.JoinedTies
import Derived.KernelRfl
namespace Go.Proofs.YtgmbjnajdfgenaaGreat
/- THE CELL 'sum', in the pinned program and in every row, IS THE sha256 OF THE DUMP (.gsa) THAT YtgmbjnajdfgenaaGreatProg.lean LOADS. Nothing in Lean hashes anything: it is a label: what it is worth is what the hold of that sum in a sandbox is worth. -/
noncomputable def Tryz.pinned : Pinned := { name := "ytgmbjnajdfgenaagreat", sum := "d1614979b493c7fc51ba7cc6052aae8c252b8d1e6848f41083395f6ba618085e", checked := Tryz.checked }
namespace Rows
def none {H : Type} : Left H := { results := [], args := [] }

/-- 'scionrylaw13.DelNames': WHATEVER THE INPUT: true; the input reads as it did. -/
def delNamesSpec : ChangeSpec := { name := "delNames", fn := fun _ => fun
  | [] => { results := [.lit (.bool true)], args := [] }
  | _ => none }
def delNamesRow : OpenClaim := { program := "ytgmbjnajdfgenaagreat", sum := "d1614979b493c7fc51ba7cc6052aae8c252b8d1e6848f41083395f6ba618085e", func := "scionry/scionrylaw13.DelNames", spec := "delNames", inPlace := ["slices.overlaps[scionry/api.Item]"], unfollowed := true, recurses := true, apart := false }
def DelNamesSaid : Prop := delNamesRow.holds Tryz.pinned (OpenSpec.ofChange delNamesSpec)

/-- ITS FALSE NEIGHBOUR: 'it returns false'. Refute it at one input. -/
def delNamesWrong : ChangeSpec := { name := "delNames", fn := fun _ => fun
  | [] => { results := [.lit (.bool false)], args := [] }
  | _ => none }
def DelNamesWrongFalsely : Prop := delNamesRow.holds Tryz.pinned (OpenSpec.ofChange delNamesWrong)

/-- 'scionrylaw13.DelDoes': WHATEVER THE INPUT: true; the input reads as it did. -/
def delDoesSpec : ChangeSpec := { name := "delDoes", fn := fun _ => fun
  | [d1, d2, d3] => { results := [.lit (.bool true)], args := [d1, d2, d3] }
  | _ => none }
def delDoesRow : OpenClaim := { program := "ytgmbjnajdfgenaagreat", sum := "d1614979b493c7fc51ba7cc6052aae8c252b8d1e6848f41083395f6ba618085e", func := "scionry/scionrylaw13.DelDoes", spec := "delDoes", inPlace := ["slices.overlaps[scionry/api.Item]"], unfollowed := true, recurses := true, apart := false }
def DelDoesSaid : Prop := delDoesRow.holds Tryz.pinned (OpenSpec.ofChange delDoesSpec)

/-- ITS FALSE NEIGHBOUR: 'it returns false'. Refute it at one input. -/
def delDoesWrong : ChangeSpec := { name := "delDoes", fn := fun _ => fun
  | [d1, d2, d3] => { results := [.lit (.bool false)], args := [d1, d2, d3] }
  | _ => none }
def DelDoesWrongFalsely : Prop := delDoesRow.holds Tryz.pinned (OpenSpec.ofChange delDoesWrong)

/-- 'scionrylaw13.DelItems': WHATEVER THE INPUT: true; the input reads as it did. -/
def delItemsSpec : ChangeSpec := { name := "delItems", fn := fun _ => fun
  | [d1, d2, d3, d4] => { results := [.lit (.bool true)], args := [d1, d2, d3, d4] }
  | _ => none }
def delItemsRow : OpenClaim := { program := "ytgmbjnajdfgenaagreat", sum := "d1614979b493c7fc51ba7cc6052aae8c252b8d1e6848f41083395f6ba618085e", func := "scionry/scionrylaw13.DelItems", spec := "delItems", inPlace := ["slices.overlaps[scionry/api.Item]"], unfollowed := true, recurses := true, apart := false }
def DelItemsSaid : Prop := delItemsRow.holds Tryz.pinned (OpenSpec.ofChange delItemsSpec)

/-- ITS FALSE NEIGHBOUR: 'it returns false'. Refute it at one input. -/
def delItemsWrong : ChangeSpec := { name := "delItems", fn := fun _ => fun
  | [d1, d2, d3, d4] => { results := [.lit (.bool false)], args := [d1, d2, d3, d4] }
  | _ => none }
def DelItemsWrongFalsely : Prop := delItemsRow.holds Tryz.pinned (OpenSpec.ofChange delItemsWrong)

/-- 'scionrylaw13.DelUndoes': WHATEVER THE INPUT: true; the input reads as it did. -/
def delUndoesSpec : ChangeSpec := { name := "delUndoes", fn := fun _ => fun
  | [d1, d2, d3, d4] => { results := [.lit (.bool true)], args := [d1, d2, d3, d4] }
  | _ => none }
def delUndoesRow : OpenClaim := { program := "ytgmbjnajdfgenaagreat", sum := "d1614979b493c7fc51ba7cc6052aae8c252b8d1e6848f41083395f6ba618085e", func := "scionry/scionrylaw13.DelUndoes", spec := "delUndoes", inPlace := ["slices.overlaps[scionry/api.Item]"], unfollowed := true, recurses := true, apart := false }
def DelUndoesSaid : Prop := delUndoesRow.holds Tryz.pinned (OpenSpec.ofChange delUndoesSpec)

/-- ITS FALSE NEIGHBOUR: 'it returns false'. Refute it at one input. -/
def delUndoesWrong : ChangeSpec := { name := "delUndoes", fn := fun _ => fun
  | [d1, d2, d3, d4] => { results := [.lit (.bool false)], args := [d1, d2, d3, d4] }
  | _ => none }
def DelUndoesWrongFalsely : Prop := delUndoesRow.holds Tryz.pinned (OpenSpec.ofChange delUndoesWrong)

/-- 'scionrylaw13.DelOrder': WHATEVER THE INPUT: true; the input reads as it did. -/
def delOrderSpec : ChangeSpec := { name := "delOrder", fn := fun _ => fun
  | [d1, d2, d3, d4] => { results := [.lit (.bool true)], args := [d1, d2, d3, d4] }
  | _ => none }
def delOrderRow : OpenClaim := { program := "ytgmbjnajdfgenaagreat", sum := "d1614979b493c7fc51ba7cc6052aae8c252b8d1e6848f41083395f6ba618085e", func := "scionry/scionrylaw13.DelOrder", spec := "delOrder", inPlace := ["slices.overlaps[scionry/api.Item]"], unfollowed := true, recurses := true, apart := false }
def DelOrderSaid : Prop := delOrderRow.holds Tryz.pinned (OpenSpec.ofChange delOrderSpec)

/-- ITS FALSE NEIGHBOUR: 'it returns false'. Refute it at one input. -/
def delOrderWrong : ChangeSpec := { name := "delOrder", fn := fun _ => fun
  | [d1, d2, d3, d4] => { results := [.lit (.bool false)], args := [d1, d2, d3, d4] }
  | _ => none }
def DelOrderWrongFalsely : Prop := delOrderRow.holds Tryz.pinned (OpenSpec.ofChange delOrderWrong)

/-- 'scionrylaw13.DelCounts': WHATEVER THE INPUT: true; the input reads as it did. -/
def delCountsSpec : ChangeSpec := { name := "delCounts", fn := fun _ => fun
  | [d1, d2, d3] => { results := [.lit (.bool true)], args := [d1, d2, d3] }
  | _ => none }
def delCountsRow : OpenClaim := { program := "ytgmbjnajdfgenaagreat", sum := "d1614979b493c7fc51ba7cc6052aae8c252b8d1e6848f41083395f6ba618085e", func := "scionry/scionrylaw13.DelCounts", spec := "delCounts", inPlace := ["slices.overlaps[scionry/api.Item]"], unfollowed := true, recurses := true, apart := false }
def DelCountsSaid : Prop := delCountsRow.holds Tryz.pinned (OpenSpec.ofChange delCountsSpec)

/-- ITS FALSE NEIGHBOUR: 'it returns false'. Refute it at one input. -/
def delCountsWrong : ChangeSpec := { name := "delCounts", fn := fun _ => fun
  | [d1, d2, d3] => { results := [.lit (.bool false)], args := [d1, d2, d3] }
  | _ => none }
def DelCountsWrongFalsely : Prop := delCountsRow.holds Tryz.pinned (OpenSpec.ofChange delCountsWrong)

/- THE SECOND FORM. 'bulk': how many values and letters a reading holds, each counted each time it is reached (what is shared counts as often as it is met; a slice's spare places count too). A statement '..UptoSaid' is the law's where the arguments, and the package variables that the reading takes, are together of bulk at most 1048576: NARROWER than '..Said'. Prove '..Said' where nothing that the law and all that it calls make is longer than what came in: it says more and counts as full. Else prove '..UptoSaid'. A law counts once. -/
mutual
def uptoBulk {H : Type} : DataW H → Nat
  | .lit (.string bytes) => bytes.length + 1
  | .lit _ => 1
  | .nil => 1
  | .ptr d => uptoBulk d + 1
  | .slice elems spare => uptoBulkAll elems + uptoBulkAll spare + 1
  | .agg parts => uptoBulkAll parts + 1
  | .iface _ d => uptoBulk d + 1
  | .map entries => uptoBulkEntries entries + 1
  | .held _ => 1
def uptoBulkAll {H : Type} : List (DataW H) → Nat
  | [] => 0
  | d :: r => uptoBulk d + uptoBulkAll r
def uptoBulkEntries {H : Type} : List (Lit × DataW H) → Nat
  | [] => 0
  | x :: r => uptoBulkEntry x + uptoBulkEntries r
def uptoBulkEntry {H : Type} : Lit × DataW H → Nat
  | (.string bytes, d) => bytes.length + uptoBulk d + 1
  | (_, d) => uptoBulk d + 1
 end
def uptoSmall : (H : Type) → List (DataW H) → Bool := fun _ ds => decide (uptoBulkAll ds ≤ 1048576)
def OpenSpec.upto (s : _root_.Go.ChangeSpec) : _root_.Go.OpenSpec := { _root_.Go.OpenSpec.ofChange s with cond := some uptoSmall }

/-- 'scionrylaw13.DelNames', WHERE WHAT IT READS IS OF BULK AT MOST 1048576: true; the input reads as it did. -/
def delNamesUptoRow : OpenClaim := { program := "ytgmbjnajdfgenaagreat", sum := "d1614979b493c7fc51ba7cc6052aae8c252b8d1e6848f41083395f6ba618085e", func := "scionry/scionrylaw13.DelNames", spec := "delNames", inPlace := ["slices.overlaps[scionry/api.Item]"], unfollowed := true, recurses := true, apart := false, narrowed := true }
def DelNamesUptoSaid : Prop := delNamesUptoRow.holds Tryz.pinned (OpenSpec.upto delNamesSpec)

/-- 'scionrylaw13.DelDoes', WHERE WHAT IT READS IS OF BULK AT MOST 1048576: true; the input reads as it did. -/
def delDoesUptoRow : OpenClaim := { program := "ytgmbjnajdfgenaagreat", sum := "d1614979b493c7fc51ba7cc6052aae8c252b8d1e6848f41083395f6ba618085e", func := "scionry/scionrylaw13.DelDoes", spec := "delDoes", inPlace := ["slices.overlaps[scionry/api.Item]"], unfollowed := true, recurses := true, apart := false, narrowed := true }
def DelDoesUptoSaid : Prop := delDoesUptoRow.holds Tryz.pinned (OpenSpec.upto delDoesSpec)

/-- 'scionrylaw13.DelItems', WHERE WHAT IT READS IS OF BULK AT MOST 1048576: true; the input reads as it did. -/
def delItemsUptoRow : OpenClaim := { program := "ytgmbjnajdfgenaagreat", sum := "d1614979b493c7fc51ba7cc6052aae8c252b8d1e6848f41083395f6ba618085e", func := "scionry/scionrylaw13.DelItems", spec := "delItems", inPlace := ["slices.overlaps[scionry/api.Item]"], unfollowed := true, recurses := true, apart := false, narrowed := true }
def DelItemsUptoSaid : Prop := delItemsUptoRow.holds Tryz.pinned (OpenSpec.upto delItemsSpec)

/-- 'scionrylaw13.DelUndoes', WHERE WHAT IT READS IS OF BULK AT MOST 1048576: true; the input reads as it did. -/
def delUndoesUptoRow : OpenClaim := { program := "ytgmbjnajdfgenaagreat", sum := "d1614979b493c7fc51ba7cc6052aae8c252b8d1e6848f41083395f6ba618085e", func := "scionry/scionrylaw13.DelUndoes", spec := "delUndoes", inPlace := ["slices.overlaps[scionry/api.Item]"], unfollowed := true, recurses := true, apart := false, narrowed := true }
def DelUndoesUptoSaid : Prop := delUndoesUptoRow.holds Tryz.pinned (OpenSpec.upto delUndoesSpec)

/-- 'scionrylaw13.DelOrder', WHERE WHAT IT READS IS OF BULK AT MOST 1048576: true; the input reads as it did. -/
def delOrderUptoRow : OpenClaim := { program := "ytgmbjnajdfgenaagreat", sum := "d1614979b493c7fc51ba7cc6052aae8c252b8d1e6848f41083395f6ba618085e", func := "scionry/scionrylaw13.DelOrder", spec := "delOrder", inPlace := ["slices.overlaps[scionry/api.Item]"], unfollowed := true, recurses := true, apart := false, narrowed := true }
def DelOrderUptoSaid : Prop := delOrderUptoRow.holds Tryz.pinned (OpenSpec.upto delOrderSpec)

/-- 'scionrylaw13.DelCounts', WHERE WHAT IT READS IS OF BULK AT MOST 1048576: true; the input reads as it did. -/
def delCountsUptoRow : OpenClaim := { program := "ytgmbjnajdfgenaagreat", sum := "d1614979b493c7fc51ba7cc6052aae8c252b8d1e6848f41083395f6ba618085e", func := "scionry/scionrylaw13.DelCounts", spec := "delCounts", inPlace := ["slices.overlaps[scionry/api.Item]"], unfollowed := true, recurses := true, apart := false, narrowed := true }
def DelCountsUptoSaid : Prop := delCountsUptoRow.holds Tryz.pinned (OpenSpec.upto delCountsSpec)

end Rows
end Go.Proofs.YtgmbjnajdfgenaaGreat
