/-
  No cell of these rows narrows 'for every input' (looked for: loops, veiled, ifaces, maps, wideKeys, modest, calm, conditions, laid).
  DERIVED. THE GIVEN ROWS OF THIS SEAT. 6 by the template 'for every input the law returns true; each argument reads behind the call as it read before'; 0 by the template 'total and deterministic' (their statements: YtmefejbbnfgbeaaTotals.lean).
  GIVEN WITH THE SEED: the statements are not yours to turn. If you find one false, say at which input.
  Laid BY PROGRAM, IN A SANDBOX (cutbox-rows.mjs): the forced cells as the released guide's own fill.sh prints them over the translation 235c26203f61fc5c… (all of the seat's roots in one cut). By AI agents, Wed Nov 11 2026. No macro, syntax, notation, axiom, sorry.
-/
import Derived.Test.YtmefejbbnfgbeaaChecked
import GoSem.Claim
import GoSem.ClaimJoined
import GoSem.ClaimMapViews
import Derived.JoinedTies
import Derived.KernelRfl
namespace Go.Proofs.Ytmefejbbnfgbeaa
/- THE CELL 'sum', in the pinned program and in every row, IS THE sha256 OF THE DUMP (.gsa) THAT YtmefejbbnfgbeaaProg.lean LOADS. Nothing in Lean hashes anything: it is a label: what it is worth is what the hold of that sum in a sandbox is worth. -/
noncomputable def Try.pinned : Pinned := { name := "ytmefejbbnfgbeaa", sum := "235c26203f61fc5c18b1c78a71135d864f5401b6863141c4f570b1e203d534f0", checked := Try.checked }
namespace Rows
def none {H : Type} : Left H := { results := [], args := [] }

/-- 'scionrylaw05.ItemNames': WHATEVER THE INPUT: true; the input reads as it did. -/
def itemNamesSpec : ChangeSpec := { name := "itemNames", fn := fun _ => fun
  | [] => { results := [.lit (.bool true)], args := [] }
  | _ => none }
def itemNamesRow : OpenClaim := { program := "ytmefejbbnfgbeaa", sum := "235c26203f61fc5c18b1c78a71135d864f5401b6863141c4f570b1e203d534f0", func := "scionry/scionrylaw05.ItemNames", spec := "itemNames", unfollowed := true, recurses := true, apart := false }
def ItemNamesSaid : Prop := itemNamesRow.holds Try.pinned (OpenSpec.ofChange itemNamesSpec)

/-- ITS FALSE NEIGHBOUR: 'it returns false'. Refute it at one input. -/
def itemNamesWrong : ChangeSpec := { name := "itemNames", fn := fun _ => fun
  | [] => { results := [.lit (.bool false)], args := [] }
  | _ => none }
def ItemNamesWrongFalsely : Prop := itemNamesRow.holds Try.pinned (OpenSpec.ofChange itemNamesWrong)

/-- 'scionrylaw05.ItemCodes': WHATEVER THE INPUT: true; the input reads as it did. -/
def itemCodesSpec : ChangeSpec := { name := "itemCodes", fn := fun _ => fun
  | [d1, d2, d3] => { results := [.lit (.bool true)], args := [d1, d2, d3] }
  | _ => none }
def itemCodesRow : OpenClaim := { program := "ytmefejbbnfgbeaa", sum := "235c26203f61fc5c18b1c78a71135d864f5401b6863141c4f570b1e203d534f0", func := "scionry/scionrylaw05.ItemCodes", spec := "itemCodes", unfollowed := true, recurses := true, apart := false }
def ItemCodesSaid : Prop := itemCodesRow.holds Try.pinned (OpenSpec.ofChange itemCodesSpec)

/-- ITS FALSE NEIGHBOUR: 'it returns false'. Refute it at one input. -/
def itemCodesWrong : ChangeSpec := { name := "itemCodes", fn := fun _ => fun
  | [d1, d2, d3] => { results := [.lit (.bool false)], args := [d1, d2, d3] }
  | _ => none }
def ItemCodesWrongFalsely : Prop := itemCodesRow.holds Try.pinned (OpenSpec.ofChange itemCodesWrong)

/-- 'scionrylaw05.ItemOrder': WHATEVER THE INPUT: true; the input reads as it did. -/
def itemOrderSpec : ChangeSpec := { name := "itemOrder", fn := fun _ => fun
  | [d1, d2, d3] => { results := [.lit (.bool true)], args := [d1, d2, d3] }
  | _ => none }
def itemOrderRow : OpenClaim := { program := "ytmefejbbnfgbeaa", sum := "235c26203f61fc5c18b1c78a71135d864f5401b6863141c4f570b1e203d534f0", func := "scionry/scionrylaw05.ItemOrder", spec := "itemOrder", apart := false }
def ItemOrderSaid : Prop := itemOrderRow.holds Try.pinned (OpenSpec.ofChange itemOrderSpec)

/-- ITS FALSE NEIGHBOUR: 'it returns false'. Refute it at one input. -/
def itemOrderWrong : ChangeSpec := { name := "itemOrder", fn := fun _ => fun
  | [d1, d2, d3] => { results := [.lit (.bool false)], args := [d1, d2, d3] }
  | _ => none }
def ItemOrderWrongFalsely : Prop := itemOrderRow.holds Try.pinned (OpenSpec.ofChange itemOrderWrong)

/-- 'scionrylaw05.ItemBack': WHATEVER THE INPUT: true; the input reads as it did. -/
def itemBackSpec : ChangeSpec := { name := "itemBack", fn := fun _ => fun
  | [d1, d2, d3] => { results := [.lit (.bool true)], args := [d1, d2, d3] }
  | _ => none }
def itemBackRow : OpenClaim := { program := "ytmefejbbnfgbeaa", sum := "235c26203f61fc5c18b1c78a71135d864f5401b6863141c4f570b1e203d534f0", func := "scionry/scionrylaw05.ItemBack", spec := "itemBack", unfollowed := true, recurses := true, apart := false }
def ItemBackSaid : Prop := itemBackRow.holds Try.pinned (OpenSpec.ofChange itemBackSpec)

/-- ITS FALSE NEIGHBOUR: 'it returns false'. Refute it at one input. -/
def itemBackWrong : ChangeSpec := { name := "itemBack", fn := fun _ => fun
  | [d1, d2, d3] => { results := [.lit (.bool false)], args := [d1, d2, d3] }
  | _ => none }
def ItemBackWrongFalsely : Prop := itemBackRow.holds Try.pinned (OpenSpec.ofChange itemBackWrong)

/-- 'scionrylaw05.ItemUnlike': WHATEVER THE INPUT: true; the input reads as it did. -/
def itemUnlikeSpec : ChangeSpec := { name := "itemUnlike", fn := fun _ => fun
  | [d1, d2] => { results := [.lit (.bool true)], args := [d1, d2] }
  | _ => none }
def itemUnlikeRow : OpenClaim := { program := "ytmefejbbnfgbeaa", sum := "235c26203f61fc5c18b1c78a71135d864f5401b6863141c4f570b1e203d534f0", func := "scionry/scionrylaw05.ItemUnlike", spec := "itemUnlike", apart := false }
def ItemUnlikeSaid : Prop := itemUnlikeRow.holds Try.pinned (OpenSpec.ofChange itemUnlikeSpec)

/-- ITS FALSE NEIGHBOUR: 'it returns false'. Refute it at one input. -/
def itemUnlikeWrong : ChangeSpec := { name := "itemUnlike", fn := fun _ => fun
  | [d1, d2] => { results := [.lit (.bool false)], args := [d1, d2] }
  | _ => none }
def ItemUnlikeWrongFalsely : Prop := itemUnlikeRow.holds Try.pinned (OpenSpec.ofChange itemUnlikeWrong)

/-- 'scionrylaw05.ItemTwins': WHATEVER THE INPUT: true; the input reads as it did. -/
def itemTwinsSpec : ChangeSpec := { name := "itemTwins", fn := fun _ => fun
  | [d1, d2] => { results := [.lit (.bool true)], args := [d1, d2] }
  | _ => none }
def itemTwinsRow : OpenClaim := { program := "ytmefejbbnfgbeaa", sum := "235c26203f61fc5c18b1c78a71135d864f5401b6863141c4f570b1e203d534f0", func := "scionry/scionrylaw05.ItemTwins", spec := "itemTwins", apart := false }
def ItemTwinsSaid : Prop := itemTwinsRow.holds Try.pinned (OpenSpec.ofChange itemTwinsSpec)

/-- ITS FALSE NEIGHBOUR: 'it returns false'. Refute it at one input. -/
def itemTwinsWrong : ChangeSpec := { name := "itemTwins", fn := fun _ => fun
  | [d1, d2] => { results := [.lit (.bool false)], args := [d1, d2] }
  | _ => none }
def ItemTwinsWrongFalsely : Prop := itemTwinsRow.holds Try.pinned (OpenSpec.ofChange itemTwinsWrong)

/- THE SECOND FORM. 'bulk': how many values and letters a reading holds, each counted each time it is reached (what is shared counts as often as it is met; a slice's spare places count too). A statement '..UptoSaid' is the law's where the arguments, and the package variables that the reading takes, are together of bulk at most 1048576: NARROWER than '..Said'. Prove '..Said' where nothing that the law and all that it calls make is longer than what came in: it says more and counts as full. Else prove '..UptoSaid'. A law counts once. -/
mutual
def uptoBulk {H : Type} : DataW H → Nat
  | .lit (.string bytes) => bytes.length + 1
  | .lit _ => 1
  | .nil => 1
  | .ptr d => uptoBulk d + 1
  | .slice elems spare => uptoBulkAll elems + uptoBulkAll spare + 1
  | .agg parts => uptoBulkAll parts + 1
  | .iface _ d => uptoBulk d + 1
  | .map entries => uptoBulkEntries entries + 1
  | .held _ => 1
def uptoBulkAll {H : Type} : List (DataW H) → Nat
  | [] => 0
  | d :: r => uptoBulk d + uptoBulkAll r
def uptoBulkEntries {H : Type} : List (Lit × DataW H) → Nat
  | [] => 0
  | x :: r => uptoBulkEntry x + uptoBulkEntries r
def uptoBulkEntry {H : Type} : Lit × DataW H → Nat
  | (.string bytes, d) => bytes.length + uptoBulk d + 1
  | (_, d) => uptoBulk d + 1
 end
def uptoSmall : (H : Type) → List (DataW H) → Bool := fun _ ds => decide (uptoBulkAll ds ≤ 1048576)
def OpenSpec.upto (s : _root_.Go.ChangeSpec) : _root_.Go.OpenSpec := { _root_.Go.OpenSpec.ofChange s with cond := some uptoSmall }

/-- 'scionrylaw05.ItemNames', WHERE WHAT IT READS IS OF BULK AT MOST 1048576: true; the input reads as it did. -/
def itemNamesUptoRow : OpenClaim := { program := "ytmefejbbnfgbeaa", sum := "235c26203f61fc5c18b1c78a71135d864f5401b6863141c4f570b1e203d534f0", func := "scionry/scionrylaw05.ItemNames", spec := "itemNames", unfollowed := true, recurses := true, apart := false, narrowed := true }
def ItemNamesUptoSaid : Prop := itemNamesUptoRow.holds Try.pinned (OpenSpec.upto itemNamesSpec)

/-- 'scionrylaw05.ItemCodes', WHERE WHAT IT READS IS OF BULK AT MOST 1048576: true; the input reads as it did. -/
def itemCodesUptoRow : OpenClaim := { program := "ytmefejbbnfgbeaa", sum := "235c26203f61fc5c18b1c78a71135d864f5401b6863141c4f570b1e203d534f0", func := "scionry/scionrylaw05.ItemCodes", spec := "itemCodes", unfollowed := true, recurses := true, apart := false, narrowed := true }
def ItemCodesUptoSaid : Prop := itemCodesUptoRow.holds Try.pinned (OpenSpec.upto itemCodesSpec)

/-- 'scionrylaw05.ItemOrder', WHERE WHAT IT READS IS OF BULK AT MOST 1048576: true; the input reads as it did. -/
def itemOrderUptoRow : OpenClaim := { program := "ytmefejbbnfgbeaa", sum := "235c26203f61fc5c18b1c78a71135d864f5401b6863141c4f570b1e203d534f0", func := "scionry/scionrylaw05.ItemOrder", spec := "itemOrder", apart := false, narrowed := true }
def ItemOrderUptoSaid : Prop := itemOrderUptoRow.holds Try.pinned (OpenSpec.upto itemOrderSpec)

/-- 'scionrylaw05.ItemBack', WHERE WHAT IT READS IS OF BULK AT MOST 1048576: true; the input reads as it did. -/
def itemBackUptoRow : OpenClaim := { program := "ytmefejbbnfgbeaa", sum := "235c26203f61fc5c18b1c78a71135d864f5401b6863141c4f570b1e203d534f0", func := "scionry/scionrylaw05.ItemBack", spec := "itemBack", unfollowed := true, recurses := true, apart := false, narrowed := true }
def ItemBackUptoSaid : Prop := itemBackUptoRow.holds Try.pinned (OpenSpec.upto itemBackSpec)

/-- 'scionrylaw05.ItemUnlike', WHERE WHAT IT READS IS OF BULK AT MOST 1048576: true; the input reads as it did. -/
def itemUnlikeUptoRow : OpenClaim := { program := "ytmefejbbnfgbeaa", sum := "235c26203f61fc5c18b1c78a71135d864f5401b6863141c4f570b1e203d534f0", func := "scionry/scionrylaw05.ItemUnlike", spec := "itemUnlike", apart := false, narrowed := true }
def ItemUnlikeUptoSaid : Prop := itemUnlikeUptoRow.holds Try.pinned (OpenSpec.upto itemUnlikeSpec)

/-- 'scionrylaw05.ItemTwins', WHERE WHAT IT READS IS OF BULK AT MOST 1048576: true; the input reads as it did. -/
def itemTwinsUptoRow : OpenClaim := { program := "ytmefejbbnfgbeaa", sum := "235c26203f61fc5c18b1c78a71135d864f5401b6863141c4f570b1e203d534f0", func := "scionry/scionrylaw05.ItemTwins", spec := "itemTwins", apart := false, narrowed := true }
def ItemTwinsUptoSaid : Prop := itemTwinsUptoRow.holds Try.pinned (OpenSpec.upto itemTwinsSpec)

end Rows
end Go.Proofs.Ytmefejbbnfgbeaa
