/-
  Package code: slices.Backward over bytes, and gather, which ranges over it. Conditions: those that each lemma states.
-/
import Derived.Test.YtkedhekcjoiebaaCode
import Derived.RangeFuncNested
import Derived.RangeFuncBox
import Derived.RangeFuncBound
import Derived.RangeFuncCalls
import Derived.RangeFuncLeaves
import Derived.Shelf.Abstract
import Derived.Shelf.RegionOpen
import Derived.OwnWalkIn
import Derived.TacticsInMore
import Derived.LoopNIn
import Derived.LoopIn
namespace Go.Proofs.Ytkedhekcjoiebaa
open Go.RowKit Go.Shelf
attribute [local go_sem] Oper.semAt_some

/-- What a round keeps: all that lay below block n₀, and the box Bs. -/
def Keeps (n₀ Bs : Nat) (A B : World) : Prop := Below n₀ A B ∧ B.cell? ⟨Bs, 0, none⟩ = A.cell? ⟨Bs, 0, none⟩
theorem Keeps.trans {n₀ Bs : Nat} {A B C : World} (h : Keeps n₀ Bs A B) (h' : Keeps n₀ Bs B C) : Keeps n₀ Bs A C := ⟨h.1.trans h'.1, h'.2.trans h.2⟩

/-- What the loop itself turns keeps it. -/
theorem keeps_b {W w : World} {Bs n₀ : Nat} (hBs : Bs < w.heap.size) (hn₀ : n₀ ≤ w.heap.size) (l : Nat) (o o' : Obj) (hl : w.heap.size ≤ l) (h1 : W.heap[l]? = some o) (h2 : o.isCells = false) (h3 : o.isWalk = false) : Keeps n₀ Bs W (W.putObj l o') :=
  ⟨belowK_b hn₀ W l o o' hl h1 h2 h3, World.cell?_of_block (World.putObj_heap_other (k := Bs) (by omega))⟩

end Go.Proofs.Ytkedhekcjoiebaa
