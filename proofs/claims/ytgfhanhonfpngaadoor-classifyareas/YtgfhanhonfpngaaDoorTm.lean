/- tags: TagsChecks, TagsLooks, TagsCanon. -/
import Derived.Test.YtgfhanhonfpngaaDoorTl
namespace Go.Proofs.YtgfhanhonfpngaaDoor
open Go.ChangeShapes Go.WideShapes Go.ChangeAt Go.RowKit Go.Joins Go.Deep

open Go.Proofs.TagM Go.Shelf Go.Sort

def OpenT (w : World) (v : Value) : Prop := ∃ l, TagsAt w v l
theorem TagsAt.len {w : World} {a : Option Addr} {n cap : Nat} {l : List Tg} (h : TagsAt w (.slice a n cap) l) : l.length = n := by
  obtain ⟨a', cap', e, _⟩ := h
  injection e with e1 e2 e3
  exact e2.symm
end Go.Proofs.YtgfhanhonfpngaaDoor

