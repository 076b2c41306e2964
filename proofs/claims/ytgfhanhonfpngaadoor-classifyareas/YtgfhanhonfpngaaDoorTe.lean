/- tags: Number, the program's and the reference's. -/
import Derived.Test.YtgfhanhonfpngaaDoorTd
namespace Go.Proofs.YtgfhanhonfpngaaDoor
open Go.ChangeShapes Go.WideShapes Go.ChangeAt Go.RowKit Go.Joins Go.Deep

open Go.Proofs.TagM Go.Shelf

/- the number that digits denote -/
theorem gt_no : ∀ {l : List Tg} {k : ByteArray}, (gt l k).2 = false → (gt l k).1 = ⟨#[]⟩
  | [], _, _ => rfl
  | t :: l, k, h => by
    rw [gt] at h ⊢
    by_cases e : t.1 = k
    · rw [if_pos e] at h; cases h
    · rw [if_neg e] at h ⊢; exact gt_no h
end Go.Proofs.YtgfhanhonfpngaaDoor

