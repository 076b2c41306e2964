/- tags: Canon, the program's. -/
import Derived.Test.YtgfhanhonfpngaaDoorTh
namespace Go.Proofs.YtgfhanhonfpngaaDoor
open Go.ChangeShapes Go.WideShapes Go.ChangeAt Go.RowKit Go.Joins Go.Deep

open Go.Proofs.TagM Go.Shelf Go.Sort

theorem nil_at (w : World) : TagsAt w (.slice none 0 0) [] := ⟨none, 0, rfl, fun _ => ⟨rfl, rfl⟩, Or.inl rfl⟩
/- a row in order by keys that are not less backward is strictly in order if no key comes twice -/
end Go.Proofs.YtgfhanhonfpngaaDoor

