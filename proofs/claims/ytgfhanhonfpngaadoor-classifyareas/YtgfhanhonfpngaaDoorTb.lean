/- tags: Check, the program's and the reference's. -/
import Derived.Test.YtgfhanhonfpngaaDoorTa
namespace Go.Proofs.YtgfhanhonfpngaaDoor
open Go.ChangeShapes Go.WideShapes Go.ChangeAt Go.RowKit Go.Joins Go.Deep

open Go.Proofs.TagM

theorem bl_lt {a b : ByteArray} (h : klt a b = true) : Op.bytesLess a.toList b.toList = true := by
  rw [bytesLess_eq, Lib.toList_data, Lib.toList_data]; exact h
theorem bl_nlt {a b : ByteArray} (h : klt a b = false) : Op.bytesLess a.toList b.toList = false := by
  rw [bytesLess_eq, Lib.toList_data, Lib.toList_data]; exact h
theorem chkT_long {l : List Tg} (h : 16 < l.length) : chkT l = 5 := if_pos h
theorem chkT_from {l : List Tg} (h : ¬ 16 < l.length) : chkT l = chkAt l 0 := if_neg h
theorem chkAt_bad {l : List Tg} {k : Nat} (h : k < l.length) (hv : ¬ vld (l.getD k default)) : chkAt l k = 10 := by
  rw [chkAt, dif_pos h, if_pos hv]
end Go.Proofs.YtgfhanhonfpngaaDoor

