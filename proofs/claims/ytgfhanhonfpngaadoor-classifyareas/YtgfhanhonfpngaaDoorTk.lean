/- tags: Canon, the reference's. -/
import Derived.Test.YtgfhanhonfpngaaDoorTt
namespace Go.Proofs.YtgfhanhonfpngaaDoor
open Go.ChangeShapes Go.WideShapes Go.ChangeAt Go.RowKit Go.Joins Go.Deep

open Go.Proofs.TagM Go.Shelf Go.Sort

theorem stI_perm (k v : ByteArray) : ∀ l : List Tg, (stI k v l).Perm ((k, v) :: l)
  | [] => List.Perm.refl _
  | t :: l => by
    rw [stI]
    by_cases h : klt k t.1 = true
    · rw [if_pos h]
    · rw [if_neg h]
      exact ((stI_perm k v l).cons t).trans (List.Perm.swap _ _ _)
theorem stI_sk {k v : ByteArray} : ∀ {l : List Tg}, SK l → (∀ t ∈ l, t.1 ≠ k) → SK (stI k v l)
  | [], _, _ => List.pairwise_singleton _ _
  | t :: l, hs, hn => by
    unfold SK at hs ⊢
    rw [List.pairwise_cons] at hs
    rw [stI]
    by_cases h : klt k t.1 = true
    · rw [if_pos h, List.pairwise_cons, List.pairwise_cons]
      refine ⟨fun u hu => ?_, hs.1, hs.2⟩
      rcases List.mem_cons.1 hu with rfl | hu
      · exact h
      · exact klt_trans h (hs.1 u hu)
    · rw [if_neg h, List.pairwise_cons]
      refine ⟨fun u hu => ?_, stI_sk hs.2 fun u hu => hn u (List.mem_cons_of_mem _ hu)⟩
      rcases List.mem_cons.1 ((stI_perm k v l).mem_iff.1 hu) with rfl | hu
      · cases hh : klt t.1 k with
        | true => rfl
        | false => exact absurd (klt_tri hh (by simpa using h)) (hn t (List.mem_cons_self ..))
      · exact hs.1 u hu
end Go.Proofs.YtgfhanhonfpngaaDoor

