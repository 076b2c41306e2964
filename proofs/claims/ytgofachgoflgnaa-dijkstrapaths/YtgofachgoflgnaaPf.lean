/- pq: a heap in which one item was replaced, added or given another key is in order but for it. -/
import Derived.Test.YtgofachgoflgnaaPn
namespace Go.Proofs.Ytgofachgoflgnaa

theorem up_of_heap {le le' : Nat → Nat → Prop} (O : LeOrd le) {h h' : Nat → Nat} {m m' i : Nat} (H : Heap le h m) (hm : m' ≤ m ∨ (m' = m + 1 ∧ i = m))
    (hag : ∀ a b, a ≠ i → b ≠ i → a < m' → b < m' → le (h a) (h b) → le' (h' a) (h' b)) : Up le' h' m' i := by
  constructor
  · intro k k0 km k1 k2
    have pk := par_lt k0
    exact hag _ _ k2 k1 (by omega) km (H k k0 (by omega))
  · intro k k0 km k1 i0
    have pk := par_lt k0
    have pi := par_lt i0
    refine hag _ _ (by omega) (by omega) (by omega) km ?_
    have a := H i i0 (by omega)
    have b := H k k0 (by omega)
    rw [k1] at b
    exact O.trans _ _ _ a b
/- keys that differ for one item only say the same of the others -/
theorem leK_set {ks : List Int} {X : Nat} {y : Int} (hX : X < ks.length) {a b : Nat} (ha : a ≠ X) (hb : b ≠ X) : leK (ks.set X y) a b ↔ leK ks a b := by
  unfold leK bfr
  rw [getD_set _ _ _ _ hX, getD_set _ _ _ _ hX, if_neg (Ne.symm ha), if_neg (Ne.symm hb)]
/- a row without its last -/
theorem getD_dropLast (l : List Int) {k : Nat} (h : k < l.length - 1) : l.dropLast.getD k 0 = l.getD k 0 := by
  rw [List.getD, List.getD, List.getElem?_dropLast, if_pos h]
end Go.Proofs.Ytgofachgoflgnaa
