/- pq: the order of a heap, and what moving one item up or down keeps. -/
import Derived.Test.YtgofachgoflgnaaRows
namespace Go.Proofs.Ytgofachgoflgnaa
/- le a b: b does not leave before a -/
structure LeOrd (le : Nat → Nat → Prop) : Prop where
  total : ∀ a b, le a b ∨ le b a
  trans : ∀ a b c, le a b → le b c → le a c
def par (k : Nat) : Nat := (k - 1) / 2
def swp (h : Nat → Nat) (i j : Nat) : Nat → Nat := fun k => if k = i then h j else if k = j then h i else h k
/- every item but those that touch position i is in order, and those below i are behind the one above i -/
structure Up (le : Nat → Nat → Prop) (h : Nat → Nat) (m i : Nat) : Prop where
  others : ∀ k, 0 < k → k < m → k ≠ i → par k ≠ i → le (h (par k)) (h k)
  grand : ∀ k, 0 < k → k < m → par k = i → 0 < i → le (h (par i)) (h k)
structure Down (le : Nat → Nat → Prop) (h : Nat → Nat) (m i : Nat) : Prop where
  others : ∀ k, 0 < k → k < m → par k ≠ i → le (h (par k)) (h k)
  grand : ∀ k, 0 < k → k < m → par k = i → 0 < i → le (h (par i)) (h k)
def Heap (le : Nat → Nat → Prop) (h : Nat → Nat) (m : Nat) : Prop := ∀ k, 0 < k → k < m → le (h (par k)) (h k)
theorem par_lt {k : Nat} (h : 0 < k) : par k < k := by unfold par; omega
theorem swp_l (h : Nat → Nat) (i j : Nat) : swp h i j i = h j := by unfold swp; rw [if_pos rfl]
theorem swp_r (h : Nat → Nat) (i j : Nat) : swp h i j j = h i := by
  unfold swp; by_cases e : j = i
  · rw [if_pos e, e]
  · rw [if_neg e, if_pos rfl]
theorem swp_o (h : Nat → Nat) {i j k : Nat} (h1 : k ≠ i) (h2 : k ≠ j) : swp h i j k = h k := by unfold swp; rw [if_neg h1, if_neg h2]
theorem up_step {le : Nat → Nat → Prop} (O : LeOrd le) {h : Nat → Nat} {m i : Nat} (U : Up le h m i) (hi : 0 < i) (him : i < m) (hl : le (h i) (h (par i))) : Up le (swp h i (par i)) m (par i) := by
  have hp := par_lt hi
  constructor
  · intro k k0 km k1 k2
    by_cases e : k = i
    · subst e; exact absurd rfl k2
    · by_cases f : par k = i
      · rw [f, swp_l, swp_o h e k1]
        exact U.grand k k0 km f hi
      · rw [swp_o h f k2, swp_o h e k1]
        exact U.others k k0 km e f
  · intro k k0 km k1 p0
    have hpp := par_lt p0
    have hpar : par (par i) ≠ i := by omega
    rw [swp_o h (k := par (par i)) hpar (by omega)]
    have op := U.others (par i) p0 (by omega) (by omega) hpar
    by_cases e : k = i
    · subst e; rw [swp_l]; exact op
    · have kp : k ≠ par i := by have := par_lt k0; omega
      rw [swp_o h e kp]
      have ok := U.others k k0 km e (by omega)
      rw [k1] at ok
      exact O.trans _ _ _ op ok
theorem up_exit {le : Nat → Nat → Prop} {h : Nat → Nat} {m i : Nat} (U : Up le h m i) (hx : i = 0 ∨ le (h (par i)) (h i)) : Down le h m i := by
  refine ⟨fun k k0 km k1 => ?_, U.grand⟩
  by_cases e : k = i
  · subst e
    rcases hx with h0 | h0
    · omega
    · exact h0
  · exact U.others k k0 km e k1
theorem down_done {le : Nat → Nat → Prop} {h : Nat → Nat} {m i : Nat} (D : Down le h m i) (hx : ∀ k, 0 < k → k < m → par k = i → le (h i) (h k)) : Heap le h m := by
  intro k k0 km
  by_cases e : par k = i
  · rw [e]; exact hx k k0 km e
  · exact D.others k k0 km e
theorem down_step {le : Nat → Nat → Prop} {h : Nat → Nat} {m i c : Nat} (D : Down le h m i) (c0 : 0 < c) (cm : c < m) (hc : par c = i) (hl : le (h c) (h i)) (hmin : ∀ k, 0 < k → k < m → par k = i → le (h c) (h k)) : Down le (swp h i c) m c := by
  have hic : i < c := by have := par_lt c0; omega
  constructor
  · intro k k0 km k1
    by_cases e : k = c
    · subst e; rw [hc, swp_l, swp_r]; exact hl
    · by_cases f : k = i
      · subst f
        have pk := par_lt k0
        rw [swp_l, swp_o h (k := par k) (by omega) (by omega)]
        exact D.grand c c0 cm hc k0
      · by_cases g : par k = i
        · rw [g, swp_l, swp_o h f e]; exact hmin k k0 km g
        · rw [swp_o h g k1, swp_o h f e]; exact D.others k k0 km g
  · intro k k0 km k1 _
    have pk := par_lt k0
    rw [hc, swp_l, swp_o h (k := k) (by omega) (by omega)]
    have := D.others k k0 km (by omega)
    rw [k1] at this
    exact this
theorem heap_min {le : Nat → Nat → Prop} (O : LeOrd le) {h : Nat → Nat} {m : Nat} (H : Heap le h m) : ∀ k, k < m → le (h 0) (h k) := by
  intro k
  induction k using Nat.strongRecOn with
  | _ k ih =>
    intro km
    by_cases e : k = 0
    · subst e; rcases O.total (h 0) (h 0) with h1 | h1 <;> exact h1
    · have k0 : 0 < k := by omega
      have pk := par_lt k0
      exact O.trans _ _ _ (ih (par k) pk (by omega)) (H k k0 km)
end Go.Proofs.Ytgofachgoflgnaa
