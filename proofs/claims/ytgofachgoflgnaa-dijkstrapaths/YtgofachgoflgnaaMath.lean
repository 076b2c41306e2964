/- Sets of integers as increasing lists. -/
import Derived.WalkKit
import Derived.Lib.SlicesCompact
namespace Go.Proofs.Ytgofachgoflgnaa


abbrev SInc (l : List Int) : Prop := l.Pairwise (· < ·)
theorem sinc_unique : ∀ {a b : List Int}, SInc a → SInc b → (∀ x, x ∈ a ↔ x ∈ b) → a = b
  | [], [], _, _, _ => rfl
  | [], y :: ys, _, _, h => absurd ((h y).2 (List.mem_cons_self ..)) (by simp)
  | x :: xs, [], _, _, h => absurd ((h x).1 (List.mem_cons_self ..)) (by simp)
  | x :: xs, y :: ys, ha, hb, h => by
    rw [SInc, List.pairwise_cons] at ha hb
    have e : x = y := by
      have h1 := (h x).1 (List.mem_cons_self ..)
      have h2 := (h y).2 (List.mem_cons_self ..)
      rw [List.mem_cons] at h1 h2
      rcases h1 with h1 | h1
      · exact h1
      · rcases h2 with h2 | h2
        · exact h2.symm
        · have := ha.1 y h2; have := hb.1 x h1; omega
    subst e
    congr 1
    refine sinc_unique ha.2 hb.2 fun z => ?_
    constructor
    · intro hz
      have := (h z).1 (List.mem_cons_of_mem _ hz)
      rw [List.mem_cons] at this
      rcases this with e | h'
      · have := ha.1 z hz; omega
      · exact h'
    · intro hz
      have := (h z).2 (List.mem_cons_of_mem _ hz)
      rw [List.mem_cons] at this
      rcases this with e | h'
      · have := hb.1 z hz; omega
      · exact h'
/- s is the set of the elements of l -/
def IsSet (l s : List Int) : Prop := SInc s ∧ ∀ x, x ∈ s ↔ x ∈ l
theorem IsSet.unique {l s t : List Int} (h : IsSet l s) (k : IsSet l t) : s = t := sinc_unique h.1 k.1 fun x => (h.2 x).trans (k.2 x).symm
theorem comp_inv (d : Array Int) (hs : ∀ i j, i ≤ j → j < d.size → d[i]! ≤ d[j]!) : ∀ m, m ≤ d.size → SInc (Lib.compactUpTo d m) ∧ (∀ x ∈ Lib.compactUpTo d m, x ≤ d[m - 1]!) ∧ ∀ x, x ∈ Lib.compactUpTo d m ↔ ∃ j, j < m ∧ d[j]! = x
  | 0, _ => by
    have e : Lib.compactUpTo d 0 = [] := rfl
    rw [e]
    exact ⟨List.Pairwise.nil, by simp, by simp⟩
  | m + 1, hm => by
    obtain ⟨h1, h2, h3⟩ := comp_inv d hs m (by omega)
    rw [Lib.compactUpTo_succ]
    by_cases hk : Lib.keeps d m = true
    · rw [if_pos hk]
      have hlt : ∀ x ∈ Lib.compactUpTo d m, x < d[m]! := by
        intro x hx
        have hx2 := h2 x hx
        by_cases h0 : m = 0
        · subst h0; exact absurd hx (by simp [Lib.compactUpTo])
        · have hne : d[m]! ≠ d[m - 1]! := by
            have := hk; simp [Lib.keeps, h0] at this; exact this
          have := hs (m - 1) m (by omega) (by omega)
          omega
      refine ⟨?_, ?_, ?_⟩
      · rw [SInc, List.pairwise_append]
        exact ⟨h1, by simp, fun x hx y hy => by simp at hy; subst hy; exact hlt x hx⟩
      · intro x hx
        rw [List.mem_append] at hx
        rcases hx with hx | hx
        · have := hlt x hx; simp; omega
        · simp at hx; subst hx; simp
      · intro x
        rw [List.mem_append, h3]
        constructor
        · rintro (⟨j, hj, e⟩ | hx)
          · exact ⟨j, by omega, e⟩
          · simp at hx; exact ⟨m, by omega, hx.symm⟩
        · rintro ⟨j, hj, e⟩
          by_cases hjm : j = m
          · subst hjm; right; simp [e]
          · left; exact ⟨j, by omega, e⟩
    · rw [if_neg hk, List.append_nil]
      have h0 : m ≠ 0 ∧ d[m]! = d[m - 1]! := by simpa [Lib.keeps] using hk
      refine ⟨h1, ?_, ?_⟩
      · intro x hx; have := h2 x hx; simp; omega
      · intro x
        rw [h3]
        constructor
        · rintro ⟨j, hj, e⟩; exact ⟨j, by omega, e⟩
        · rintro ⟨j, hj, e⟩
          by_cases hjm : j = m
          · subst hjm; exact ⟨j - 1, by omega, by rw [← e]; exact h0.2.symm⟩
          · exact ⟨j, by omega, e⟩
theorem compact_set {l zs : List Int} (hp : ∀ x, x ∈ zs ↔ x ∈ l) (hs : zs.Pairwise (· ≤ ·)) : IsSet l (Lib.compact zs) := by
  have hb : ∀ i, i < zs.length → zs.toArray[i]! = zs.getD i 0 := fun i hi => by simp [hi]
  have key := comp_inv zs.toArray (by
    intro i j hij hj
    have hj' : j < zs.length := by simpa using hj
    rw [hb i (by omega), hb j hj']
    simp only [List.getD, List.getElem?_eq_getElem (show i < zs.length by omega), List.getElem?_eq_getElem hj', Option.getD]
    by_cases e : i = j
    · subst e; exact Int.le_refl _
    · exact List.pairwise_iff_getElem.1 hs i j (by omega) hj' (by omega)) zs.length (by simp)
  refine ⟨key.1, fun x => ?_⟩
  rw [← hp]
  show x ∈ Lib.compactUpTo zs.toArray zs.length ↔ _
  rw [key.2.2]
  constructor
  · rintro ⟨j, hj, e⟩
    rw [hb j hj] at e
    simp only [List.getD, List.getElem?_eq_getElem hj, Option.getD] at e
    rw [← e]; exact List.getElem_mem hj
  · intro hx
    obtain ⟨j, hj, e⟩ := List.getElem_of_mem hx
    refine ⟨j, hj, ?_⟩
    rw [hb j hj]
    simp only [List.getD, List.getElem?_eq_getElem hj, Option.getD]
    exact e
theorem sort_set (l : List Int) : IsSet l (Lib.compact (l.mergeSort fun x y => decide (x ≤ y))) := by
  refine compact_set (fun x => List.mem_mergeSort) ?_
  have := List.pairwise_mergeSort (le := fun x y : Int => decide (x ≤ y)) (fun a b c h1 h2 => by simp at *; omega) (fun a b => by simp; omega) l
  exact this.imp fun h => by simpa using h
end Go.Proofs.Ytgofachgoflgnaa
