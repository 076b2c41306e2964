/- graph: what GraphSymmetric asks, as facts on lists. -/
import Derived.Test.YthfecllgkldgfaaGw
namespace Go.Proofs.Ythfecllgkldgfaa

theorem nbs_mem {ars : List (Int × Int)} {m : Nat} (hb : ∀ j, j < ars.length → ¬ bad (m : Int) (ars.getD j (0, 0))) : ∀ k, k ≤ ars.length → ∀ j z, z ∈ (nbs ars k m).getD j [] ↔
    ∃ i, i < k ∧ ∃ x y : Nat, ars.getD i (0, 0) = ((x : Int), (y : Int)) ∧ x < m ∧ y < m ∧ x ≠ y ∧ (j = x ∧ z = (y : Int) ∨ j = y ∧ z = (x : Int)) := by
  intro k
  induction k with
  | zero =>
    intro _ j z
    have e : (nbs ars 0 m).getD j [] = [] := by
      unfold nbs
      simp only [List.take_zero, List.foldl_nil]
      rw [List.getD, List.getElem?_replicate]
      split <;> rfl
    rw [e]
    constructor
    · intro h; cases h
    · rintro ⟨i, hi, _⟩; omega
  | succ k ih =>
    intro hk j z
    obtain ⟨x, y, e, hx, hy, _⟩ := arc_nat hb (j := k) (by omega)
    rw [nb_step (by omega) e hx hy, ih (by omega)]
    constructor
    · rintro (⟨i, hi, h⟩ | ⟨h1, h2⟩)
      · exact ⟨i, by omega, h⟩
      · exact ⟨k, by omega, x, y, e, hx, hy, h1, h2⟩
    · rintro ⟨i, hi, x', y', e', hx', hy', h1, h2⟩
      by_cases hik : i < k
      · exact Or.inl ⟨i, hik, x', y', e', hx', hy', h1, h2⟩
      · obtain rfl : i = k := by omega
        rw [e] at e'
        injection e' with e1 e2
        obtain rfl : x = x' := by omega
        obtain rfl : y = y' := by omega
        exact Or.inr ⟨h1, h2⟩
theorem nbs_facts {ars : List (Int × Int)} {m : Nat} {ss : List (List Int)} (hb : ∀ j, j < ars.length → ¬ bad (m : Int) (ars.getD j (0, 0))) (hs : ∀ j, j < m → IsSet ((nbs ars ars.length m).getD j []) (ss.getD j [])) :
    (∀ v, v < m → (v : Int) ∉ ss.getD v []) ∧ ∀ v, v < m → ∀ z ∈ ss.getD v [], ∃ u : Nat, z = (u : Int) ∧ u < m ∧ (v : Int) ∈ ss.getD u [] ∧ Conn ars v u := by
  have key : ∀ v, v < m → ∀ z, z ∈ ss.getD v [] ↔ ∃ i, i < ars.length ∧ ∃ x y : Nat, ars.getD i (0, 0) = ((x : Int), (y : Int)) ∧ x < m ∧ y < m ∧ x ≠ y ∧ (v = x ∧ z = (y : Int) ∨ v = y ∧ z = (x : Int)) := fun v hv z => by
    rw [(hs v hv).2 z, nbs_mem hb _ (Nat.le_refl _)]
  refine ⟨fun v hv h => ?_, fun v hv z hz => ?_⟩
  · obtain ⟨i, _, x, y, _, _, _, h1, h2 | h2⟩ := (key v hv _).1 h
    · omega
    · omega
  · obtain ⟨i, hi, x, y, e, hx, hy, h1, h2⟩ := (key v hv _).1 hz
    have hm : ((x : Int), (y : Int)) ∈ ars := by
      rw [← e, List.getD, List.getElem?_eq_getElem hi]; exact List.getElem_mem hi
    rcases h2 with ⟨rfl, rfl⟩ | ⟨rfl, rfl⟩
    · exact ⟨y, rfl, hy, (key y hy _).2 ⟨i, hi, v, y, e, hx, hy, h1, Or.inr ⟨rfl, rfl⟩⟩, .arc hm⟩
    · exact ⟨x, rfl, hx, (key x hx _).2 ⟨i, hi, x, v, e, hx, hy, h1, Or.inl ⟨rfl, rfl⟩⟩, .symm (.arc hm)⟩
theorem parts_facts {ars : List (Int × Int)} {m : Nat} (hb : ∀ j, j < ars.length → ¬ bad (m : Int) (ars.getD j (0, 0))) :
    (∀ v, v < m → ∃ r : Nat, (partsL ars m).getD v 0 = (r : Int) ∧ r ≤ v ∧ (partsL ars m).getD r 0 = (r : Int)) ∧ ∀ v u, v < m → u < m → Conn ars v u → (partsL ars m).getD u 0 = (partsL ars m).getD v 0 := by
  obtain ⟨_, h2⟩ := parts_least hb
  refine ⟨fun v hv => ?_, fun v u hv hu c => ?_⟩
  · obtain ⟨r, er, lr⟩ := h2 v hv
    have hr : r ≤ v := lr.min v (.refl v)
    obtain ⟨s, es, ls⟩ := h2 r (by omega)
    have e : s = r := Least2.unique (l := ars) (v := r) ls ⟨.refl r, fun w c => lr.min w (.trans lr.con c)⟩
    exact ⟨r, er, hr, by rw [es, e]⟩
  · obtain ⟨r, er, lr⟩ := h2 v hv
    obtain ⟨s, es, ls⟩ := h2 u hu
    have e : s = r := Least2.unique ls ⟨.trans (.symm c) lr.con, fun w k => lr.min w (.trans c k)⟩
    rw [es, er, e]
theorem ends_mem (f : Int × Int → Int) (l : List (Int × Int)) (k v : Nat) (z : Int) : z ∈ ends f l k v ↔ ∃ a : Nat, z = (a : Int) ∧ a < k ∧ f (l.getD a (0, 0)) = (v : Int) := by
  unfold ends
  rw [List.mem_map]
  constructor
  · rintro ⟨a, ha, rfl⟩
    rw [List.mem_filter, List.mem_range] at ha
    exact ⟨a, rfl, ha.1, of_decide_eq_true ha.2⟩
  · rintro ⟨a, rfl, ha, e⟩
    exact ⟨a, List.mem_filter.2 ⟨List.mem_range.2 ha, decide_eq_true e⟩, rfl⟩
def tot (f : Int × Int → Int) (l : List (Int × Int)) (k : Nat) : Nat → Nat
  | 0 => 0
  | v + 1 => tot f l k v + (ends f l k v).length
theorem tot_zero (f : Int × Int → Int) (l : List (Int × Int)) : ∀ v, tot f l 0 v = 0 := by
  intro v
  induction v with
  | zero => rfl
  | succ v ih => rw [tot, ih]; rfl
theorem tot_succ (f : Int × Int → Int) (l : List (Int × Int)) (k x : Nat) (e : f (l.getD k (0, 0)) = (x : Int)) : ∀ v, tot f l (k + 1) v = tot f l k v + if x < v then 1 else 0 := by
  intro v
  induction v with
  | zero => rfl
  | succ v ih =>
    rw [tot, tot, ih, ends_succ]
    by_cases h : x = v
    · subst h
      rw [if_pos e, List.length_append, if_neg (by omega), if_pos (by omega)]
      simp only [List.length_cons, List.length_nil]; omega
    · have hn : ¬ f (l.getD k (0, 0)) = (v : Int) := by rw [e]; omega
      rw [if_neg hn]
      by_cases h3 : x < v
      · rw [if_pos h3, if_pos (by omega)]; omega
      · rw [if_neg h3, if_neg (by omega)]; omega
theorem tot_all (f : Int × Int → Int) (l : List (Int × Int)) (m : Nat) (h : ∀ j, j < l.length → ∃ x : Nat, f (l.getD j (0, 0)) = (x : Int) ∧ x < m) : ∀ k, k ≤ l.length → tot f l k m = k := by
  intro k
  induction k with
  | zero => intro _; exact tot_zero f l m
  | succ k ih =>
    intro hk
    obtain ⟨x, e, hx⟩ := h k (by omega)
    rw [tot_succ f l k x e, ih (by omega), if_pos hx]
theorem tot_mono (f : Int × Int → Int) (l : List (Int × Int)) (k : Nat) {v m : Nat} (h : v ≤ m) : tot f l k v ≤ tot f l k m := by
  induction m with
  | zero => obtain rfl : v = 0 := by omega
            exact Nat.le_refl _
  | succ m ih =>
    by_cases e : v = m + 1
    · rw [e]; exact Nat.le_refl _
    · rw [tot]; have := ih (by omega); omega
end Go.Proofs.Ythfecllgkldgfaa
