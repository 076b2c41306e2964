/- pq: items and their places, and what a swap keeps of them. -/
import Derived.Test.YtgofachgoflgnaaPb
import Derived.Test.YtgofachgoflgnaaPm
namespace Go.Proofs.Ytgofachgoflgnaa

/- every item of the heap is a number below n, and places says where it stands -/
def Cons (hs ps : List Int) : Prop := ∀ i, i < hs.length → ∃ X : Nat, hs.getD i 0 = (X : Int) ∧ X < ps.length ∧ ps.getD X 0 = (i : Int)
def hf (hs : List Int) : Nat → Nat := fun k => (hs.getD k 0).toNat
theorem getD_set (l : List Int) (i k : Nat) (x : Int) (hi : i < l.length) : (l.set i x).getD k 0 = if i = k then x else l.getD k 0 := by
  by_cases e : i = k
  · subst e; rw [if_pos rfl, List.getD, List.getElem?_set_self hi]; rfl
  · rw [if_neg e, List.getD, List.getElem?_set_ne e]; rfl
theorem cons_inj {hs ps : List Int} (C : Cons hs ps) {i j : Nat} (hi : i < hs.length) (hj : j < hs.length) (h : hs.getD i 0 = hs.getD j 0) : i = j := by
  obtain ⟨X, x1, _, x3⟩ := C i hi
  obtain ⟨Y, y1, _, y3⟩ := C j hj
  have e : X = Y := by omega
  subst e; omega
theorem cons_swap {hs ps : List Int} (C : Cons hs ps) {i j X Y : Nat} (hi : i < hs.length) (hj : j < hs.length) (hx : hs.getD i 0 = (X : Int)) (hy : hs.getD j 0 = (Y : Int)) :
    Cons ((hs.set i Y).set j X) ((ps.set Y i).set X j) := by
  have hX : X < ps.length ∧ ps.getD X 0 = (i : Int) := by
    obtain ⟨Z, z1, z2, z3⟩ := C i hi
    have e : Z = X := by omega
    subst e; exact ⟨z2, z3⟩
  have hY : Y < ps.length ∧ ps.getD Y 0 = (j : Int) := by
    obtain ⟨Z, z1, z2, z3⟩ := C j hj
    have e : Z = Y := by omega
    subst e; exact ⟨z2, z3⟩
  have g1 : ∀ k, ((hs.set i Y).set j X).getD k 0 = if j = k then (X : Int) else if i = k then (Y : Int) else hs.getD k 0 := fun k => by
    rw [getD_set _ _ _ _ (by rw [List.length_set]; exact hj), getD_set _ _ _ _ hi]
  have g2 : ∀ k, ((ps.set Y i).set X j).getD k 0 = if X = k then (j : Int) else if Y = k then (i : Int) else ps.getD k 0 := fun k => by
    rw [getD_set _ _ _ _ (by rw [List.length_set]; exact hX.1), getD_set _ _ _ _ hY.1]
  intro k hk
  rw [List.length_set, List.length_set] at hk
  rw [List.length_set, List.length_set, g1]
  by_cases e1 : j = k
  · subst e1
    refine ⟨X, by rw [if_pos rfl], hX.1, by rw [g2, if_pos rfl]⟩
  · rw [if_neg e1]
    by_cases e2 : i = k
    · subst e2
      refine ⟨Y, by rw [if_pos rfl], hY.1, ?_⟩
      have : X ≠ Y := fun e => by rw [e] at hX; omega
      rw [g2, if_neg this, if_pos rfl]
    · rw [if_neg e2]
      obtain ⟨Z, z1, z2, z3⟩ := C k hk
      refine ⟨Z, z1, z2, ?_⟩
      have n1 : X ≠ Z := fun e => by rw [e] at hX; omega
      have n2 : Y ≠ Z := fun e => by rw [e] at hY; omega
      rw [g2, if_neg n1, if_neg n2]; exact z3
theorem hf_swap {hs : List Int} {i j X Y : Nat} (hi : i < hs.length) (hj : j < hs.length) (hx : hs.getD i 0 = (X : Int)) (hy : hs.getD j 0 = (Y : Int)) : hf ((hs.set i Y).set j X) = swp (hf hs) i j := by
  funext k
  unfold hf swp
  rw [getD_set _ _ _ _ (by rw [List.length_set]; exact hj), getD_set _ _ _ _ hi]
  show _ = if k = i then (hs.getD j 0).toNat else if k = j then (hs.getD i 0).toNat else (hs.getD k 0).toNat
  rw [hx, hy]
  by_cases e1 : j = k
  · subst e1
    rw [if_pos rfl]
    by_cases e2 : j = i
    · rw [if_pos e2]; subst e2; rw [hx] at hy; omega
    · rw [if_neg e2, if_pos rfl]
  · rw [if_neg e1]
    by_cases e2 : i = k
    · subst e2; rw [if_pos rfl, if_pos rfl]
    · rw [if_neg e2, if_neg (fun e => e2 e.symm), if_neg (fun e => e1 e.symm)]
/- the same items, and the same ones without a place -/
structure Same (hs ps hs' ps' : List Int) : Prop where
  len : hs'.length = hs.length
  plen : ps'.length = ps.length
  mem : ∀ x, (∃ i, i < hs'.length ∧ hs'.getD i 0 = x) ↔ (∃ i, i < hs.length ∧ hs.getD i 0 = x)
  out : ∀ Z, Z < ps.length → (ps'.getD Z 0 = -1 ↔ ps.getD Z 0 = -1)
theorem Same.refl (hs ps : List Int) : Same hs ps hs ps := ⟨rfl, rfl, fun _ => Iff.rfl, fun _ _ => Iff.rfl⟩
theorem Same.trans {hs ps hs' ps' hs2 ps2 : List Int} (a : Same hs ps hs' ps') (b : Same hs' ps' hs2 ps2) : Same hs ps hs2 ps2 :=
  ⟨b.len.trans a.len, b.plen.trans a.plen, fun x => (b.mem x).trans (a.mem x), fun Z hZ => (b.out Z (by rw [a.plen]; exact hZ)).trans (a.out Z hZ)⟩
theorem same_swap {hs ps : List Int} (C : Cons hs ps) {i j X Y : Nat} (hi : i < hs.length) (hj : j < hs.length) (hx : hs.getD i 0 = (X : Int)) (hy : hs.getD j 0 = (Y : Int)) :
    Same hs ps ((hs.set i Y).set j X) ((ps.set Y i).set X j) := by
  have hX : X < ps.length ∧ ps.getD X 0 = (i : Int) := by
    obtain ⟨Z, z1, z2, z3⟩ := C i hi
    have e : Z = X := by omega
    subst e; exact ⟨z2, z3⟩
  have hY : Y < ps.length ∧ ps.getD Y 0 = (j : Int) := by
    obtain ⟨Z, z1, z2, z3⟩ := C j hj
    have e : Z = Y := by omega
    subst e; exact ⟨z2, z3⟩
  have g1 : ∀ k, ((hs.set i Y).set j X).getD k 0 = if j = k then (X : Int) else if i = k then (Y : Int) else hs.getD k 0 := fun k => by
    rw [getD_set _ _ _ _ (by rw [List.length_set]; exact hj), getD_set _ _ _ _ hi]
  have g2 : ∀ k, ((ps.set Y i).set X j).getD k 0 = if X = k then (j : Int) else if Y = k then (i : Int) else ps.getD k 0 := fun k => by
    rw [getD_set _ _ _ _ (by rw [List.length_set]; exact hX.1), getD_set _ _ _ _ hY.1]
  refine ⟨by simp, by simp, fun x => ?_, fun Z _ => ?_⟩
  · rw [List.length_set, List.length_set]
    constructor
    · rintro ⟨k, hk, e⟩
      rw [g1] at e
      by_cases e1 : j = k
      · rw [if_pos e1] at e; exact ⟨i, hi, by rw [hx, e]⟩
      · rw [if_neg e1] at e
        by_cases e2 : i = k
        · rw [if_pos e2] at e; exact ⟨j, hj, by rw [hy, e]⟩
        · rw [if_neg e2] at e; exact ⟨k, hk, e⟩
    · rintro ⟨k, hk, e⟩
      by_cases e1 : k = i
      · subst e1; exact ⟨j, hj, by rw [g1, if_pos rfl, ← hx, e]⟩
      · by_cases e2 : k = j
        · subst e2
          exact ⟨i, hi, by rw [g1, if_neg e1, if_pos rfl, ← hy, e]⟩
        · exact ⟨k, hk, by rw [g1, if_neg (fun h => e2 h.symm), if_neg (fun h => e1 h.symm)]; exact e⟩
  · rw [g2]
    by_cases e1 : X = Z
    · subst e1; rw [if_pos rfl, hX.2]; omega
    · rw [if_neg e1]
      by_cases e2 : Y = Z
      · subst e2; rw [if_pos rfl, hY.2]; omega
      · rw [if_neg e2]
/- the order of items by their keys -/
def leK (ks : List Int) (a b : Nat) : Prop := ¬ bfr ks b a = true
theorem leK_ord (ks : List Int) : LeOrd (leK ks) := by
  constructor
  · intro a b; unfold leK bfr; simp only [decide_eq_true_eq]; omega
  · intro a b c; unfold leK bfr; simp only [decide_eq_true_eq]; omega
end Go.Proofs.Ytgofachgoflgnaa
