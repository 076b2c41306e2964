/- Lists of tags: keys in order, what Check and Canon say. -/
import Derived.WalkKit
import Derived.Sort.Walk0
import Derived.Lib.Bytealg
import Derived.Lib.SlBy
namespace Go.Proofs.TagM

abbrev Tg := ByteArray × ByteArray
/- keys in the order of their bytes -/
def klt (a b : ByteArray) : Bool := decide (a.data.toList < b.data.toList)
theorem data_inj {a b : ByteArray} (h : a.data.toList = b.data.toList) : a = b := by
  obtain ⟨⟨l⟩⟩ := a; obtain ⟨⟨m⟩⟩ := b; simp at h; rw [h]
theorem klt_irrefl (a : ByteArray) : klt a a = false := by
  unfold klt; exact decide_eq_false (List.lt_irrefl _)
theorem klt_trans {a b c : ByteArray} (h : klt a b = true) (k : klt b c = true) : klt a c = true := by
  unfold klt at *; exact decide_eq_true (List.lt_trans (of_decide_eq_true h) (of_decide_eq_true k))
theorem klt_tri {a b : ByteArray} (h : klt a b = false) (k : klt b a = false) : a = b := by
  unfold klt at *
  exact data_inj (List.le_antisymm (of_decide_eq_false k) (of_decide_eq_false h))
theorem klt_ne {a b : ByteArray} (h : klt a b = true) : a ≠ b := by rintro rfl; rw [klt_irrefl] at h; cases h
theorem klt_asymm {a b : ByteArray} (h : klt a b = true) : klt b a = false := by
  cases hb : klt b a with
  | false => rfl
  | true => exact absurd (klt_trans h hb) (by rw [klt_irrefl]; simp)
theorem cmpB : ∀ (x y : List UInt8), (Lib.compareBytes x y < 0 ↔ x < y) ∧ (Lib.compareBytes x y = 0 ↔ x = y)
  | [], [] => by simp [Lib.compareBytes]
  | [], _ :: _ => by simp [Lib.compareBytes]
  | _ :: _, [] => by simp [Lib.compareBytes]
  | a :: x, b :: y => by
    obtain ⟨i1, i2⟩ := cmpB x y
    rw [Lib.compareBytes]
    by_cases h : a < b
    · rw [if_pos h]
      refine ⟨⟨fun _ => List.Lex.rel h, fun _ => by decide⟩, ⟨fun k => absurd k (by decide), fun k => ?_⟩⟩
      injection k with k1 k2; subst k1; exact absurd h (UInt8.lt_irrefl _)
    · rw [if_neg h]
      by_cases h2 : b < a
      · rw [if_pos h2]
        refine ⟨⟨fun k => absurd k (by decide), fun k => ?_⟩, ⟨fun k => absurd k (by decide), fun k => ?_⟩⟩
        · rcases List.cons_lt_cons_iff.1 k with k | ⟨k, _⟩
          · exact absurd k h
          · subst k; exact absurd h2 (UInt8.lt_irrefl _)
        · injection k with k1 k2; subst k1; exact absurd h2 (UInt8.lt_irrefl _)
      · rw [if_neg h2]
        have e : a = b := UInt8.le_antisymm (UInt8.not_lt.1 h2) (UInt8.not_lt.1 h)
        subst e
        rw [i1, i2]
        refine ⟨⟨fun k => List.cons_lt_cons_iff.2 (Or.inr ⟨rfl, k⟩), fun k => ?_⟩, by simp⟩
        rcases List.cons_lt_cons_iff.1 k with k | ⟨_, k⟩
        · exact absurd k (UInt8.lt_irrefl _)
        · exact k
/- a tag by itself -/
def vld (t : Tg) : Prop := t.1.size ≠ 0 ∧ t.1.size ≤ 64 ∧ t.2.size ≤ 64
instance (t : Tg) : Decidable (vld t) := by unfold vld; infer_instance
/- what Check says of the tags from the k-th on -/
def chkAt (l : List Tg) (k : Nat) : Int :=
  if _h : k < l.length then
    if ¬ vld (l.getD k default) then 10
    else if 0 < k ∧ klt (l.getD (k - 1) default).1 (l.getD k default).1 = false then 6
    else chkAt l (k + 1)
  else 0
termination_by l.length - k
def chkT (l : List Tg) : Int := if 16 < l.length then 5 else chkAt l 0
def SK (l : List Tg) : Prop := l.Pairwise (fun a b => klt a.1 b.1 = true)
theorem chkAt_ok {l : List Tg} : ∀ n k, l.length - k = n → (chkAt l k = 0 ↔ ∀ j, k ≤ j → j < l.length → vld (l.getD j default) ∧ (0 < j → klt (l.getD (j - 1) default).1 (l.getD j default).1 = true))
  | 0, k, hn => by
    rw [chkAt, dif_neg (by omega)]
    exact ⟨fun _ j h1 h2 => by omega, fun _ => rfl⟩
  | n + 1, k, hn => by
    have hk : k < l.length := by omega
    have ih := chkAt_ok (l := l) n (k + 1) (by omega)
    rw [chkAt, dif_pos hk]
    by_cases hv : vld (l.getD k default)
    · rw [if_neg (by simpa using hv)]
      by_cases ho : 0 < k ∧ klt (l.getD (k - 1) default).1 (l.getD k default).1 = false
      · rw [if_pos ho]
        refine ⟨fun h => absurd h (by decide), fun h => ?_⟩
        have := (h k (Nat.le_refl _) hk).2 ho.1
        rw [ho.2] at this; cases this
      · rw [if_neg ho, ih]
        constructor
        · intro h j h1 h2
          by_cases e : j = k
          · subst e
            refine ⟨hv, fun h0 => ?_⟩
            cases hb : klt (l.getD (j - 1) default).1 (l.getD j default).1 with
            | true => rfl
            | false => exact absurd ⟨h0, hb⟩ ho
          · exact h j (by omega) h2
        · intro h j h1 h2
          exact h j (by omega) h2
    · rw [if_pos hv]
      exact ⟨fun h => absurd h (by decide), fun h => absurd (h k (Nat.le_refl _) hk).1 hv⟩
theorem sk_of {l : List Tg} (h : ∀ j, j < l.length → 0 < j → klt (l.getD (j - 1) default).1 (l.getD j default).1 = true) : SK l := by
  have key : ∀ d i, i + d + 1 < l.length → klt (l.getD i default).1 (l.getD (i + d + 1) default).1 = true := by
    intro d
    induction d with
    | zero => intro i hi; exact h (i + 1) hi (by omega)
    | succ d ih =>
      intro i hi
      have h1 := ih i (by omega)
      have h2 := h (i + (d + 1) + 1) hi (by omega)
      rw [show i + (d + 1) + 1 - 1 = i + d + 1 from by omega] at h2
      exact klt_trans h1 h2
  unfold SK
  rw [List.pairwise_iff_getElem]
  intro i j hi hj hij
  have := key (j - i - 1) i (by omega)
  rw [show i + (j - i - 1) + 1 = j from by omega, List.getD, List.getD, List.getElem?_eq_getElem hi, List.getElem?_eq_getElem hj] at this
  exact this
theorem sk_at {l : List Tg} (h : SK l) {i j : Nat} (hij : i < j) (hj : j < l.length) : klt (l.getD i default).1 (l.getD j default).1 = true := by
  have := List.pairwise_iff_getElem.1 h i j (by omega) hj hij
  rw [List.getD, List.getD, List.getElem?_eq_getElem (by omega), List.getElem?_eq_getElem hj]
  exact this
theorem chk_zero {l : List Tg} (hl : l.length ≤ 16) : chkT l = 0 ↔ (∀ t ∈ l, vld t) ∧ SK l := by
  unfold chkT
  rw [if_neg (by omega), chkAt_ok _ 0 rfl]
  constructor
  · intro h
    refine ⟨fun t ht => ?_, sk_of fun j hj h0 => (h j (by omega) hj).2 h0⟩
    obtain ⟨i, hi, rfl⟩ := List.getElem_of_mem ht
    have := (h i (by omega) hi).1
    rw [List.getD, List.getElem?_eq_getElem hi] at this
    exact this
  · rintro ⟨h1, h2⟩ j _ hj
    refine ⟨?_, fun h0 => sk_at h2 (by omega) hj⟩
    rw [List.getD, List.getElem?_eq_getElem hj]
    exact h1 _ (List.getElem_mem hj)
theorem sk_nodup {l : List Tg} (h : SK l) : (l.map (·.1)).Nodup := by
  unfold SK at h
  rw [List.Nodup, List.pairwise_map]
  exact h.imp fun hab => klt_ne hab
/- two lists in order with the same tags are one -/
theorem sk_unique {a b : List Tg} (ha : SK a) (hb : SK b) (h : a.Perm b) : a = b := by
  unfold SK at *
  refine List.Perm.eq_of_pairwise (le := fun a b => klt a.1 b.1 = true) (fun x y _ _ h1 h2 => ?_) ha hb h
  exact absurd h2 (by rw [klt_asymm h1]; simp)
/- what Canon returns: the tags, and the error -/
structure CP (l r : List Tg) (e : Int) : Prop where
  long : 16 < l.length → e = 5 ∧ r = []
  bad : l.length ≤ 16 → (∃ t ∈ l, ¬ vld t) → e = 10 ∧ r = []
  twice : l.length ≤ 16 → (∀ t ∈ l, vld t) → ¬ (l.map (·.1)).Nodup → e = 7 ∧ r = []
  fine : l.length ≤ 16 → (∀ t ∈ l, vld t) → (l.map (·.1)).Nodup → e = 0 ∧ SK r ∧ r.Perm l
theorem CP.unique {l m r s : List Tg} {e f : Int} (h : CP l r e) (k : CP m s f) (hp : l.Perm m) : r = s ∧ e = f := by
  have hl := hp.length_eq
  by_cases h1 : 16 < l.length
  · obtain ⟨rfl, rfl⟩ := h.long h1; obtain ⟨rfl, rfl⟩ := k.long (by omega); exact ⟨rfl, rfl⟩
  · by_cases h2 : ∃ t ∈ l, ¬ vld t
    · obtain ⟨rfl, rfl⟩ := h.bad (by omega) h2
      obtain ⟨t, ht, hv⟩ := h2
      obtain ⟨rfl, rfl⟩ := k.bad (by omega) ⟨t, hp.mem_iff.1 ht, hv⟩; exact ⟨rfl, rfl⟩
    · have h3 : ∀ t ∈ l, vld t := fun t ht => by
        by_cases hv : vld t
        · exact hv
        · exact absurd ⟨t, ht, hv⟩ h2
      have h4 : ∀ t ∈ m, vld t := fun t ht => h3 t (hp.mem_iff.2 ht)
      by_cases h5 : (l.map (·.1)).Nodup
      · obtain ⟨rfl, a, b⟩ := h.fine (by omega) h3 h5
        obtain ⟨rfl, c, d⟩ := k.fine (by omega) h4 ((hp.map (·.1)).nodup_iff.1 h5)
        exact ⟨sk_unique a c (b.trans (hp.trans d.symm)), rfl⟩
      · obtain ⟨rfl, rfl⟩ := h.twice (by omega) h3 h5
        obtain ⟨rfl, rfl⟩ := k.twice (by omega) h4 (fun hn => h5 ((hp.map (·.1)).nodup_iff.2 hn))
        exact ⟨rfl, rfl⟩
/- the first tag with a key -/
def fnd (l : List Tg) (k : ByteArray) : Int := Lib.idxBy (fun (_ : Tg) y => decide (y.1 = k)) l default
end Go.Proofs.TagM

