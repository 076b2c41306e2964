/- tags: TagsEdits; what TagsSets asks of Set. -/
import Derived.Test.YtgfhanhonfpngaaDoorTk
namespace Go.Proofs.YtgfhanhonfpngaaDoor
open Go.ChangeShapes Go.WideShapes Go.ChangeAt Go.RowKit Go.Joins Go.Deep

open Go.Proofs.TagM Go.Shelf Go.Sort

theorem stI_len (k v : ByteArray) (l : List Tg) : (stI k v l).length = l.length + 1 := by rw [(stI_perm k v l).length_eq]; rfl
theorem stR_le (k v : ByteArray) : ∀ l : List Tg, (stR k v l).length ≤ l.length + 1
  | [] => by simp [stR]
  | t :: l => by
    rw [stR]
    split
    · have := fl_len k l; simp; omega
    · have := stR_le k v l; simp; omega
theorem st_le (l : List Tg) (k v : ByteArray) : (st l k v).length ≤ l.length + 1 := by
  unfold st rs
  cases (gt l k).2 with
  | true => exact stR_le k v l
  | false => exact Nat.le_of_eq (stI_len k v l)
/- what TagsSets asks -/
theorem stR_gt (k v : ByteArray) : ∀ l : List Tg, gt (stR k v l) k = (v, true)
  | [] => by simp [stR, gt]
  | t :: l => by
    rw [stR]
    by_cases h : t.1 = k
    · rw [if_pos h]; simp [gt]
    · rw [if_neg h, gt, if_neg h]; exact stR_gt k v l
theorem stI_gt {k v : ByteArray} : ∀ {l : List Tg}, (∀ t ∈ l, t.1 ≠ k) → gt (stI k v l) k = (v, true)
  | [], _ => by simp [stI, gt]
  | t :: l, h => by
    rw [stI]
    by_cases h1 : klt k t.1 = true
    · rw [if_pos h1]; simp [gt]
    · rw [if_neg h1, gt, if_neg (h t (List.mem_cons_self ..))]; exact stI_gt fun u hu => h u (List.mem_cons_of_mem _ hu)
theorem st_gt (l : List Tg) (k v : ByteArray) : gt (st l k v) k = (v, true) := by
  unfold st rs
  cases h : (gt l k).2 with
  | true => exact stR_gt k v l
  | false => exact stI_gt (gt_none h)
theorem fl_gt {k o : ByteArray} (ho : o ≠ k) : ∀ l : List Tg, gt (fl k l) o = gt l o
  | [] => rfl
  | t :: l => by
    have ih := fl_gt ho l
    unfold fl at ih ⊢
    by_cases h : t.1 = k
    · rw [List.filter_cons_of_neg (by simp [h]), gt, if_neg (by rw [h]; exact fun e => ho e.symm)]; exact ih
    · rw [List.filter_cons_of_pos (by simp [h]), gt, gt]
      split
      · rfl
      · exact ih
theorem gt_single {k v o : ByteArray} (ho : o ≠ k) : gt [(k, v)] o = gt [] o := by
  show (if k = o then (v, true) else gt [] o) = gt [] o
  rw [if_neg fun e => ho e.symm]
theorem stR_other {k v o : ByteArray} (ho : o ≠ k) : ∀ l : List Tg, gt (stR k v l) o = gt l o
  | [] => gt_single ho
  | t :: l => by
    rw [stR]
    by_cases h : t.1 = k
    · rw [if_pos h, gt, if_neg (fun e => ho e.symm), gt, if_neg (by rw [h]; exact fun e => ho e.symm)]; exact fl_gt ho l
    · rw [if_neg h, gt, gt]
      split
      · rfl
      · exact stR_other ho l
theorem stI_other {k v o : ByteArray} (ho : o ≠ k) : ∀ l : List Tg, gt (stI k v l) o = gt l o
  | [] => gt_single ho
  | t :: l => by
    rw [stI]
    by_cases h : klt k t.1 = true
    · rw [if_pos h, gt, if_neg (fun e => ho e.symm)]
    · rw [if_neg h, gt, gt]
      split
      · rfl
      · exact stI_other ho l
theorem st_other {l : List Tg} {k v o : ByteArray} (ho : o ≠ k) : gt (st l k v) o = gt l o := by
  unfold st rs
  cases (gt l k).2 with
  | true => exact stR_other ho l
  | false => exact stI_other ho l
theorem fl_left (k : ByteArray) (l : List Tg) : (gt (fl k l) k).2 = false := by
  rw [gt_miss]
  intro t ht
  unfold fl at ht
  have := (List.mem_filter.1 ht).2
  simpa using this
theorem fl_stI {k v : ByteArray} : ∀ {l : List Tg}, (∀ t ∈ l, t.1 ≠ k) → fl k (stI k v l) = l
  | [], _ => by simp [stI, fl]
  | t :: l, h => by
    have hl := fl_none (k := k) (l := l) fun u hu => h u (List.mem_cons_of_mem _ hu)
    have ht := h t (List.mem_cons_self ..)
    have ih := fl_stI (v := v) fun u hu => h u (List.mem_cons_of_mem _ hu)
    rw [stI]
    unfold fl at hl ih ⊢
    by_cases h1 : klt k t.1 = true
    · rw [if_pos h1, List.filter_cons_of_neg (by simp), List.filter_cons_of_pos (by simp [ht]), hl]
    · rw [if_neg h1, List.filter_cons_of_pos (by simp [ht]), ih]
theorem stR_keys {k v : ByteArray} : ∀ {l : List Tg}, SK l → (∃ t ∈ l, t.1 = k) → (stR k v l).map (·.1) = l.map (·.1)
  | [], _, ⟨t, ht, _⟩ => by cases ht
  | t :: l, hs, he => by
    unfold SK at hs
    rw [List.pairwise_cons] at hs
    rw [stR]
    by_cases h : t.1 = k
    · rw [if_pos h, fl_none fun u hu => (klt_ne (by rw [← h]; exact hs.1 u hu)).symm]; simp [h]
    · rw [if_neg h, List.map_cons, List.map_cons, stR_keys hs.2]
      obtain ⟨u, hu, e⟩ := he
      rcases List.mem_cons.1 hu with rfl | hu
      · exact absurd e h
      · exact ⟨u, hu, e⟩
theorem stR_mem {k v : ByteArray} : ∀ {l : List Tg} {t : Tg}, t ∈ stR k v l → t = (k, v) ∨ t ∈ l
  | [], t, h => by left; simpa [stR] using h
  | u :: l, t, h => by
    rw [stR] at h
    by_cases e : u.1 = k
    · rw [if_pos e] at h
      rcases List.mem_cons.1 h with h | h
      · exact Or.inl h
      · exact Or.inr (List.mem_cons_of_mem _ (List.mem_filter.1 h).1)
    · rw [if_neg e] at h
      rcases List.mem_cons.1 h with rfl | h
      · exact Or.inr (List.mem_cons_self ..)
      · rcases stR_mem h with h | h
        · exact Or.inl h
        · exact Or.inr (List.mem_cons_of_mem _ h)
theorem sk_keys {l m : List Tg} (h : SK l) (e : m.map (·.1) = l.map (·.1)) : SK m := by
  unfold SK at *
  have h1 : (l.map (·.1)).Pairwise (fun a b => klt a b = true) := List.pairwise_map.2 h
  rw [← e] at h1
  exact List.pairwise_map.1 h1
/- Set of a valid tag in a valid list -/
theorem st_ok {l : List Tg} {k v : ByteArray} (hs : SK l) (hv : ∀ t ∈ l, vld t) (ht : vld (k, v)) : (∀ t ∈ st l k v, vld t) ∧ SK (st l k v) ∧ ((gt l k).2 = true → (st l k v).length = l.length) ∧ ((gt l k).2 = false → (st l k v).length = l.length + 1 ∧ fl k (st l k v) = l) := by
  unfold st rs
  cases h : (gt l k).2 with
  | true =>
    refine ⟨fun t hm => ?_, sk_keys hs (stR_keys hs (gt_some h)), fun _ => ?_, (fun e => by cases e)⟩
    · rcases stR_mem hm with rfl | hm
      · exact ht
      · exact hv t hm
    · have := congrArg List.length (stR_keys (v := v) hs (gt_some h)); simpa using this
  | false =>
    refine ⟨fun t hm => ?_, stI_sk hs (gt_none h), (fun e => by cases e), fun _ => ⟨stI_len k v l, fl_stI (gt_none h)⟩⟩
    rcases List.mem_cons.1 ((stI_perm k v l).mem_iff.1 hm) with rfl | hm
    · exact ht
    · exact hv t hm
end Go.Proofs.YtgfhanhonfpngaaDoor

