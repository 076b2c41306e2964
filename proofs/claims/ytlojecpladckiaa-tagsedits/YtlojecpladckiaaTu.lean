/- tags: TagsEdits; what TagsSets asks of Set. -/
import Derived.Test.YtlojecpladckiaaTt
namespace Go.Proofs.Ytlojecpladckiaa
open Go.ChangeShapes Go.WideShapes Go.ChangeAt Go.RowKit Go.Joins Go.Deep

open Go.Proofs.TagM Go.Shelf Go.Sort

theorem stI_len (k v : ByteArray) (l : List Tg) : (stI k v l).length = l.length + 1 := by rw [(stI_perm k v l).length_eq]; rfl
theorem stR_le (k v : ByteArray) : ∀ l : List Tg, (stR k v l).length ≤ l.length + 1
  | [] => by simp [stR]
  | t :: l => by
    rw [stR]
    split
    · have := fl_len k l; simp; omega
    · have := stR_le k v l; simp; omega
theorem st_le (l : List Tg) (k v : ByteArray) : (st l k v).length ≤ l.length + 1 := by
  unfold st rs
  cases (gt l k).2 with
  | true => exact stR_le k v l
  | false => exact Nat.le_of_eq (stI_len k v l)
theorem tagsEdits_open0 {H : Type} {enc : TypeId × Value → H} {W : World} {base b0 : Nat} {spare : Nat → Bool} {held : Bool} {r : Reach} {v : Value} {d : DataW H} {p : List MemPlace}
    (hv : Value.okWide Try.prog W r b0 22 v) (h : DataW.Trod enc Try.prog W base spare held 22 v d p) : OpenT W v := tags_open hv h
theorem tagsSets_open0 {H : Type} {enc : TypeId × Value → H} {W : World} {base b0 : Nat} {spare : Nat → Bool} {held : Bool} {r : Reach} {v : Value} {d : DataW H} {p : List MemPlace}
    (hv : Value.okWide Try.prog W r b0 22 v) (h : DataW.Trod enc Try.prog W base spare held 22 v d p) : OpenT W v := tags_open hv h
set_option maxRecDepth 100000 in
set_option maxHeartbeats 4000000 in
theorem tagsEdits_walk (v : Value) (key val : ByteArray) (w : World) (hv : OpenT w v) (_hk : key.size ≤ maxLen) (_hv : val.size ≤ maxLen) : Calls Try.prog 5 #[v, .string key, .string val] w fun e w' => e = .returned (.bool true) ∧ Below w.heap.size w w' := by
  obtain ⟨l, h⟩ := hv
  have A0 := Lib.hid h
  have SM := Lib.hid (small_any h)
  clear h _hk _hv
  go_enter Try.func5, Try.ntmps5
  go_wp2_with fail
  refine SM.out.mono ?_; rintro e w1 ⟨b, rfl, hb, rfl⟩
  cases b with
  | false =>
    clear hb
    go_wp2_with fail
    refine (lives_any w1).mono ?_; rintro e w2 ⟨rfl, b2⟩
    go_wp2_with fail
    go_ret
    exact ⟨rfl, b2⟩
  | true =>
    have LL : Hid (l.length ≤ 1000000) := by have := hb rfl; show _ ≤ _; omega
    have LS : Hid ((st l key val).length ≤ 1000000) := by have := hb rfl; have := st_le l key val; show _ ≤ _; omega
    have LF : Hid ((fl key l).length ≤ 1000000) := by have := hb rfl; have := fl_len key l; show _ ≤ _; omega
    clear hb SM
    by_cases c1 : 200 < (key.size : Int)
    · go_wp2_with fail
      refine (lives_any w1).mono ?_; rintro e w3 ⟨rfl, b3⟩
      go_wp2_with fail
      go_ret
      exact ⟨rfl, b3⟩
    · by_cases c2 : 200 < (val.size : Int)
      · go_wp2_with fail
        refine (lives_any w1).mono ?_; rintro e w3 ⟨rfl, b3⟩
        go_wp2_with fail
        go_ret
        exact ⟨rfl, b3⟩
      · go_wp2_with fail
        refine (set_any key val A0.out LL.out).mono ?_; rintro e w2 ⟨u, rfl, ha, b2⟩
        have U2 := Lib.hid ha; have B2 := Lib.hid b2
        clear ha b2
        go_wp2_with fail
        refine (setr_any key val (A0.out.below B2.out) LL.out).mono ?_; rintro e w3 ⟨u', rfl, ha, b3⟩
        have SS := Lib.hid (samer_any (U2.out.below b3) ha.at_ LS.out)
        rw [decide_eq_true rfl] at SS
        have B3 := Lib.hid (B2.out.trans (b3.mono B2.out.size))
        clear ha b3
        go_wp2_with fail
        refine SS.out.mono ?_; rintro e w4 ⟨rfl, q4, rfl⟩
        have B4 := Lib.hid (below_drewN B3.out q4)
        go_wp2_with fail
        refine (drop_any key (A0.out.below B4.out) LL.out).mono ?_; rintro e w5 ⟨u5, rfl, ha, b5⟩
        have U5 := Lib.hid ha.at_; have B5 := Lib.hid (B4.out.trans (b5.mono B4.out.size))
        clear ha b5
        go_wp2_with fail
        refine (dropr_any key (A0.out.below B5.out) LL.out).mono ?_; rintro e w6 ⟨u6, rfl, ha, b6⟩
        have S6 := Lib.hid (samer_any (U5.out.below b6) ha.at_ LF.out)
        rw [decide_eq_true rfl] at S6
        have B6 := Lib.hid (B5.out.trans (b6.mono B5.out.size))
        clear ha b6
        go_wp2_with fail
        refine S6.out.mono ?_; rintro e w7 ⟨rfl, q7, rfl⟩
        have B7 := Lib.hid (below_drewN B6.out q7)
        go_wp2_with fail
        refine (lives_any _).mono ?_; rintro e w8 ⟨rfl, b8⟩
        have B8 := Lib.hid (B7.out.trans (b8.mono B7.out.size))
        clear b8
        go_wp2_with fail
        go_ret
        exact ⟨rfl, B8.out⟩
/- what TagsSets asks -/
theorem stR_gt (k v : ByteArray) : ∀ l : List Tg, gt (stR k v l) k = (v, true)
  | [] => by simp [stR, gt]
  | t :: l => by
    rw [stR]
    by_cases h : t.1 = k
    · rw [if_pos h]; simp [gt]
    · rw [if_neg h, gt, if_neg h]; exact stR_gt k v l
theorem stI_gt {k v : ByteArray} : ∀ {l : List Tg}, (∀ t ∈ l, t.1 ≠ k) → gt (stI k v l) k = (v, true)
  | [], _ => by simp [stI, gt]
  | t :: l, h => by
    rw [stI]
    by_cases h1 : klt k t.1 = true
    · rw [if_pos h1]; simp [gt]
    · rw [if_neg h1, gt, if_neg (h t (List.mem_cons_self ..))]; exact stI_gt fun u hu => h u (List.mem_cons_of_mem _ hu)
theorem st_gt (l : List Tg) (k v : ByteArray) : gt (st l k v) k = (v, true) := by
  unfold st rs
  cases h : (gt l k).2 with
  | true => exact stR_gt k v l
  | false => exact stI_gt (gt_none h)
theorem fl_gt {k o : ByteArray} (ho : o ≠ k) : ∀ l : List Tg, gt (fl k l) o = gt l o
  | [] => rfl
  | t :: l => by
    have ih := fl_gt ho l
    unfold fl at ih ⊢
    by_cases h : t.1 = k
    · rw [List.filter_cons_of_neg (by simp [h]), gt, if_neg (by rw [h]; exact fun e => ho e.symm)]; exact ih
    · rw [List.filter_cons_of_pos (by simp [h]), gt, gt]
      split
      · rfl
      · exact ih
theorem gt_single {k v o : ByteArray} (ho : o ≠ k) : gt [(k, v)] o = gt [] o := by
  show (if k = o then (v, true) else gt [] o) = gt [] o
  rw [if_neg fun e => ho e.symm]
theorem stR_other {k v o : ByteArray} (ho : o ≠ k) : ∀ l : List Tg, gt (stR k v l) o = gt l o
  | [] => gt_single ho
  | t :: l => by
    rw [stR]
    by_cases h : t.1 = k
    · rw [if_pos h, gt, if_neg (fun e => ho e.symm), gt, if_neg (by rw [h]; exact fun e => ho e.symm)]; exact fl_gt ho l
    · rw [if_neg h, gt, gt]
      split
      · rfl
      · exact stR_other ho l
theorem stI_other {k v o : ByteArray} (ho : o ≠ k) : ∀ l : List Tg, gt (stI k v l) o = gt l o
  | [] => gt_single ho
  | t :: l => by
    rw [stI]
    by_cases h : klt k t.1 = true
    · rw [if_pos h, gt, if_neg (fun e => ho e.symm)]
    · rw [if_neg h, gt, gt]
      split
      · rfl
      · exact stI_other ho l
theorem st_other {l : List Tg} {k v o : ByteArray} (ho : o ≠ k) : gt (st l k v) o = gt l o := by
  unfold st rs
  cases (gt l k).2 with
  | true => exact stR_other ho l
  | false => exact stI_other ho l
theorem fl_left (k : ByteArray) (l : List Tg) : (gt (fl k l) k).2 = false := by
  rw [gt_miss]
  intro t ht
  unfold fl at ht
  have := (List.mem_filter.1 ht).2
  simpa using this
theorem fl_stI {k v : ByteArray} : ∀ {l : List Tg}, (∀ t ∈ l, t.1 ≠ k) → fl k (stI k v l) = l
  | [], _ => by simp [stI, fl]
  | t :: l, h => by
    have hl := fl_none (k := k) (l := l) fun u hu => h u (List.mem_cons_of_mem _ hu)
    have ht := h t (List.mem_cons_self ..)
    have ih := fl_stI (v := v) fun u hu => h u (List.mem_cons_of_mem _ hu)
    rw [stI]
    unfold fl at hl ih ⊢
    by_cases h1 : klt k t.1 = true
    · rw [if_pos h1, List.filter_cons_of_neg (by simp), List.filter_cons_of_pos (by simp [ht]), hl]
    · rw [if_neg h1, List.filter_cons_of_pos (by simp [ht]), ih]
theorem stR_keys {k v : ByteArray} : ∀ {l : List Tg}, SK l → (∃ t ∈ l, t.1 = k) → (stR k v l).map (·.1) = l.map (·.1)
  | [], _, ⟨t, ht, _⟩ => by cases ht
  | t :: l, hs, he => by
    unfold SK at hs
    rw [List.pairwise_cons] at hs
    rw [stR]
    by_cases h : t.1 = k
    · rw [if_pos h, fl_none fun u hu => (klt_ne (by rw [← h]; exact hs.1 u hu)).symm]; simp [h]
    · rw [if_neg h, List.map_cons, List.map_cons, stR_keys hs.2]
      obtain ⟨u, hu, e⟩ := he
      rcases List.mem_cons.1 hu with rfl | hu
      · exact absurd e h
      · exact ⟨u, hu, e⟩
theorem stR_mem {k v : ByteArray} : ∀ {l : List Tg} {t : Tg}, t ∈ stR k v l → t = (k, v) ∨ t ∈ l
  | [], t, h => by left; simpa [stR] using h
  | u :: l, t, h => by
    rw [stR] at h
    by_cases e : u.1 = k
    · rw [if_pos e] at h
      rcases List.mem_cons.1 h with h | h
      · exact Or.inl h
      · exact Or.inr (List.mem_cons_of_mem _ (List.mem_filter.1 h).1)
    · rw [if_neg e] at h
      rcases List.mem_cons.1 h with rfl | h
      · exact Or.inr (List.mem_cons_self ..)
      · rcases stR_mem h with h | h
        · exact Or.inl h
        · exact Or.inr (List.mem_cons_of_mem _ h)
theorem sk_keys {l m : List Tg} (h : SK l) (e : m.map (·.1) = l.map (·.1)) : SK m := by
  unfold SK at *
  have h1 : (l.map (·.1)).Pairwise (fun a b => klt a b = true) := List.pairwise_map.2 h
  rw [← e] at h1
  exact List.pairwise_map.1 h1
/- Set of a valid tag in a valid list -/
theorem st_ok {l : List Tg} {k v : ByteArray} (hs : SK l) (hv : ∀ t ∈ l, vld t) (ht : vld (k, v)) : (∀ t ∈ st l k v, vld t) ∧ SK (st l k v) ∧ ((gt l k).2 = true → (st l k v).length = l.length) ∧ ((gt l k).2 = false → (st l k v).length = l.length + 1 ∧ fl k (st l k v) = l) := by
  unfold st rs
  cases h : (gt l k).2 with
  | true =>
    refine ⟨fun t hm => ?_, sk_keys hs (stR_keys hs (gt_some h)), fun _ => ?_, (fun e => by cases e)⟩
    · rcases stR_mem hm with rfl | hm
      · exact ht
      · exact hv t hm
    · have := congrArg List.length (stR_keys (v := v) hs (gt_some h)); simpa using this
  | false =>
    refine ⟨fun t hm => ?_, stI_sk hs (gt_none h), (fun e => by cases e), fun _ => ⟨stI_len k v l, fl_stI (gt_none h)⟩⟩
    rcases List.mem_cons.1 ((stI_perm k v l).mem_iff.1 hm) with rfl | hm
    · exact ht
    · exact hv t hm
end Go.Proofs.Ytlojecpladckiaa
