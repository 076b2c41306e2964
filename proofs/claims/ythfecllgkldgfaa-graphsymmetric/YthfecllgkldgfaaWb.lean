/- Of and Has of the program. -/
import Derived.Test.YthfecllgkldgfaaWa
import Derived.Test.YthfecllgkldgfaaShelf
import Derived.Lib.OwnBridge
import Derived.Sort.OwnSortedInts
namespace Go.Proofs.Ythfecllgkldgfaa
open Go.ChangeShapes Go.WideShapes Go.ChangeAt Go.RowKit Go.Joins Go.Deep

/- what a call leaves that makes the set of l -/
def SetAt (l : List Int) (w : World) (e : Ending) (w' : World) : Prop := ∃ v s, e = .returned v ∧ IsSet l s ∧ IntsAt w' v s ∧ s.length ≤ l.length ∧ Below w.heap.size w w'
theorem compact_len (zs : List Int) : (Lib.compact zs).length ≤ zs.length := by
  unfold Lib.compact Lib.compactUpTo
  rw [List.length_map]
  have := List.length_filter_le (Lib.keeps zs.toArray) (List.range zs.length)
  simpa using this
theorem isSet_nil : IsSet [] [] := ⟨List.Pairwise.nil, fun _ => Iff.rfl⟩
set_option maxHeartbeats 1000000 in
theorem of_any {w : World} {v : Value} {l : List Int} (h : IntsAt w v l) (hl : l.length ≤ 1000000) : Calls Try.prog 16 #[v] w (SetAt l w) := by
  obtain ⟨a, cap, rfl, hcap, h2⟩ := h
  by_cases hz : l = []
  · subst hz
    clear h2
    cases a with
    | none =>
      go_enter Try.func16, Try.ntmps16
      go_wp2_with fail
      refine (Try.slices_Clone_int_nil _ _ _).mono ?_; rintro e w1 ⟨rfl, rfl⟩
      go_wp2_with fail
      refine (Try.slices_Sort_int_none _ _ _).mono ?_; rintro e w2 ⟨rfl, rfl⟩
      go_wp2_with fail
      refine (Try.slices_Compact_int_empty _ _ _).mono ?_; rintro e w3 ⟨rfl, rfl⟩
      go_wp2_with fail
      go_ret
      exact ⟨_, [], rfl, isSet_nil, ints_nil _, Nat.le_refl _, Below.refl _ _⟩
    | some ad =>
      go_enter Try.func16, Try.ntmps16
      go_wp2_with fail
      refine (Try.slices_Clone_int_zero _ _ _).mono ?_; rintro e w1 ⟨v', rfl, ho, hn, hb⟩
      obtain ⟨a', cap', rfl⟩ := row_form ho
      have HB := Lib.hid hb; clear hb ho hn
      go_wp2_with fail
      refine (Try.slices_Sort_int_none _ _ _).mono ?_; rintro e w2 ⟨rfl, rfl⟩
      go_wp2_with fail
      refine (Try.slices_Compact_int_empty _ _ _).mono ?_; rintro e w3 ⟨rfl, rfl⟩
      go_wp2_with fail
      go_ret
      exact ⟨_, [], rfl, isSet_nil, ⟨a', cap', rfl, Nat.zero_le _, Or.inl rfl⟩, Nat.le_refl _, HB.out⟩
  · rcases h2 with h2 | ⟨b, off, rfl, hlt, hc⟩
    · exact absurd h2 hz
    have HC := Lib.hid hc; clear hc hz
    obtain ⟨n, hn⟩ : ∃ n, l.length = n := ⟨_, rfl⟩
    have HN := Lib.hid hn
    rw [hn] at hl ⊢; clear hn
    go_enter Try.func16, Try.ntmps16
    go_wp2_with fail
    refine (Try.slices_Clone_int b off n cap l _ (by rw [HN.out]; exact Nat.le_refl _) (by omega) (by exact HC.out)).mono ?_; rintro e w1 ⟨v', rfl, ho, hnn, hb⟩
    rw [List.take_of_length_le (by rw [HN.out]; exact Nat.le_refl _)] at ho
    obtain ⟨g, c1, rfl, hg0, hg1, hnc, hcm, _, hH⟩ := Lib.holds_of_ownsRow ho hnn
    have HO := Lib.hid ho; have HB := Lib.hid hb; have HH := Lib.hid hH; clear ho hb hH hnn
    go_wp2_with fail
    have hs := Try.slices_Sort_int g 0 c1 l w1 HH.out hg1 (by rw [HN.out]; omega)
    rw [HN.out] at hs
    refine hs.mono ?_; clear hs; rintro e w2 ⟨rfl, nd, os, e2⟩
    have HS : Hid (IsSet l (Lib.compact (l.mergeSort fun x y => decide (x ≤ y)))) := sort_set l
    have hml : (l.mergeSort fun x y => decide (x ≤ y)).length = n := by rw [List.length_mergeSort]; exact HN.out
    obtain ⟨m, hm⟩ : ∃ m, (l.mergeSort fun x y => decide (x ≤ y)) = m := ⟨_, rfl⟩
    rw [hm] at e2 hml HS; clear hm
    have O2 : Hid (w2.ownsRow w.heap.size 3 1 (.slice (some ⟨g, 0, none⟩) n c1) n (m.map (Value.int .i64))) := by
      show World.ownsRow _ _ _ _ _ _ _
      rcases HO.out.2 with ⟨e0, _⟩ | ⟨g', cap', cur, e0, hb', hg', hn', hm', hs', ht'⟩
      · cases e0
      · injection e0 with q1 _ q3
        injection q1 with q1
        injection q1 with q1
        subst q1; subst q3
        rw [e2]
        have := ownsRow_sortedI (w := w1) (base := w.heap.size) (g := g) (cap := c1) (n := nd) (os := os) (ss := l) (ts := m) (by rw [hml]; exact HN.out.symm) hb' hg' (by rw [HN.out]; exact hn') hm' hs'
        rw [HN.out] at this; exact this
    have B2 : Hid (Below w.heap.size w w2) := by
      show Below _ _ _
      rw [e2]
      exact HB.out.grown (grownBy_sortedI _) HB.out.size (fun k hk => by injection hk with hk; subst hk; exact hg0)
    clear e2 HB HO HH
    obtain ⟨g2, c2, e3, _, _, _, _, _, hH2⟩ := Lib.holds_of_ownsRow O2.out (by intro h; cases h)
    injection e3 with q1 _ q3
    injection q1 with q1
    injection q1 with q1
    subst q1; subst q3
    have H2 := Lib.hid hH2; clear hH2
    go_wp2_with fail
    have hs := Try.slices_Compact_int g 0 c1 m w2 H2.out (by rw [hml]; omega) (by rw [hml]; exact hnc)
    rw [hml] at hs
    refine hs.mono ?_; clear hs; rintro e w3 ⟨rfl, q, e3⟩
    have hk : (Lib.compact m).length ≤ n := by have := compact_len m; omega
    have O3 : Hid (IntsAt w3 (.slice (some ⟨g, 0, none⟩) (Lib.compact m).length c1) (Lib.compact m)) := by
      show IntsAt _ _ _
      have := Lib.ownsRow_putRow (q := q) (k := (Lib.compact m).length) (ys := Lib.compact m ++ List.replicate (n - (Lib.compact m).length) 0) O2.out (by simp; omega) hk
      rw [← e3] at this
      rw [List.take_left'  rfl] at this
      exact IntsAt.of_row this
    have B3 : Hid (Below w.heap.size w w3) := by
      show Below _ _ _
      rw [e3]; exact Lib.below_putRow B2.out hg0
    clear e3 O2 B2 H2
    go_wp2_with fail
    go_ret
    exact ⟨_, _, rfl, HS.out, O3.out, by rw [HN.out]; exact hk, B3.out⟩

set_option maxHeartbeats 1000000 in
theorem has_any {w : World} {v : Value} {l : List Int} (h : IntsAt w v l) (x : Int) (hl : l.length ≤ 1000000) : Calls Try.prog 18 #[v, .int .i64 x] w fun e w' => e = .returned (.bool (decide (x ∈ l))) ∧ w = w' := by
  obtain ⟨a, cap, rfl, hcap, h2⟩ := h
  by_cases hz : l = []
  · subst hz
    go_enter Try.func18, Try.ntmps18
    go_wp2_with fail
    refine (Try.slices_Contains_int_empty _ _ _ _).mono ?_; rintro e w1 ⟨rfl, rfl⟩
    go_wp2_with fail
    go_ret
    exact ⟨ret_bool (by simp), rfl⟩
  · rcases h2 with h2 | ⟨b, off, rfl, hlt, hc⟩
    · exact absurd h2 hz
    have HC := Lib.hid hc; clear hc hz
    obtain ⟨r, hr⟩ : ∃ r, (l.take l.length).contains x = r := ⟨_, rfl⟩
    have HR := Lib.hid hr
    have hs := Try.slices_Contains_int b off l.length cap l x w (Nat.le_refl _) (by omega) HC.out
    rw [hr] at hs; clear hr
    obtain ⟨n, hn⟩ : ∃ n, l.length = n := ⟨_, rfl⟩
    have HN := Lib.hid hn
    rw [hn] at hl hs ⊢; clear hn
    have HS := Lib.hid hs; clear hs
    go_enter Try.func18, Try.ntmps18
    go_wp2_with fail
    refine HS.out.mono ?_; rintro e w1 ⟨rfl, rfl⟩
    go_wp2_with fail
    go_ret
    refine ⟨ret_bool ?_, rfl⟩
    rw [← HR.out]; simp
end Go.Proofs.Ythfecllgkldgfaa
