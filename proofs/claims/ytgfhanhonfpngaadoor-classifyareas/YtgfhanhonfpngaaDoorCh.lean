/- classify: ClassifyAreas. -/
import Derived.Test.YtgfhanhonfpngaaDoorCg
namespace Go.Proofs.YtgfhanhonfpngaaDoor
open Go.ChangeShapes Go.WideShapes Go.ChangeAt Go.RowKit Go.Joins Go.Deep

open Go.Proofs.TagM Go.Shelf Go.Sort

theorem cls_range (l : List Tg) : cls l = 0 ∨ cls l = 1 ∨ cls l = 2 ∨ cls l = 3 ∨ cls l = 4 ∨ cls l = 5 ∨ cls l = 6 := by
  unfold cls
  split
  · simp
  · unfold hws
    simp only [hwI]
    repeat' split
    all_goals simp
theorem spd_cls {l : List Tg} (h : 0 < cls l) : 0 < spd (cls l) := by
  rcases cls_range l with e | e | e | e | e | e | e <;> rw [e] at h ⊢ <;> first | exact absurd h (by decide) | decide
theorem thm_cls {l : List Tg} (h : thm l = 4) : 0 < cls l := by
  by_cases hc : 0 < cls l
  · exact hc
  · exfalso
    unfold thm at h
    rw [if_neg hc] at h
    revert h
    repeat' split
    all_goals simp
theorem rz_range (c : Int) : 0 ≤ rz c ∧ rz c ≤ 5 := by
  unfold rz
  repeat' split
  all_goals decide
theorem plz_range (l : List Tg) : 0 ≤ plz l ∧ plz l ≤ 6 := by
  unfold plz
  repeat' split
  all_goals decide
set_option maxRecDepth 100000 in
set_option maxHeartbeats 4000000 in
theorem classifyAreas_walk (v : Value) (w : World) (hv : OpenT w v) (g : GV w) : Calls Tryd.prog 6 #[v] w fun e w' => e = .returned (.bool true) ∧ Below w.heap.size w w' := by
  obtain ⟨l, h⟩ := hv
  have A0 := Lib.hid h; have G0 := Lib.hid g
  have SM := Lib.hid (small_any h)
  obtain ⟨av, cv, rfl, _⟩ := h
  obtain ⟨n, hn⟩ : ∃ n, l.length = n := ⟨_, rfl⟩
  rw [hn] at A0 SM ⊢
  clear hn g
  go_enter Tryd.func6, Tryd.ntmps6
  go_wp2_with fail
  refine SM.out.mono ?_; rintro e w1 ⟨b, rfl, hb, rfl⟩
  cases b with
  | false =>
    clear hb
    go_wp2_with fail
    refine (lives_any G0.out).mono ?_; rintro e w2 ⟨rfl, b2⟩
    go_wp2_with fail
    go_ret
    exact ⟨rfl, b2⟩
  | true =>
    have LL : Hid (l.length ≤ 1000000) := by have := hb rfl; show _ ≤ _; omega
    have L40 : Hid (l.length ≤ 40) := hb rfl
    clear hb SM
    have B0 := Lib.hid (Below.refl w1.heap.size w1)
    have SA := Lib.hid (same_area l)
    have LS : Hid ((st l sArea sNo).length ≤ 1000000) := by have := L40.out; have := st_le l sArea sNo; show _ ≤ _; omega
    rcases thm_range l with ht | ht | ht | ht | ht | ht | ht
    · have Q1 := Lib.hid (theme_any (A0.out.below B0.out) (G0.out.below B0.out) LL.out)
      rw [ht] at Q1
      go_wp2_with fail
      refine Q1.out.mono ?_; rintro e y1 ⟨rfl, b⟩
      have B1 := Lib.hid (B0.out.trans (b.mono B0.out.size))
      clear b B0 Q1
      have B0 := B1
      clear B1
      have Q2 := Lib.hid (minZoom_any (A0.out.below B0.out) (G0.out.below B0.out) LL.out)
      rw [show mz l = 8 by simp [mz, ht]] at Q2
      go_wp2_with fail
      refine Q2.out.mono ?_; rintro e y2 ⟨rfl, b⟩
      have B1 := Lib.hid (B0.out.trans (b.mono B0.out.size))
      clear b B0 Q2
      have B0 := B1
      clear B1
      have Q3 := Lib.hid (isArea_any (A0.out.below B0.out) (G0.out.below B0.out) LL.out)
      rw [show area l = false by unfold area; rw [if_neg (by rw [ht]; decide), if_neg (by rw [ht]; decide)]] at Q3
      go_wp2_with fail
      refine Q3.out.mono ?_; rintro e y3 ⟨rfl, b⟩
      have B1 := Lib.hid (B0.out.trans (b.mono B0.out.size))
      clear b B0 Q3
      have B0 := B1
      clear B1
      go_wp2_with fail
      refine (set_any sArea sNo (A0.out.below B0.out) LL.out).mono ?_; rintro e u0 ⟨u, rfl, ha, b⟩
      have B1 := Lib.hid (B0.out.trans (b.mono B0.out.size)); have U := Lib.hid ha
      have UB := Lib.hid (Below.refl u0.heap.size u0)
      clear b B0 ha
      have B0 := B1
      clear B1
      have Q11 := Lib.hid (isArea_any (U.out.below UB.out) (G0.out.below B0.out) LS.out)
      rw [SA.out.2] at Q11
      go_wp2_with fail
      refine Q11.out.mono ?_; rintro e y11 ⟨rfl, b⟩
      have B1 := Lib.hid (B0.out.trans (b.mono B0.out.size)); have UB1 := Lib.hid (UB.out.trans (b.mono UB.out.size))
      clear b B0 UB Q11
      have B0 := B1; have UB := UB1
      clear B1 UB1
      have Q12 := Lib.hid (theme_any (U.out.below UB.out) (G0.out.below B0.out) LS.out)
      rw [SA.out.1, ht] at Q12
      go_wp2_with fail
      refine Q12.out.mono ?_; rintro e y12 ⟨rfl, b⟩
      have B1 := Lib.hid (B0.out.trans (b.mono B0.out.size)); have UB1 := Lib.hid (UB.out.trans (b.mono UB.out.size))
      clear b B0 UB Q12
      have B0 := B1; have UB := UB1
      clear B1 UB1
      go_wp2_with fail
      refine (alive G0.out B0.out).mono ?_; rintro e z9 ⟨rfl, b9⟩
      go_wp2_with fail
      go_ret
      exact ⟨rfl, b9⟩
    · have Q1 := Lib.hid (theme_any (A0.out.below B0.out) (G0.out.below B0.out) LL.out)
      rw [ht] at Q1
      go_wp2_with fail
      refine Q1.out.mono ?_; rintro e y1 ⟨rfl, b⟩
      have B1 := Lib.hid (B0.out.trans (b.mono B0.out.size))
      clear b B0 Q1
      have B0 := B1
      clear B1
      have Q2 := Lib.hid (minZoom_any (A0.out.below B0.out) (G0.out.below B0.out) LL.out)
      rw [show mz l = 0 by simp [mz, ht]] at Q2
      go_wp2_with fail
      refine Q2.out.mono ?_; rintro e y2 ⟨rfl, b⟩
      have B1 := Lib.hid (B0.out.trans (b.mono B0.out.size))
      clear b B0 Q2
      have B0 := B1
      clear B1
      have Q3 := Lib.hid (isArea_any (A0.out.below B0.out) (G0.out.below B0.out) LL.out)
      obtain ⟨ab, hab⟩ : ∃ z, area l = z := ⟨_, rfl⟩
      rw [hab] at Q3
      clear hab
      cases ab with
      | true =>
        go_wp2_with fail
        refine Q3.out.mono ?_; rintro e y3 ⟨rfl, b⟩
        have B1 := Lib.hid (B0.out.trans (b.mono B0.out.size))
        clear b B0 Q3
        have B0 := B1
        clear B1
        go_wp2_with fail
        refine (set_any sArea sNo (A0.out.below B0.out) LL.out).mono ?_; rintro e u0 ⟨u, rfl, ha, b⟩
        have B1 := Lib.hid (B0.out.trans (b.mono B0.out.size)); have U := Lib.hid ha
        have UB := Lib.hid (Below.refl u0.heap.size u0)
        clear b B0 ha
        have B0 := B1
        clear B1
        have Q11 := Lib.hid (isArea_any (U.out.below UB.out) (G0.out.below B0.out) LS.out)
        rw [SA.out.2] at Q11
        go_wp2_with fail
        refine Q11.out.mono ?_; rintro e y11 ⟨rfl, b⟩
        have B1 := Lib.hid (B0.out.trans (b.mono B0.out.size)); have UB1 := Lib.hid (UB.out.trans (b.mono UB.out.size))
        clear b B0 UB Q11
        have B0 := B1; have UB := UB1
        clear B1 UB1
        have Q12 := Lib.hid (theme_any (U.out.below UB.out) (G0.out.below B0.out) LS.out)
        rw [SA.out.1, ht] at Q12
        go_wp2_with fail
        refine Q12.out.mono ?_; rintro e y12 ⟨rfl, b⟩
        have B1 := Lib.hid (B0.out.trans (b.mono B0.out.size)); have UB1 := Lib.hid (UB.out.trans (b.mono UB.out.size))
        clear b B0 UB Q12
        have B0 := B1; have UB := UB1
        clear B1 UB1
        go_wp2_with fail
        refine (alive G0.out B0.out).mono ?_; rintro e z9 ⟨rfl, b9⟩
        go_wp2_with fail
        go_ret
        exact ⟨rfl, b9⟩
      | false =>
        go_wp2_with fail
        refine Q3.out.mono ?_; rintro e y3 ⟨rfl, b⟩
        have B1 := Lib.hid (B0.out.trans (b.mono B0.out.size))
        clear b B0 Q3
        have B0 := B1
        clear B1
        go_wp2_with fail
        refine (set_any sArea sNo (A0.out.below B0.out) LL.out).mono ?_; rintro e u0 ⟨u, rfl, ha, b⟩
        have B1 := Lib.hid (B0.out.trans (b.mono B0.out.size)); have U := Lib.hid ha
        have UB := Lib.hid (Below.refl u0.heap.size u0)
        clear b B0 ha
        have B0 := B1
        clear B1
        have Q11 := Lib.hid (isArea_any (U.out.below UB.out) (G0.out.below B0.out) LS.out)
        rw [SA.out.2] at Q11
        go_wp2_with fail
        refine Q11.out.mono ?_; rintro e y11 ⟨rfl, b⟩
        have B1 := Lib.hid (B0.out.trans (b.mono B0.out.size)); have UB1 := Lib.hid (UB.out.trans (b.mono UB.out.size))
        clear b B0 UB Q11
        have B0 := B1; have UB := UB1
        clear B1 UB1
        have Q12 := Lib.hid (theme_any (U.out.below UB.out) (G0.out.below B0.out) LS.out)
        rw [SA.out.1, ht] at Q12
        go_wp2_with fail
        refine Q12.out.mono ?_; rintro e y12 ⟨rfl, b⟩
        have B1 := Lib.hid (B0.out.trans (b.mono B0.out.size)); have UB1 := Lib.hid (UB.out.trans (b.mono UB.out.size))
        clear b B0 UB Q12
        have B0 := B1; have UB := UB1
        clear B1 UB1
        go_wp2_with fail
        refine (alive G0.out B0.out).mono ?_; rintro e z9 ⟨rfl, b9⟩
        go_wp2_with fail
        go_ret
        exact ⟨rfl, b9⟩
    · have Q1 := Lib.hid (theme_any (A0.out.below B0.out) (G0.out.below B0.out) LL.out)
      rw [ht] at Q1
      go_wp2_with fail
      refine Q1.out.mono ?_; rintro e y1 ⟨rfl, b⟩
      have B1 := Lib.hid (B0.out.trans (b.mono B0.out.size))
      clear b B0 Q1
      have B0 := B1
      clear B1
      have Q2 := Lib.hid (minZoom_any (A0.out.below B0.out) (G0.out.below B0.out) LL.out)
      rw [show mz l = 2 by simp [mz, ht]] at Q2
      go_wp2_with fail
      refine Q2.out.mono ?_; rintro e y2 ⟨rfl, b⟩
      have B1 := Lib.hid (B0.out.trans (b.mono B0.out.size))
      clear b B0 Q2
      have B0 := B1
      clear B1
      have Q3 := Lib.hid (isArea_any (A0.out.below B0.out) (G0.out.below B0.out) LL.out)
      obtain ⟨ab, hab⟩ : ∃ z, area l = z := ⟨_, rfl⟩
      rw [hab] at Q3
      clear hab
      cases ab with
      | true =>
        go_wp2_with fail
        refine Q3.out.mono ?_; rintro e y3 ⟨rfl, b⟩
        have B1 := Lib.hid (B0.out.trans (b.mono B0.out.size))
        clear b B0 Q3
        have B0 := B1
        clear B1
        go_wp2_with fail
        refine (set_any sArea sNo (A0.out.below B0.out) LL.out).mono ?_; rintro e u0 ⟨u, rfl, ha, b⟩
        have B1 := Lib.hid (B0.out.trans (b.mono B0.out.size)); have U := Lib.hid ha
        have UB := Lib.hid (Below.refl u0.heap.size u0)
        clear b B0 ha
        have B0 := B1
        clear B1
        have Q11 := Lib.hid (isArea_any (U.out.below UB.out) (G0.out.below B0.out) LS.out)
        rw [SA.out.2] at Q11
        go_wp2_with fail
        refine Q11.out.mono ?_; rintro e y11 ⟨rfl, b⟩
        have B1 := Lib.hid (B0.out.trans (b.mono B0.out.size)); have UB1 := Lib.hid (UB.out.trans (b.mono UB.out.size))
        clear b B0 UB Q11
        have B0 := B1; have UB := UB1
        clear B1 UB1
        have Q12 := Lib.hid (theme_any (U.out.below UB.out) (G0.out.below B0.out) LS.out)
        rw [SA.out.1, ht] at Q12
        go_wp2_with fail
        refine Q12.out.mono ?_; rintro e y12 ⟨rfl, b⟩
        have B1 := Lib.hid (B0.out.trans (b.mono B0.out.size)); have UB1 := Lib.hid (UB.out.trans (b.mono UB.out.size))
        clear b B0 UB Q12
        have B0 := B1; have UB := UB1
        clear B1 UB1
        go_wp2_with fail
        refine (alive G0.out B0.out).mono ?_; rintro e z9 ⟨rfl, b9⟩
        go_wp2_with fail
        go_ret
        exact ⟨rfl, b9⟩
      | false =>
        go_wp2_with fail
        refine Q3.out.mono ?_; rintro e y3 ⟨rfl, b⟩
        have B1 := Lib.hid (B0.out.trans (b.mono B0.out.size))
        clear b B0 Q3
        have B0 := B1
        clear B1
        go_wp2_with fail
        refine (set_any sArea sNo (A0.out.below B0.out) LL.out).mono ?_; rintro e u0 ⟨u, rfl, ha, b⟩
        have B1 := Lib.hid (B0.out.trans (b.mono B0.out.size)); have U := Lib.hid ha
        have UB := Lib.hid (Below.refl u0.heap.size u0)
        clear b B0 ha
        have B0 := B1
        clear B1
        have Q11 := Lib.hid (isArea_any (U.out.below UB.out) (G0.out.below B0.out) LS.out)
        rw [SA.out.2] at Q11
        go_wp2_with fail
        refine Q11.out.mono ?_; rintro e y11 ⟨rfl, b⟩
        have B1 := Lib.hid (B0.out.trans (b.mono B0.out.size)); have UB1 := Lib.hid (UB.out.trans (b.mono UB.out.size))
        clear b B0 UB Q11
        have B0 := B1; have UB := UB1
        clear B1 UB1
        have Q12 := Lib.hid (theme_any (U.out.below UB.out) (G0.out.below B0.out) LS.out)
        rw [SA.out.1, ht] at Q12
        go_wp2_with fail
        refine Q12.out.mono ?_; rintro e y12 ⟨rfl, b⟩
        have B1 := Lib.hid (B0.out.trans (b.mono B0.out.size)); have UB1 := Lib.hid (UB.out.trans (b.mono UB.out.size))
        clear b B0 UB Q12
        have B0 := B1; have UB := UB1
        clear B1 UB1
        go_wp2_with fail
        refine (alive G0.out B0.out).mono ?_; rintro e z9 ⟨rfl, b9⟩
        go_wp2_with fail
        go_ret
        exact ⟨rfl, b9⟩
    · have Q1 := Lib.hid (theme_any (A0.out.below B0.out) (G0.out.below B0.out) LL.out)
      rw [ht] at Q1
      go_wp2_with fail
      refine Q1.out.mono ?_; rintro e y1 ⟨rfl, b⟩
      have B1 := Lib.hid (B0.out.trans (b.mono B0.out.size))
      clear b B0 Q1
      have B0 := B1
      clear B1
      have Q2 := Lib.hid (minZoom_any (A0.out.below B0.out) (G0.out.below B0.out) LL.out)
      rw [show mz l = 6 by simp [mz, ht]] at Q2
      go_wp2_with fail
      refine Q2.out.mono ?_; rintro e y2 ⟨rfl, b⟩
      have B1 := Lib.hid (B0.out.trans (b.mono B0.out.size))
      clear b B0 Q2
      have B0 := B1
      clear B1
      have Q3 := Lib.hid (isArea_any (A0.out.below B0.out) (G0.out.below B0.out) LL.out)
      obtain ⟨ab, hab⟩ : ∃ z, area l = z := ⟨_, rfl⟩
      rw [hab] at Q3
      clear hab
      cases ab with
      | true =>
        go_wp2_with fail
        refine Q3.out.mono ?_; rintro e y3 ⟨rfl, b⟩
        have B1 := Lib.hid (B0.out.trans (b.mono B0.out.size))
        clear b B0 Q3
        have B0 := B1
        clear B1
        go_wp2_with fail
        refine (set_any sArea sNo (A0.out.below B0.out) LL.out).mono ?_; rintro e u0 ⟨u, rfl, ha, b⟩
        have B1 := Lib.hid (B0.out.trans (b.mono B0.out.size)); have U := Lib.hid ha
        have UB := Lib.hid (Below.refl u0.heap.size u0)
        clear b B0 ha
        have B0 := B1
        clear B1
        have Q11 := Lib.hid (isArea_any (U.out.below UB.out) (G0.out.below B0.out) LS.out)
        rw [SA.out.2] at Q11
        go_wp2_with fail
        refine Q11.out.mono ?_; rintro e y11 ⟨rfl, b⟩
        have B1 := Lib.hid (B0.out.trans (b.mono B0.out.size)); have UB1 := Lib.hid (UB.out.trans (b.mono UB.out.size))
        clear b B0 UB Q11
        have B0 := B1; have UB := UB1
        clear B1 UB1
        have Q12 := Lib.hid (theme_any (U.out.below UB.out) (G0.out.below B0.out) LS.out)
        rw [SA.out.1, ht] at Q12
        go_wp2_with fail
        refine Q12.out.mono ?_; rintro e y12 ⟨rfl, b⟩
        have B1 := Lib.hid (B0.out.trans (b.mono B0.out.size)); have UB1 := Lib.hid (UB.out.trans (b.mono UB.out.size))
        clear b B0 UB Q12
        have B0 := B1; have UB := UB1
        clear B1 UB1
        go_wp2_with fail
        refine (alive G0.out B0.out).mono ?_; rintro e z9 ⟨rfl, b9⟩
        go_wp2_with fail
        go_ret
        exact ⟨rfl, b9⟩
      | false =>
        go_wp2_with fail
        refine Q3.out.mono ?_; rintro e y3 ⟨rfl, b⟩
        have B1 := Lib.hid (B0.out.trans (b.mono B0.out.size))
        clear b B0 Q3
        have B0 := B1
        clear B1
        go_wp2_with fail
        refine (set_any sArea sNo (A0.out.below B0.out) LL.out).mono ?_; rintro e u0 ⟨u, rfl, ha, b⟩
        have B1 := Lib.hid (B0.out.trans (b.mono B0.out.size)); have U := Lib.hid ha
        have UB := Lib.hid (Below.refl u0.heap.size u0)
        clear b B0 ha
        have B0 := B1
        clear B1
        have Q11 := Lib.hid (isArea_any (U.out.below UB.out) (G0.out.below B0.out) LS.out)
        rw [SA.out.2] at Q11
        go_wp2_with fail
        refine Q11.out.mono ?_; rintro e y11 ⟨rfl, b⟩
        have B1 := Lib.hid (B0.out.trans (b.mono B0.out.size)); have UB1 := Lib.hid (UB.out.trans (b.mono UB.out.size))
        clear b B0 UB Q11
        have B0 := B1; have UB := UB1
        clear B1 UB1
        have Q12 := Lib.hid (theme_any (U.out.below UB.out) (G0.out.below B0.out) LS.out)
        rw [SA.out.1, ht] at Q12
        go_wp2_with fail
        refine Q12.out.mono ?_; rintro e y12 ⟨rfl, b⟩
        have B1 := Lib.hid (B0.out.trans (b.mono B0.out.size)); have UB1 := Lib.hid (UB.out.trans (b.mono UB.out.size))
        clear b B0 UB Q12
        have B0 := B1; have UB := UB1
        clear B1 UB1
        go_wp2_with fail
        refine (alive G0.out B0.out).mono ?_; rintro e z9 ⟨rfl, b9⟩
        go_wp2_with fail
        go_ret
        exact ⟨rfl, b9⟩
    · have Q1 := Lib.hid (theme_any (A0.out.below B0.out) (G0.out.below B0.out) LL.out)
      rw [ht] at Q1
      go_wp2_with fail
      refine Q1.out.mono ?_; rintro e y1 ⟨rfl, b⟩
      have B1 := Lib.hid (B0.out.trans (b.mono B0.out.size))
      clear b B0 Q1
      have B0 := B1
      clear B1
      have Q2 := Lib.hid (minZoom_any (A0.out.below B0.out) (G0.out.below B0.out) LL.out)
      obtain ⟨z, hz⟩ : ∃ z, rz (cls l) = z := ⟨_, rfl⟩
      have z0 := (rz_range (cls l)).1; have z1 := (rz_range (cls l)).2
      rw [hz] at z0 z1
      rw [show mz l = rz (cls l) by simp [mz, ht], hz] at Q2
      have z2 : ¬ z < 0 := by omega
      have z3 : ¬ 7 < z := by omega
      clear hz z0 z1
      go_wp2_with fail
      refine Q2.out.mono ?_; rintro e y2 ⟨rfl, b⟩
      have B1 := Lib.hid (B0.out.trans (b.mono B0.out.size))
      clear b B0 Q2
      have B0 := B1
      clear B1
      have Q3 := Lib.hid (isArea_any (A0.out.below B0.out) (G0.out.below B0.out) LL.out)
      rw [show area l = false by unfold area; rw [if_neg (by rw [ht]; decide), if_neg (by rw [ht]; decide)]] at Q3
      go_wp2_with fail
      refine Q3.out.mono ?_; rintro e y3 ⟨rfl, b⟩
      have B1 := Lib.hid (B0.out.trans (b.mono B0.out.size))
      clear b B0 Q3
      have B0 := B1
      clear B1
      have Q4 := Lib.hid (class_any (A0.out.below B0.out) (G0.out.below B0.out) LL.out)
      have sp0 := spd_cls (thm_cls ht)
      have cr := cls_range l
      obtain ⟨c, hc⟩ : ∃ c, cls l = c := ⟨_, rfl⟩
      rw [hc] at Q4 sp0 cr
      have cb : -9223372036854775808 ≤ c ∧ c ≤ 9223372036854775807 := by omega
      clear hc cr
      go_wp2_with fail
      refine Q4.out.mono ?_; rintro e y4 ⟨rfl, b⟩
      have B1 := Lib.hid (B0.out.trans (b.mono B0.out.size))
      clear b B0 Q4
      have B0 := B1
      clear B1
      have Q5 := Lib.hid (speed_any c cb (G0.out.below B0.out))
      obtain ⟨s, hs⟩ : ∃ s, spd c = s := ⟨_, rfl⟩
      rw [hs] at Q5 sp0
      have sp1 : ¬ s ≤ 0 := by omega
      clear hs cb
      go_wp2_with fail
      refine Q5.out.mono ?_; rintro e y5 ⟨rfl, rfl⟩
      clear Q5
      go_wp2_with fail
      refine (set_any sArea sNo (A0.out.below B0.out) LL.out).mono ?_; rintro e u0 ⟨u, rfl, ha, b⟩
      have B1 := Lib.hid (B0.out.trans (b.mono B0.out.size)); have U := Lib.hid ha
      have UB := Lib.hid (Below.refl u0.heap.size u0)
      clear b B0 ha
      have B0 := B1
      clear B1
      have Q11 := Lib.hid (isArea_any (U.out.below UB.out) (G0.out.below B0.out) LS.out)
      rw [SA.out.2] at Q11
      go_wp2_with fail
      refine Q11.out.mono ?_; rintro e y11 ⟨rfl, b⟩
      have B1 := Lib.hid (B0.out.trans (b.mono B0.out.size)); have UB1 := Lib.hid (UB.out.trans (b.mono UB.out.size))
      clear b B0 UB Q11
      have B0 := B1; have UB := UB1
      clear B1 UB1
      have Q12 := Lib.hid (theme_any (U.out.below UB.out) (G0.out.below B0.out) LS.out)
      rw [SA.out.1, ht] at Q12
      go_wp2_with fail
      refine Q12.out.mono ?_; rintro e y12 ⟨rfl, b⟩
      have B1 := Lib.hid (B0.out.trans (b.mono B0.out.size)); have UB1 := Lib.hid (UB.out.trans (b.mono UB.out.size))
      clear b B0 UB Q12
      have B0 := B1; have UB := UB1
      clear B1 UB1
      go_wp2_with fail
      refine (alive G0.out B0.out).mono ?_; rintro e z9 ⟨rfl, b9⟩
      go_wp2_with fail
      go_ret
      exact ⟨rfl, b9⟩
    · have Q1 := Lib.hid (theme_any (A0.out.below B0.out) (G0.out.below B0.out) LL.out)
      rw [ht] at Q1
      go_wp2_with fail
      refine Q1.out.mono ?_; rintro e y1 ⟨rfl, b⟩
      have B1 := Lib.hid (B0.out.trans (b.mono B0.out.size))
      clear b B0 Q1
      have B0 := B1
      clear B1
      have Q2 := Lib.hid (minZoom_any (A0.out.below B0.out) (G0.out.below B0.out) LL.out)
      rw [show mz l = 0 by simp [mz, ht]] at Q2
      go_wp2_with fail
      refine Q2.out.mono ?_; rintro e y2 ⟨rfl, b⟩
      have B1 := Lib.hid (B0.out.trans (b.mono B0.out.size))
      clear b B0 Q2
      have B0 := B1
      clear B1
      have Q3 := Lib.hid (isArea_any (A0.out.below B0.out) (G0.out.below B0.out) LL.out)
      obtain ⟨ab, hab⟩ : ∃ z, area l = z := ⟨_, rfl⟩
      rw [hab] at Q3
      clear hab
      cases ab with
      | true =>
        go_wp2_with fail
        refine Q3.out.mono ?_; rintro e y3 ⟨rfl, b⟩
        have B1 := Lib.hid (B0.out.trans (b.mono B0.out.size))
        clear b B0 Q3
        have B0 := B1
        clear B1
        go_wp2_with fail
        refine (set_any sArea sNo (A0.out.below B0.out) LL.out).mono ?_; rintro e u0 ⟨u, rfl, ha, b⟩
        have B1 := Lib.hid (B0.out.trans (b.mono B0.out.size)); have U := Lib.hid ha
        have UB := Lib.hid (Below.refl u0.heap.size u0)
        clear b B0 ha
        have B0 := B1
        clear B1
        have Q11 := Lib.hid (isArea_any (U.out.below UB.out) (G0.out.below B0.out) LS.out)
        rw [SA.out.2] at Q11
        go_wp2_with fail
        refine Q11.out.mono ?_; rintro e y11 ⟨rfl, b⟩
        have B1 := Lib.hid (B0.out.trans (b.mono B0.out.size)); have UB1 := Lib.hid (UB.out.trans (b.mono UB.out.size))
        clear b B0 UB Q11
        have B0 := B1; have UB := UB1
        clear B1 UB1
        have Q12 := Lib.hid (theme_any (U.out.below UB.out) (G0.out.below B0.out) LS.out)
        rw [SA.out.1, ht] at Q12
        go_wp2_with fail
        refine Q12.out.mono ?_; rintro e y12 ⟨rfl, b⟩
        have B1 := Lib.hid (B0.out.trans (b.mono B0.out.size)); have UB1 := Lib.hid (UB.out.trans (b.mono UB.out.size))
        clear b B0 UB Q12
        have B0 := B1; have UB := UB1
        clear B1 UB1
        go_wp2_with fail
        refine (alive G0.out B0.out).mono ?_; rintro e z9 ⟨rfl, b9⟩
        go_wp2_with fail
        go_ret
        exact ⟨rfl, b9⟩
      | false =>
        go_wp2_with fail
        refine Q3.out.mono ?_; rintro e y3 ⟨rfl, b⟩
        have B1 := Lib.hid (B0.out.trans (b.mono B0.out.size))
        clear b B0 Q3
        have B0 := B1
        clear B1
        go_wp2_with fail
        refine (set_any sArea sNo (A0.out.below B0.out) LL.out).mono ?_; rintro e u0 ⟨u, rfl, ha, b⟩
        have B1 := Lib.hid (B0.out.trans (b.mono B0.out.size)); have U := Lib.hid ha
        have UB := Lib.hid (Below.refl u0.heap.size u0)
        clear b B0 ha
        have B0 := B1
        clear B1
        have Q11 := Lib.hid (isArea_any (U.out.below UB.out) (G0.out.below B0.out) LS.out)
        rw [SA.out.2] at Q11
        go_wp2_with fail
        refine Q11.out.mono ?_; rintro e y11 ⟨rfl, b⟩
        have B1 := Lib.hid (B0.out.trans (b.mono B0.out.size)); have UB1 := Lib.hid (UB.out.trans (b.mono UB.out.size))
        clear b B0 UB Q11
        have B0 := B1; have UB := UB1
        clear B1 UB1
        have Q12 := Lib.hid (theme_any (U.out.below UB.out) (G0.out.below B0.out) LS.out)
        rw [SA.out.1, ht] at Q12
        go_wp2_with fail
        refine Q12.out.mono ?_; rintro e y12 ⟨rfl, b⟩
        have B1 := Lib.hid (B0.out.trans (b.mono B0.out.size)); have UB1 := Lib.hid (UB.out.trans (b.mono UB.out.size))
        clear b B0 UB Q12
        have B0 := B1; have UB := UB1
        clear B1 UB1
        go_wp2_with fail
        refine (alive G0.out B0.out).mono ?_; rintro e z9 ⟨rfl, b9⟩
        go_wp2_with fail
        go_ret
        exact ⟨rfl, b9⟩
    · have Q1 := Lib.hid (theme_any (A0.out.below B0.out) (G0.out.below B0.out) LL.out)
      rw [ht] at Q1
      go_wp2_with fail
      refine Q1.out.mono ?_; rintro e y1 ⟨rfl, b⟩
      have B1 := Lib.hid (B0.out.trans (b.mono B0.out.size))
      clear b B0 Q1
      have B0 := B1
      clear B1
      have Q2 := Lib.hid (minZoom_any (A0.out.below B0.out) (G0.out.below B0.out) LL.out)
      obtain ⟨z, hz⟩ : ∃ z, plz l = z := ⟨_, rfl⟩
      have z0 := (plz_range l).1; have z1 := (plz_range l).2
      rw [hz] at z0 z1
      rw [show mz l = plz l by simp [mz, ht], hz] at Q2
      have z2 : ¬ z < 0 := by omega
      have z3 : ¬ 7 < z := by omega
      clear hz z0 z1
      go_wp2_with fail
      refine Q2.out.mono ?_; rintro e y2 ⟨rfl, b⟩
      have B1 := Lib.hid (B0.out.trans (b.mono B0.out.size))
      clear b B0 Q2
      have B0 := B1
      clear B1
      have Q3 := Lib.hid (isArea_any (A0.out.below B0.out) (G0.out.below B0.out) LL.out)
      rw [show area l = false by unfold area; rw [if_neg (by rw [ht]; decide), if_neg (by rw [ht]; decide)]] at Q3
      go_wp2_with fail
      refine Q3.out.mono ?_; rintro e y3 ⟨rfl, b⟩
      have B1 := Lib.hid (B0.out.trans (b.mono B0.out.size))
      clear b B0 Q3
      have B0 := B1
      clear B1
      go_wp2_with fail
      refine (set_any sArea sNo (A0.out.below B0.out) LL.out).mono ?_; rintro e u0 ⟨u, rfl, ha, b⟩
      have B1 := Lib.hid (B0.out.trans (b.mono B0.out.size)); have U := Lib.hid ha
      have UB := Lib.hid (Below.refl u0.heap.size u0)
      clear b B0 ha
      have B0 := B1
      clear B1
      have Q11 := Lib.hid (isArea_any (U.out.below UB.out) (G0.out.below B0.out) LS.out)
      rw [SA.out.2] at Q11
      go_wp2_with fail
      refine Q11.out.mono ?_; rintro e y11 ⟨rfl, b⟩
      have B1 := Lib.hid (B0.out.trans (b.mono B0.out.size)); have UB1 := Lib.hid (UB.out.trans (b.mono UB.out.size))
      clear b B0 UB Q11
      have B0 := B1; have UB := UB1
      clear B1 UB1
      have Q12 := Lib.hid (theme_any (U.out.below UB.out) (G0.out.below B0.out) LS.out)
      rw [SA.out.1, ht] at Q12
      go_wp2_with fail
      refine Q12.out.mono ?_; rintro e y12 ⟨rfl, b⟩
      have B1 := Lib.hid (B0.out.trans (b.mono B0.out.size)); have UB1 := Lib.hid (UB.out.trans (b.mono UB.out.size))
      clear b B0 UB Q12
      have B0 := B1; have UB := UB1
      clear B1 UB1
      go_wp2_with fail
      refine (alive G0.out B0.out).mono ?_; rintro e z9 ⟨rfl, b9⟩
      go_wp2_with fail
      go_ret
      exact ⟨rfl, b9⟩
end Go.Proofs.YtgfhanhonfpngaaDoor
