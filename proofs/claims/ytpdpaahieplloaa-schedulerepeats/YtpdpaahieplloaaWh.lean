/- The walks of the laws on moves and repetitions. -/
import Derived.Test.YtpdpaahieplloaaWg
import Derived.Deep.RegionWith
namespace Go.Proofs.Ytpdpaahieplloaa
open Go.ChangeShapes Go.WideShapes Go.ChangeAt Go.RowKit Go.Joins Go.Deep

theorem next_bad {l : List Sp} {f e t a : Int} {o : Bool} (h : IsNext l f e t a o) (hc : checkZ l f e ≠ 0) : o = false ∧ a = 0 := by
  rcases h with ⟨ho, ha, _⟩ | ⟨_, hc', _⟩
  · exact ⟨ho, ha⟩
  · exact absurd hc' hc
theorem open_bad {l : List Sp} {f e t : Int} (hc : checkZ l f e ≠ 0) : openZ l f e t = false := by unfold openZ; simp [hc]
theorem free_bad {l : List Sp} {f e : Int} (hc : checkZ l f e ≠ 0) : freeZ l f e = false := by unfold freeZ; simp [hc]
theorem top0_id {t : Int} (h : 0 ≤ t) : top0 t = t := if_neg (by omega)
theorem next_no {l : List Sp} {f e t a : Int} (h : IsNext l f e t a false) (hc : checkZ l f e = 0) (t0 : 0 ≤ t) (t1 : t ≤ 1152921504606846976) : a = 0 ∧ ∀ x : Int, 0 ≤ x → openZ l f e x = false := by
  rcases h with ⟨_, ha, h⟩ | ⟨ho, _⟩
  · refine ⟨ha, fun x hx => ?_⟩
    rcases h with h | h | h
    · exact absurd hc h
    · omega
    · obtain ⟨j, hj, ej⟩ := residue x t 0 hx t0 (by omega)
      have := h j hj
      unfold opens at this
      rw [top0_id t0, ej] at this
      unfold openZ
      rw [show (x + ((0 : Nat) : Int)) % 1440 = x % 1440 from by simp] at this
      rw [this]; simp
  · cases ho
theorem next_yes {l : List Sp} {f e t a : Int} (h : IsNext l f e t a true) (t0 : 0 ≤ t) : checkZ l f e = 0 ∧ t ≤ a ∧ a < t + 1440 ∧ openZ l f e a = true ∧ ∀ x : Int, t ≤ x → x < a → openZ l f e x = false := by
  rcases h with ⟨ho, _⟩ | ⟨_, hc, _, i, hi, ha, hp, hm⟩
  · cases ho
  · rw [top0_id t0] at ha hp hm
    refine ⟨hc, by omega, by omega, ?_, fun x hx hxa => ?_⟩
    · unfold openZ; unfold opens at hp
      rw [ha, hp, hc]; simp; omega
    · have := hm (x - t).toNat (by omega)
      unfold opens at this
      rw [show t + (((x - t).toNat : Nat) : Int) = x from by omega] at this
      unfold openZ; rw [this]; simp
/- two times, the second at least the first -/
theorem moves_facts {l : List Sp} {f e t u a b : Int} (ha : IsNext l f e t a true) (hb : IsNext l f e u b true) (t0 : 0 ≤ t) (tu : t ≤ u) :
    t ≤ a ∧ a < t + 1440 ∧ u ≤ b ∧ b < u + 1440 ∧ a ≤ b ∧ openZ l f e a = true ∧ openZ l f e b = true ∧ openZ l f e t = (a == t) ∧ (b == a) = decide (u ≤ a) := by
  obtain ⟨_, a1, a2, a3, a4⟩ := next_yes ha t0
  obtain ⟨_, b1, b2, b3, b4⟩ := next_yes hb (by omega)
  have hab : a ≤ b := by
    by_cases h : a ≤ b
    · exact h
    · exfalso
      have := a4 b (by omega) (by omega)
      rw [b3] at this; cases this
  refine ⟨a1, a2, b1, b2, hab, a3, b3, ?_, ?_⟩
  · by_cases h : a = t
    · subst h; rw [a3]; simp
    · rw [a4 t (Int.le_refl t) (by omega)]; simp [h]
  · by_cases h : u ≤ a
    · have : b = a := by
        by_cases h2 : a < b
        · exfalso
          have := b4 a h h2
          rw [a3] at this; cases this
        · omega
      simp [h, this]
    · simp [h]; omega
/- a day later -/
theorem open_shift {l : List Sp} {f e t : Int} (d : Int) (t0 : 0 ≤ t) (d0 : 0 ≤ d) : openZ l f e (t + d * 1440) = openZ l f e t := by
  unfold openZ
  rw [show (t + d * 1440) % 1440 = t % 1440 from by omega]
  simp [t0, show 0 ≤ t + d * 1440 from by omega]
theorem next_shift {l : List Sp} {f e t a : Int} {o : Bool} (d : Int) (h : IsNext l f e t a o) (t0 : 0 ≤ t) (d0 : 0 ≤ d) (t1 : t + d * 1440 ≤ 1152921504606846976) : IsNext l f e (t + d * 1440) (if o then a + d * 1440 else 0) o := by
  have sh : ∀ i : Nat, opens l f e (top0 (t + d * 1440)) i = opens l f e (top0 t) i := by
    intro i
    rw [top0_id t0, top0_id (by omega)]
    unfold opens
    rw [show (t + d * 1440 + (i : Int)) % 1440 = (t + i) % 1440 from by omega]
  rcases h with ⟨rfl, _, h⟩ | ⟨rfl, hc, ht, i, hi, ha, hp, hm⟩
  · refine Or.inl ⟨rfl, by simp, ?_⟩
    rcases h with h | h | h
    · exact Or.inl h
    · omega
    · exact Or.inr (Or.inr fun i hi => by rw [sh]; exact h i hi)
  · refine Or.inr ⟨rfl, hc, t1, i, hi, ?_, by rw [sh]; exact hp, fun j hj => by rw [sh]; exact hm j hj⟩
    rw [top0_id t0] at ha
    rw [top0_id (by omega), ha]; simp; omega

set_option maxRecDepth 100000 in
set_option maxHeartbeats 4000000 in
theorem scheduleMoves_walk (v : Value) (t u : Int) (w : World) (hv : ∃ l f e, IsSched w v l f e) (_ : (Lit.int .i64 t).wf = true) (_ : (Lit.int .i64 u).wf = true) :
    Calls Try.prog 7 #[v, .int .i64 t, .int .i64 u] w fun e w' => e = .returned (.bool true) ∧ Below w.heap.size w w' := by
  obtain ⟨l, f, e, hv⟩ := hv
  have HV := Lib.hid hv
  obtain ⟨a, len, cap, rfl, hm, _, _, _⟩ := hv
  unfold maxLen at hm
  by_cases hg : 40 < len ∨ t < 0 ∨ u < t ∨ 1099511627776 < u
  · by_cases h1 : 40 < len
    · clear hg
      go_enter Try.func7, Try.ntmps7
      go_wp2_with fail
      refine (lives_any _).mono ?_; rintro en w1 ⟨rfl, b⟩
      go_wp2_with fail
      go_ret
      exact ⟨rfl, ((Bx.start w _ _ _ _).next b).1⟩
    · by_cases h2 : t < 0
      · clear hg
        go_enter Try.func7, Try.ntmps7
        go_wp2_with fail
        refine (lives_any _).mono ?_; rintro en w1 ⟨rfl, b⟩
        go_wp2_with fail
        go_ret
        exact ⟨rfl, ((Bx.start w _ _ _ _).next b).1⟩
      · by_cases h3 : u < t
        · clear hg
          go_enter Try.func7, Try.ntmps7
          go_wp2_with fail
          refine (lives_any _).mono ?_; rintro en w1 ⟨rfl, b⟩
          go_wp2_with fail
          go_ret
          exact ⟨rfl, ((Bx.start w _ _ _ _).next b).1⟩
        · have h4 : 1099511627776 < u := by omega
          clear hg
          go_enter Try.func7, Try.ntmps7
          go_wp2_with fail
          refine (lives_any _).mono ?_; rintro en w1 ⟨rfl, b⟩
          go_wp2_with fail
          go_ret
          exact ⟨rfl, ((Bx.start w _ _ _ _).next b).1⟩
  · have h1 : len ≤ 40 := by omega
    have h2 : 0 ≤ t := by omega
    have h3 : t ≤ u := by omega
    have h4 : u ≤ 1099511627776 := by omega
    clear hg
    have S0 := Lib.hid (Bx.start w (.slice a len cap) (.int .i64 f) (.int .i64 e) 24)
    go_enter Try.func7, Try.ntmps7
    go_wp2_with fail
    refine (next_any _ l f e t _ (HV.out.below S0.out.1)).mono ?_; rintro en w1 ⟨x, o, hn, rfl, b⟩
    have HN := Lib.hid hn; have S1 := Lib.hid (S0.out.next b); clear b hn
    have D := S1.out.cells
    go_wp2_with fail
    refine (next_any _ l f e u _ (HV.out.below S1.out.1)).mono ?_; rintro en w2 ⟨y, q, hn', rfl, b⟩
    have HN' := Lib.hid hn'; have S2 := Lib.hid (S1.out.next b); clear b hn' D
    have D := S2.out.cells
    go_wp2_with fail
    refine (check_any _ l f e _ (HV.out.below S2.out.1)).mono ?_; rintro en w3 ⟨rfl, b⟩
    have S3 := Lib.hid (S2.out.next b); clear b D
    have D := S3.out.cells
    obtain ⟨z, hz⟩ : ∃ z, checkZ l f e = z := ⟨_, rfl⟩
    rw [hz]
    have HZ := Lib.hid hz; clear hz
    by_cases hok : z = 0
    · subst hok
      cases o
      · cases q
        · obtain ⟨rfl, N1⟩ := next_no HN.out HZ.out h2 (by omega)
          obtain ⟨rfl, _⟩ := next_no HN'.out HZ.out (by omega) (by omega)
          have NN := Lib.hid N1; clear N1
          go_wp2_with fail
          refine (open_at (o := false) _ _ (HV.out.below S3.out.1) (by omega) (NN.out t h2)).mono ?_; rintro en w4 ⟨rfl, b⟩
          have S4 := Lib.hid (S3.out.next b); clear b D
          have D := S4.out.cells
          go_wp2_with fail
          refine (open_at (o := false) _ _ (HV.out.below S4.out.1) (by omega) (NN.out u (by omega))).mono ?_; rintro en w5 ⟨rfl, b⟩
          have S5 := Lib.hid (S4.out.next b); clear b D
          go_wp2_with fail
          refine (lives_any _).mono ?_; rintro en w6 ⟨rfl, b⟩
          go_wp2_with fail
          go_ret
          exact ⟨rfl, (S5.out.next b).1⟩
        · exact absurd HN'.out (fun h => next_none_iff h2 (by omega) (by omega) (by omega) HN.out h)
      · cases q
        · exact absurd HN.out (fun h => next_none_iff (by omega) h2 (by omega) (by omega) HN'.out h)
        · obtain ⟨m1, m2, m3, m4, m5, m6, m7, m8, m9⟩ := moves_facts HN.out HN'.out h2 h3
          have M6 := Lib.hid m6; have M7 := Lib.hid m7; have M8 := Lib.hid m8
          clear m6 m7 m8
          obtain ⟨c, hc⟩ : ∃ c, (x == t) = c := ⟨_, rfl⟩
          rw [hc] at M8
          obtain ⟨d, hd⟩ : ∃ d, (y == x) = d := ⟨_, rfl⟩
          rw [hd] at m9
          have hd' : decide (u ≤ x) = d := m9.symm
          clear m9
          go_wp2_with fail
          refine (open_at (o := true) _ _ (HV.out.below S3.out.1) (by omega) M6.out).mono ?_; rintro en w4 ⟨rfl, b⟩
          have S4 := Lib.hid (S3.out.next b); clear b D
          have D := S4.out.cells
          go_wp2_with fail
          refine (open_at (o := true) _ _ (HV.out.below S4.out.1) (by omega) M7.out).mono ?_; rintro en w5 ⟨rfl, b⟩
          have S5 := Lib.hid (S4.out.next b); clear b D
          have D := S5.out.cells
          go_wp2_with fail
          refine (open_at (o := c) _ _ (HV.out.below S5.out.1) (by omega) M8.out).mono ?_; rintro en w6 ⟨rfl, b⟩
          have S6 := Lib.hid (S5.out.next b); clear b D
          cases c <;> cases d
          all_goals
            go_wp2_with fail
            refine (lives_any _).mono ?_; rintro en w7 ⟨rfl, b⟩
            go_wp2_with fail
            go_ret
            exact ⟨rfl, (S6.out.next b).1⟩
    · have hz' : (z != 0) = true := by simpa using hok
      have hcz : checkZ l f e ≠ 0 := by rw [HZ.out]; exact hok
      obtain ⟨rfl, rfl⟩ := next_bad HN.out hcz
      obtain ⟨rfl, rfl⟩ := next_bad HN'.out hcz
      have CZ := Lib.hid hcz; clear hcz
      go_wp2_with fail
      refine (open_at (o := false) _ _ (HV.out.below S3.out.1) (by omega) (open_bad CZ.out)).mono ?_; rintro en w4 ⟨rfl, b⟩
      have S4 := Lib.hid (S3.out.next b); clear b D
      have D := S4.out.cells
      go_wp2_with fail
      refine (free_at (o := false) _ _ (HV.out.below S4.out.1) (free_bad CZ.out)).mono ?_; rintro en w5 ⟨rfl, b⟩
      have S5 := Lib.hid (S4.out.next b); clear b D
      go_wp2_with fail
      refine (lives_any _).mono ?_; rintro en w6 ⟨rfl, b⟩
      go_wp2_with fail
      go_ret
      exact ⟨rfl, (S5.out.next b).1⟩
end Go.Proofs.Ytpdpaahieplloaa
