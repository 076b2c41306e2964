/- Contracts: Open, Next, Free and their references. -/
import Derived.Test.YtpdpaahieplloaaWd
namespace Go.Proofs.Ytpdpaahieplloaa
open Go.ChangeShapes Go.WideShapes Go.ChangeAt Go.RowKit Go.Joins Go.Deep

def Nexts (l : List Sp) (f e t : Int) (w : World) (en : Ending) (w' : World) : Prop := ∃ (a : Int) (o : Bool), IsNext l f e t a o ∧ en = .returned (.tuple #[.int .i64 a, .bool o]) ∧ Below w.heap.size w w'
/- the box of a schedule stands behind a call -/
theorem box3 {w w1 : World} {x y z : Value} {t : TypeId} (h : Below (w.alloc (.cells #[x, y, z] t)).heap.size (w.alloc (.cells #[x, y, z] t)) w1) :
    w1.cell? ⟨w.heap.size, 0, none⟩ = some x ∧ w1.cell? ⟨w.heap.size, 1, none⟩ = some y ∧ w1.cell? ⟨w.heap.size, 2, none⟩ = some z ∧ w.heap.size + 1 ≤ w1.heap.size := by
  have hs := h.size
  simp only [World.size_alloc] at hs
  refine ⟨?_, ?_, ?_, hs⟩ <;> (rw [h.cell (by simp)]; go_simp)

set_option maxRecDepth 100000 in
set_option maxHeartbeats 1000000 in
theorem open_any (v : Value) (l : List Sp) (f e t : Int) (w : World) (hv : IsSched w v l f e) (ht1 : t ≤ 9223372036854775807) :
    Calls Try.prog 12 #[v, .int .i64 t] w fun en w' => en = .returned (.bool (openZ l f e t)) ∧ Below w.heap.size w w' := by
  have HV := Lib.hid hv
  obtain ⟨a, len, cap, rfl, _, _, _, _⟩ := hv
  have hb0 := fun o => (Below.refl w.heap.size w).alloc (Nat.le_refl _) o
  obtain ⟨z, hz⟩ : ∃ z, checkZ l f e = z := ⟨_, rfl⟩
  have HZ := Lib.hid hz; clear hz
  by_cases hok : z = 0
  · subst hok
    by_cases h0 : 0 ≤ t
    · have fin : Hid (openZ l f e t = minuteZ l f e (t % 1440)) := by
        show openZ l f e t = _; unfold openZ; rw [HZ.out]; simp [h0]
      obtain ⟨y, hy⟩ : ∃ y, minuteZ l f e (t % 1440) = y := ⟨_, rfl⟩
      have HY := Lib.hid hy; clear hy
      have r1 : 0 ≤ t % 1440 := by omega
      have r2 : t % 1440 < 1440 := by omega
      go_enter Try.func12, Try.ntmps12
      go_wp2_with fail
      refine (check_any _ l f e _ (HV.out.below (hb0 _))).mono ?_; rintro en w1 ⟨rfl, b1⟩
      rw [HZ.out]
      have d0 : w1.cell? ⟨w.heap.size, 0, none⟩ = some (.slice a len cap) := by rw [b1.cell (by simp)]; go_simp
      have d1 : w1.cell? ⟨w.heap.size, 1, none⟩ = some (.int .i64 f) := by rw [b1.cell (by simp)]; go_simp
      have d2 : w1.cell? ⟨w.heap.size, 2, none⟩ = some (.int .i64 e) := by rw [b1.cell (by simp)]; go_simp
      have c1 := Lib.hid ((hb0 _).trans (b1.mono (hb0 _).size))
      clear b1
      go_wp2_with fail
      refine (openAt_any _ l f e _ _ (HV.out.below c1.out) HZ.out r1 r2).mono ?_; rintro en w2 ⟨rfl, b2⟩
      rw [HY.out]
      go_wp2_with fail
      go_ret
      exact ⟨ret_bool (by rw [fin.out, HY.out]), c1.out.trans (b2.mono c1.out.size)⟩
    · have fin : Hid (openZ l f e t = false) := by
        show openZ l f e t = _; unfold openZ; simp; omega
      have h0' : decide (0 ≤ t) = false := by simpa using h0
      go_enter Try.func12, Try.ntmps12
      go_wp2_with fail
      refine (check_any _ l f e _ (HV.out.below (hb0 _))).mono ?_; rintro en w1 ⟨rfl, b1⟩
      rw [HZ.out]
      go_wp2_with fail
      go_ret
      exact ⟨ret_bool (by rw [fin.out]), (hb0 _).trans (b1.mono (hb0 _).size)⟩
  · have hz' : (z == 0) = false := by simpa using hok
    have fin : Hid (openZ l f e t = false) := by
      show openZ l f e t = _; unfold openZ; rw [HZ.out]; simp [hok]
    go_enter Try.func12, Try.ntmps12
    go_wp2_with fail
    refine (check_any _ l f e _ (HV.out.below (hb0 _))).mono ?_; rintro en w1 ⟨rfl, b1⟩
    rw [HZ.out]
    go_wp2_with fail
    go_ret
    exact ⟨ret_bool (by rw [fin.out]), (hb0 _).trans (b1.mono (hb0 _).size)⟩

set_option maxRecDepth 100000 in
set_option maxHeartbeats 1000000 in
theorem openr_any (v : Value) (l : List Sp) (f e t : Int) (w : World) (hv : IsSched w v l f e) (ht1 : t ≤ 9223372036854775807) :
    Calls Try.prog 13 #[v, .int .i64 t] w fun en w' => en = .returned (.bool (openZ l f e t)) ∧ Below w.heap.size w w' := by
  have HV := Lib.hid hv
  obtain ⟨a, len, cap, rfl, _, _, _, _⟩ := hv
  have hb0 := fun o => (Below.refl w.heap.size w).alloc (Nat.le_refl _) o
  obtain ⟨z, hz⟩ : ∃ z, checkZ l f e = z := ⟨_, rfl⟩
  have HZ := Lib.hid hz; clear hz
  by_cases hok : z = 0
  · subst hok
    by_cases h0 : 0 ≤ t
    · have fin : Hid (openZ l f e t = minuteZ l f e (t % 1440)) := by
        show openZ l f e t = _; unfold openZ; rw [HZ.out]; simp [h0]
      obtain ⟨y, hy⟩ : ∃ y, minuteZ l f e (t % 1440) = y := ⟨_, rfl⟩
      have HY := Lib.hid hy; clear hy
      have r1 : 0 ≤ t % 1440 := by omega
      have r2 : t % 1440 < 1440 := by omega
      go_enter Try.func13, Try.ntmps13
      go_wp2_with fail
      refine (checkr_any _ l f e _ (HV.out.below (hb0 _))).mono ?_; rintro en w1 ⟨rfl, b1⟩
      rw [HZ.out]
      have d0 : w1.cell? ⟨w.heap.size, 0, none⟩ = some (.slice a len cap) := by rw [b1.cell (by simp)]; go_simp
      have d1 : w1.cell? ⟨w.heap.size, 1, none⟩ = some (.int .i64 f) := by rw [b1.cell (by simp)]; go_simp
      have d2 : w1.cell? ⟨w.heap.size, 2, none⟩ = some (.int .i64 e) := by rw [b1.cell (by simp)]; go_simp
      have c1 := Lib.hid ((hb0 _).trans (b1.mono (hb0 _).size))
      clear b1
      go_wp2_with fail
      refine (minute_any _ l f e _ _ (HV.out.below c1.out) HZ.out r1 r2).mono ?_; rintro en w2 ⟨rfl, b2⟩
      rw [HY.out]
      go_wp2_with fail
      go_ret
      exact ⟨ret_bool (by rw [fin.out, HY.out]), c1.out.trans (b2.mono c1.out.size)⟩
    · have fin : Hid (openZ l f e t = false) := by
        show openZ l f e t = _; unfold openZ; simp; omega
      have h0' : decide (0 ≤ t) = false := by simpa using h0
      go_enter Try.func13, Try.ntmps13
      go_wp2_with fail
      refine (checkr_any _ l f e _ (HV.out.below (hb0 _))).mono ?_; rintro en w1 ⟨rfl, b1⟩
      rw [HZ.out]
      go_wp2_with fail
      go_ret
      exact ⟨ret_bool (by rw [fin.out]), (hb0 _).trans (b1.mono (hb0 _).size)⟩
  · have hz' : (z == 0) = false := by simpa using hok
    have fin : Hid (openZ l f e t = false) := by
      show openZ l f e t = _; unfold openZ; rw [HZ.out]; simp [hok]
    go_enter Try.func13, Try.ntmps13
    go_wp2_with fail
    refine (checkr_any _ l f e _ (HV.out.below (hb0 _))).mono ?_; rintro en w1 ⟨rfl, b1⟩
    rw [HZ.out]
    go_wp2_with fail
    go_ret
    exact ⟨ret_bool (by rw [fin.out]), (hb0 _).trans (b1.mono (hb0 _).size)⟩

set_option maxRecDepth 100000 in
set_option maxHeartbeats 2000000 in
theorem next_any (v : Value) (l : List Sp) (f e t : Int) (w : World) (hv : IsSched w v l f e) :
    Calls Try.prog 14 #[v, .int .i64 t] w (Nexts l f e t w) := by
  have HV := Lib.hid hv
  obtain ⟨a, len, cap, rfl, _, _, _, _⟩ := hv
  have hb0 := fun o => (Below.refl w.heap.size w).alloc (Nat.le_refl _) o
  obtain ⟨z, hz⟩ : ∃ z, checkZ l f e = z := ⟨_, rfl⟩
  have HZ := Lib.hid hz; clear hz
  by_cases hok : z = 0
  · subst hok
    by_cases h1 : 1152921504606846976 < t
    · have fin : Hid (IsNext l f e t 0 false) := Or.inl ⟨rfl, rfl, Or.inr (Or.inl h1)⟩
      go_enter Try.func14, Try.ntmps14
      go_wp2_with fail
      refine (check_any _ l f e _ (HV.out.below (hb0 _))).mono ?_; rintro en w1 ⟨rfl, b1⟩
      rw [HZ.out]
      go_wp2_with fail
      go_ret2
      exact ⟨0, false, fin.out, rfl, (hb0 _).trans (b1.mono (hb0 _).size)⟩
    · obtain ⟨u, hu⟩ : ∃ u, top0 t = u := ⟨_, rfl⟩
      have HU := Lib.hid hu
      have u0 : 0 ≤ u := by rw [← hu]; unfold top0; split <;> omega
      have u1 : u ≤ 1152921504606846976 := by rw [← hu]; unfold top0; split <;> omega
      have hcase : (t < 0 ∧ u = 0) ∨ (0 ≤ t ∧ u = t) := by rw [← hu]; unfold top0; split <;> omega
      clear hu
      have main : ∀ q : Int, q = t → Calls Try.prog 14 #[.agg #[.slice a len cap, .int .i64 f, .int .i64 e], .int .i64 q] w (Nexts l f e t w) := by
        intro q hq
        rcases hcase with ⟨t0, rfl⟩ | ⟨t0, rfl⟩
        · have q0 : q < 0 := by omega
          have q1 : q ≤ 1152921504606846976 := by omega
          have hmax : max q 0 = 0 := by omega
          have t1 : t ≤ 1152921504606846976 := by omega
          clear hq h1 t0
          go_enter Try.func14, Try.ntmps14
          go_wp2_with fail
          refine (check_any _ l f e _ (HV.out.below (hb0 _))).mono ?_; rintro en w1 ⟨rfl, b1⟩
          rw [HZ.out]
          have D := Lib.hid (box3 b1)
          have c1 := Lib.hid ((hb0 _).trans (b1.mono (hb0 _).size))
          clear b1
          go_wp2_with fail
          go_loopw [16] (fun s wr => ∃ k : Nat, k ≤ 1440 ∧ s = .int .i64 k ∧ Hid (∀ j, j < k → opens l f e 0 j = false) ∧ Below (w.heap.size + 1) w1 wr) (fun s _ => 1440 - (intOf s).toNat)
          case atStart => exact ⟨0, by omega, rfl, fun j h => absurd h (Nat.not_lt_zero j), Below.refl _ _⟩
          case round =>
            obtain ⟨k, hk, rfl, HK, hb⟩ := hrel
            have hs1 := D.out.2.2.2
            have d0 : wr.cell? ⟨w.heap.size, 0, none⟩ = some (.slice a len cap) := by rw [hb.cell (by show w.heap.size < w.heap.size + 1; omega)]; exact D.out.1
            have d1 : wr.cell? ⟨w.heap.size, 1, none⟩ = some (.int .i64 f) := by rw [hb.cell (by show w.heap.size < w.heap.size + 1; omega)]; exact D.out.2.1
            have d2 : wr.cell? ⟨w.heap.size, 2, none⟩ = some (.int .i64 e) := by rw [hb.cell (by show w.heap.size < w.heap.size + 1; omega)]; exact D.out.2.2.1
            have c2 := Lib.hid (c1.out.trans (hb.mono (Nat.le_succ _)))
            have hsz := hb.size
            by_cases hlt : k < 1440
            · obtain ⟨y, hy⟩ : ∃ y, minuteZ l f e ((0 + k) % 1440) = y := ⟨_, rfl⟩
              have HY := Lib.hid hy; clear hy
              have r1 : 0 ≤ (0 + (k : Int)) % 1440 := by omega
              have r2 : (0 + (k : Int)) % 1440 < 1440 := by omega
              have HB := Lib.hid hb; clear hb
              cases y
              · have st : Hid (∀ j, j < k + 1 → opens l f e 0 j = false) := fun j hj => by
                  by_cases ej : j = k
                  · subst ej; exact HY.out
                  · exact HK.out j (by omega)
                go_wp2_with fail
                refine (openAt_any _ l f e _ _ (HV.out.below c2.out) HZ.out (by omega) (by omega)).mono ?_; rintro en w2 ⟨rfl, b2⟩
                skip
                rw [show minuteZ l f e ((k : Int) % 1440) = false from by have h := HY.out; rwa [Int.zero_add] at h]
                go_wp2_with fail
                go_roundw
                case rel => exact ⟨k + 1, by omega, by go_num, st, HB.out.trans (b2.mono (by omega))⟩
                case measure => simp [intOf]; omega
              · have fin : Hid (IsNext l f e t (0 + k) true) := Or.inr ⟨rfl, HZ.out, by omega, k, hlt, by rw [HU.out], by rw [HU.out]; exact HY.out, fun j hj => by rw [HU.out]; exact HK.out j hj⟩
                go_wp2_with fail
                refine (openAt_any _ l f e _ _ (HV.out.below c2.out) HZ.out (by omega) (by omega)).mono ?_; rintro en w2 ⟨rfl, b2⟩
                skip
                rw [show minuteZ l f e ((k : Int) % 1440) = true from by have h := HY.out; rwa [Int.zero_add] at h]
                go_wp2_with fail
                go_ret2
                exact ⟨_, true, fin.out, ret_ib (by omega) rfl, c2.out.trans (b2.mono c2.out.size)⟩
            · obtain rfl : k = 1440 := by omega
              have fin : Hid (IsNext l f e t 0 false) := Or.inl ⟨rfl, rfl, Or.inr (Or.inr fun i hi => by rw [HU.out]; exact HK.out i hi)⟩
              clear hb
              go_wp2_with fail
              go_ret2
              exact ⟨0, false, fin.out, rfl, c2.out⟩

        · subst hq
          have q1 : q ≤ 1152921504606846976 := by omega
          have hmax : max q 0 = q := by omega
          clear h1
          go_enter Try.func14, Try.ntmps14
          go_wp2_with fail
          refine (check_any _ l f e _ (HV.out.below (hb0 _))).mono ?_; rintro en w1 ⟨rfl, b1⟩
          rw [HZ.out]
          have D := Lib.hid (box3 b1)
          have c1 := Lib.hid ((hb0 _).trans (b1.mono (hb0 _).size))
          clear b1
          go_wp2_with fail
          go_loopw [16] (fun s wr => ∃ k : Nat, k ≤ 1440 ∧ s = .int .i64 k ∧ Hid (∀ j, j < k → opens l f e q j = false) ∧ Below (w.heap.size + 1) w1 wr) (fun s _ => 1440 - (intOf s).toNat)
          case atStart => exact ⟨0, by omega, rfl, fun j h => absurd h (Nat.not_lt_zero j), Below.refl _ _⟩
          case round =>
            obtain ⟨k, hk, rfl, HK, hb⟩ := hrel
            have hs1 := D.out.2.2.2
            have d0 : wr.cell? ⟨w.heap.size, 0, none⟩ = some (.slice a len cap) := by rw [hb.cell (by show w.heap.size < w.heap.size + 1; omega)]; exact D.out.1
            have d1 : wr.cell? ⟨w.heap.size, 1, none⟩ = some (.int .i64 f) := by rw [hb.cell (by show w.heap.size < w.heap.size + 1; omega)]; exact D.out.2.1
            have d2 : wr.cell? ⟨w.heap.size, 2, none⟩ = some (.int .i64 e) := by rw [hb.cell (by show w.heap.size < w.heap.size + 1; omega)]; exact D.out.2.2.1
            have c2 := Lib.hid (c1.out.trans (hb.mono (Nat.le_succ _)))
            have hsz := hb.size
            by_cases hlt : k < 1440
            · obtain ⟨y, hy⟩ : ∃ y, minuteZ l f e ((q + k) % 1440) = y := ⟨_, rfl⟩
              have HY := Lib.hid hy; clear hy
              have r1 : 0 ≤ (q + (k : Int)) % 1440 := by omega
              have r2 : (q + (k : Int)) % 1440 < 1440 := by omega
              have HB := Lib.hid hb; clear hb
              cases y
              · have st : Hid (∀ j, j < k + 1 → opens l f e q j = false) := fun j hj => by
                  by_cases ej : j = k
                  · subst ej; exact HY.out
                  · exact HK.out j (by omega)
                go_wp2_with fail
                refine (openAt_any _ l f e _ _ (HV.out.below c2.out) HZ.out (by omega) (by omega)).mono ?_; rintro en w2 ⟨rfl, b2⟩
                skip
                rw [HY.out]
                go_wp2_with fail
                go_roundw
                case rel => exact ⟨k + 1, by omega, by go_num, st, HB.out.trans (b2.mono (by omega))⟩
                case measure => simp [intOf]; omega
              · have fin : Hid (IsNext l f e q (q + k) true) := Or.inr ⟨rfl, HZ.out, by omega, k, hlt, by rw [HU.out], by rw [HU.out]; exact HY.out, fun j hj => by rw [HU.out]; exact HK.out j hj⟩
                go_wp2_with fail
                refine (openAt_any _ l f e _ _ (HV.out.below c2.out) HZ.out (by omega) (by omega)).mono ?_; rintro en w2 ⟨rfl, b2⟩
                skip
                rw [HY.out]
                go_wp2_with fail
                go_ret2
                exact ⟨_, true, fin.out, ret_ib (by omega) rfl, c2.out.trans (b2.mono c2.out.size)⟩
            · obtain rfl : k = 1440 := by omega
              have fin : Hid (IsNext l f e q 0 false) := Or.inl ⟨rfl, rfl, Or.inr (Or.inr fun i hi => by rw [HU.out]; exact HK.out i hi)⟩
              clear hb
              go_wp2_with fail
              go_ret2
              exact ⟨0, false, fin.out, rfl, c2.out⟩

      exact main t rfl
  · have hz' : (z != 0) = true := by simpa using hok
    have fin : Hid (IsNext l f e t 0 false) := Or.inl ⟨rfl, rfl, Or.inl (by rw [HZ.out]; exact hok)⟩
    go_enter Try.func14, Try.ntmps14
    go_wp2_with fail
    refine (check_any _ l f e _ (HV.out.below (hb0 _))).mono ?_; rintro en w1 ⟨rfl, b1⟩
    rw [HZ.out]
    go_wp2_with fail
    go_ret2
    exact ⟨0, false, fin.out, rfl, (hb0 _).trans (b1.mono (hb0 _).size)⟩

set_option maxRecDepth 100000 in
set_option maxHeartbeats 2000000 in
theorem nextr_any (v : Value) (l : List Sp) (f e t : Int) (w : World) (hv : IsSched w v l f e) :
    Calls Try.prog 15 #[v, .int .i64 t] w (Nexts l f e t w) := by
  have HV := Lib.hid hv
  obtain ⟨a, len, cap, rfl, _, _, _, _⟩ := hv
  have hb0 := fun o => (Below.refl w.heap.size w).alloc (Nat.le_refl _) o
  obtain ⟨z, hz⟩ : ∃ z, checkZ l f e = z := ⟨_, rfl⟩
  have HZ := Lib.hid hz; clear hz
  by_cases hok : z = 0
  · subst hok
    by_cases h1 : 1152921504606846976 < t
    · have fin : Hid (IsNext l f e t 0 false) := Or.inl ⟨rfl, rfl, Or.inr (Or.inl h1)⟩
      go_enter Try.func15, Try.ntmps15
      go_wp2_with fail
      refine (checkr_any _ l f e _ (HV.out.below (hb0 _))).mono ?_; rintro en w1 ⟨rfl, b1⟩
      rw [HZ.out]
      go_wp2_with fail
      go_ret2
      exact ⟨0, false, fin.out, rfl, (hb0 _).trans (b1.mono (hb0 _).size)⟩
    · obtain ⟨u, hu⟩ : ∃ u, top0 t = u := ⟨_, rfl⟩
      have HU := Lib.hid hu
      have u0 : 0 ≤ u := by rw [← hu]; unfold top0; split <;> omega
      have u1 : u ≤ 1152921504606846976 := by rw [← hu]; unfold top0; split <;> omega
      have hcase : (t < 0 ∧ u = 0) ∨ (0 ≤ t ∧ u = t) := by rw [← hu]; unfold top0; split <;> omega
      clear hu
      have main : ∀ q : Int, q = t → Calls Try.prog 15 #[.agg #[.slice a len cap, .int .i64 f, .int .i64 e], .int .i64 q] w (Nexts l f e t w) := by
        intro q hq
        rcases hcase with ⟨t0, rfl⟩ | ⟨t0, rfl⟩
        · have q0 : q < 0 := by omega
          have q1 : q ≤ 1152921504606846976 := by omega
          have t1 : t ≤ 1152921504606846976 := by omega
          clear hq h1 t0
          go_enter Try.func15, Try.ntmps15
          go_wp2_with fail
          refine (checkr_any _ l f e _ (HV.out.below (hb0 _))).mono ?_; rintro en w1 ⟨rfl, b1⟩
          rw [HZ.out]
          have D := Lib.hid (box3 b1)
          have c1 := Lib.hid ((hb0 _).trans (b1.mono (hb0 _).size))
          clear b1
          go_wp2_with fail
          go_loopw [6] (fun s wr => ∃ k : Nat, k ≤ 1440 ∧ s = .int .i64 k ∧ Hid (∀ j, j < k → opens l f e 0 j = false) ∧ Below (w.heap.size + 1) w1 wr) (fun s _ => 1440 - (intOf s).toNat)
          case atStart => exact ⟨0, by omega, rfl, fun j h => absurd h (Nat.not_lt_zero j), Below.refl _ _⟩
          case round =>
            obtain ⟨k, hk, rfl, HK, hb⟩ := hrel
            have hs1 := D.out.2.2.2
            have d0 : wr.cell? ⟨w.heap.size, 0, none⟩ = some (.slice a len cap) := by rw [hb.cell (by show w.heap.size < w.heap.size + 1; omega)]; exact D.out.1
            have d1 : wr.cell? ⟨w.heap.size, 1, none⟩ = some (.int .i64 f) := by rw [hb.cell (by show w.heap.size < w.heap.size + 1; omega)]; exact D.out.2.1
            have d2 : wr.cell? ⟨w.heap.size, 2, none⟩ = some (.int .i64 e) := by rw [hb.cell (by show w.heap.size < w.heap.size + 1; omega)]; exact D.out.2.2.1
            have c2 := Lib.hid (c1.out.trans (hb.mono (Nat.le_succ _)))
            have hsz := hb.size
            by_cases hlt : k < 1440
            · obtain ⟨y, hy⟩ : ∃ y, minuteZ l f e ((0 + k) % 1440) = y := ⟨_, rfl⟩
              have HY := Lib.hid hy; clear hy
              have r1 : 0 ≤ (0 + (k : Int)) % 1440 := by omega
              have r2 : (0 + (k : Int)) % 1440 < 1440 := by omega
              have HB := Lib.hid hb; clear hb
              cases y
              · have st : Hid (∀ j, j < k + 1 → opens l f e 0 j = false) := fun j hj => by
                  by_cases ej : j = k
                  · subst ej; exact HY.out
                  · exact HK.out j (by omega)
                go_wp2_with fail
                refine (minute_any _ l f e _ _ (HV.out.below c2.out) HZ.out (by omega) (by omega)).mono ?_; rintro en w2 ⟨rfl, b2⟩
                skip
                rw [show minuteZ l f e ((k : Int) % 1440) = false from by have h := HY.out; rwa [Int.zero_add] at h]
                go_wp2_with fail
                go_roundw
                case rel => exact ⟨k + 1, by omega, by go_num, st, HB.out.trans (b2.mono (by omega))⟩
                case measure => simp [intOf]; omega
              · have fin : Hid (IsNext l f e t (0 + k) true) := Or.inr ⟨rfl, HZ.out, by omega, k, hlt, by rw [HU.out], by rw [HU.out]; exact HY.out, fun j hj => by rw [HU.out]; exact HK.out j hj⟩
                go_wp2_with fail
                refine (minute_any _ l f e _ _ (HV.out.below c2.out) HZ.out (by omega) (by omega)).mono ?_; rintro en w2 ⟨rfl, b2⟩
                skip
                rw [show minuteZ l f e ((k : Int) % 1440) = true from by have h := HY.out; rwa [Int.zero_add] at h]
                go_wp2_with fail
                go_ret2
                exact ⟨_, true, fin.out, ret_ib (by omega) rfl, c2.out.trans (b2.mono c2.out.size)⟩
            · obtain rfl : k = 1440 := by omega
              have fin : Hid (IsNext l f e t 0 false) := Or.inl ⟨rfl, rfl, Or.inr (Or.inr fun i hi => by rw [HU.out]; exact HK.out i hi)⟩
              clear hb
              go_wp2_with fail
              go_ret2
              exact ⟨0, false, fin.out, rfl, c2.out⟩

        · subst hq
          have q1 : q ≤ 1152921504606846976 := by omega

          clear h1
          go_enter Try.func15, Try.ntmps15
          go_wp2_with fail
          refine (checkr_any _ l f e _ (HV.out.below (hb0 _))).mono ?_; rintro en w1 ⟨rfl, b1⟩
          rw [HZ.out]
          have D := Lib.hid (box3 b1)
          have c1 := Lib.hid ((hb0 _).trans (b1.mono (hb0 _).size))
          clear b1
          go_wp2_with fail
          go_loopw [6] (fun s wr => ∃ k : Nat, k ≤ 1440 ∧ s = .int .i64 k ∧ Hid (∀ j, j < k → opens l f e q j = false) ∧ Below (w.heap.size + 1) w1 wr) (fun s _ => 1440 - (intOf s).toNat)
          case atStart => exact ⟨0, by omega, rfl, fun j h => absurd h (Nat.not_lt_zero j), Below.refl _ _⟩
          case round =>
            obtain ⟨k, hk, rfl, HK, hb⟩ := hrel
            have hs1 := D.out.2.2.2
            have d0 : wr.cell? ⟨w.heap.size, 0, none⟩ = some (.slice a len cap) := by rw [hb.cell (by show w.heap.size < w.heap.size + 1; omega)]; exact D.out.1
            have d1 : wr.cell? ⟨w.heap.size, 1, none⟩ = some (.int .i64 f) := by rw [hb.cell (by show w.heap.size < w.heap.size + 1; omega)]; exact D.out.2.1
            have d2 : wr.cell? ⟨w.heap.size, 2, none⟩ = some (.int .i64 e) := by rw [hb.cell (by show w.heap.size < w.heap.size + 1; omega)]; exact D.out.2.2.1
            have c2 := Lib.hid (c1.out.trans (hb.mono (Nat.le_succ _)))
            have hsz := hb.size
            by_cases hlt : k < 1440
            · obtain ⟨y, hy⟩ : ∃ y, minuteZ l f e ((q + k) % 1440) = y := ⟨_, rfl⟩
              have HY := Lib.hid hy; clear hy
              have r1 : 0 ≤ (q + (k : Int)) % 1440 := by omega
              have r2 : (q + (k : Int)) % 1440 < 1440 := by omega
              have HB := Lib.hid hb; clear hb
              cases y
              · have st : Hid (∀ j, j < k + 1 → opens l f e q j = false) := fun j hj => by
                  by_cases ej : j = k
                  · subst ej; exact HY.out
                  · exact HK.out j (by omega)
                go_wp2_with fail
                refine (minute_any _ l f e _ _ (HV.out.below c2.out) HZ.out (by omega) (by omega)).mono ?_; rintro en w2 ⟨rfl, b2⟩
                skip
                rw [HY.out]
                go_wp2_with fail
                go_roundw
                case rel => exact ⟨k + 1, by omega, by go_num, st, HB.out.trans (b2.mono (by omega))⟩
                case measure => simp [intOf]; omega
              · have fin : Hid (IsNext l f e q (q + k) true) := Or.inr ⟨rfl, HZ.out, by omega, k, hlt, by rw [HU.out], by rw [HU.out]; exact HY.out, fun j hj => by rw [HU.out]; exact HK.out j hj⟩
                go_wp2_with fail
                refine (minute_any _ l f e _ _ (HV.out.below c2.out) HZ.out (by omega) (by omega)).mono ?_; rintro en w2 ⟨rfl, b2⟩
                skip
                rw [HY.out]
                go_wp2_with fail
                go_ret2
                exact ⟨_, true, fin.out, ret_ib (by omega) rfl, c2.out.trans (b2.mono c2.out.size)⟩
            · obtain rfl : k = 1440 := by omega
              have fin : Hid (IsNext l f e q 0 false) := Or.inl ⟨rfl, rfl, Or.inr (Or.inr fun i hi => by rw [HU.out]; exact HK.out i hi)⟩
              clear hb
              go_wp2_with fail
              go_ret2
              exact ⟨0, false, fin.out, rfl, c2.out⟩

      exact main t rfl
  · have hz' : (z != 0) = true := by simpa using hok
    have fin : Hid (IsNext l f e t 0 false) := Or.inl ⟨rfl, rfl, Or.inl (by rw [HZ.out]; exact hok)⟩
    go_enter Try.func15, Try.ntmps15
    go_wp2_with fail
    refine (checkr_any _ l f e _ (HV.out.below (hb0 _))).mono ?_; rintro en w1 ⟨rfl, b1⟩
    rw [HZ.out]
    go_wp2_with fail
    go_ret2
    exact ⟨0, false, fin.out, rfl, (hb0 _).trans (b1.mono (hb0 _).size)⟩

end Go.Proofs.Ytpdpaahieplloaa
