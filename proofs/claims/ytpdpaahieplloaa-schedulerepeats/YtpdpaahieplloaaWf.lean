/- Contracts: Free and its reference; the chapter's examples. -/
import Derived.Test.YtpdpaahieplloaaWe
namespace Go.Proofs.Ytpdpaahieplloaa
open Go.ChangeShapes Go.WideShapes Go.ChangeAt Go.RowKit Go.Joins Go.Deep

theorem free_no {l : List Sp} {f e : Int} (k : Nat) (hk : k < 1440) (h : minuteZ l f e k = false) : freeZ l f e = false := by
  unfold freeZ
  have : ((List.range 1440).all fun m => minuteZ l f e m) = false := by
    rw [List.all_eq_false]
    exact ⟨k, List.mem_range.2 hk, by rw [h]; simp⟩
  rw [this]; simp
theorem free_yes {l : List Sp} {f e : Int} (hc : checkZ l f e = 0) (h : ∀ j : Nat, j < 1440 → minuteZ l f e j = true) : freeZ l f e = true := by
  unfold freeZ
  have : ((List.range 1440).all fun m => minuteZ l f e m) = true := by
    rw [List.all_eq_true]
    exact fun m hm => h m (List.mem_range.1 hm)
  rw [this, hc]; simp

set_option maxRecDepth 100000 in
set_option maxHeartbeats 2000000 in
theorem free_any (v : Value) (l : List Sp) (f e : Int) (w : World) (hv : IsSched w v l f e) :
    Calls Try.prog 16 #[v] w fun en w' => en = .returned (.bool (freeZ l f e)) ∧ Below w.heap.size w w' := by
  have HV := Lib.hid hv
  obtain ⟨a, len, cap, rfl, _, _, _, _⟩ := hv
  have hb0 := fun o => (Below.refl w.heap.size w).alloc (Nat.le_refl _) o
  obtain ⟨z, hz⟩ : ∃ z, checkZ l f e = z := ⟨_, rfl⟩
  have HZ := Lib.hid hz; clear hz
  by_cases hok : z = 0
  · subst hok
    go_enter Try.func16, Try.ntmps16
    go_wp2_with fail
    refine (check_any _ l f e _ (HV.out.below (hb0 _))).mono ?_; rintro en w1 ⟨rfl, b1⟩
    rw [HZ.out]
    have D := Lib.hid (box3 b1)
    have c1 := Lib.hid ((hb0 _).trans (b1.mono (hb0 _).size))
    clear b1
    go_wp2_with fail
    go_loopw [7] (fun s wr => ∃ k : Nat, k ≤ 1440 ∧ s = .int .i64 k ∧ Hid (∀ j : Nat, j < k → minuteZ l f e j = true) ∧ Below (w.heap.size + 1) w1 wr) (fun s _ => 1440 - (intOf s).toNat)
    case atStart => exact ⟨0, by omega, rfl, fun j h => absurd h (Nat.not_lt_zero j), Below.refl _ _⟩
    case round =>
      obtain ⟨k, hk, rfl, HK, hb⟩ := hrel
      have hs1 := D.out.2.2.2
      have d0 : wr.cell? ⟨w.heap.size, 0, none⟩ = some (.slice a len cap) := by rw [hb.cell (by show w.heap.size < w.heap.size + 1; omega)]; exact D.out.1
      have d1 : wr.cell? ⟨w.heap.size, 1, none⟩ = some (.int .i64 f) := by rw [hb.cell (by show w.heap.size < w.heap.size + 1; omega)]; exact D.out.2.1
      have d2 : wr.cell? ⟨w.heap.size, 2, none⟩ = some (.int .i64 e) := by rw [hb.cell (by show w.heap.size < w.heap.size + 1; omega)]; exact D.out.2.2.1
      have c2 := Lib.hid (c1.out.trans (hb.mono (Nat.le_succ _)))
      have hsz := hb.size
      by_cases hlt : k < 1440
      · obtain ⟨y, hy⟩ : ∃ y, minuteZ l f e k = y := ⟨_, rfl⟩
        have HY := Lib.hid hy; clear hy
        have HB := Lib.hid hb; clear hb
        cases y
        · have fin : Hid (freeZ l f e = false) := free_no k hlt HY.out
          go_wp2_with fail
          refine (openAt_any _ l f e _ _ (HV.out.below c2.out) HZ.out (by omega) (by omega)).mono ?_; rintro en w2 ⟨rfl, b2⟩
          rw [HY.out]
          go_wp2_with fail
          go_ret
          exact ⟨ret_bool fin.out.symm, c2.out.trans (b2.mono c2.out.size)⟩
        · have st : Hid (∀ j : Nat, j < k + 1 → minuteZ l f e j = true) := fun j hj => by
            by_cases ej : j = k
            · subst ej; exact HY.out
            · exact HK.out j (by omega)
          go_wp2_with fail
          refine (openAt_any _ l f e _ _ (HV.out.below c2.out) HZ.out (by omega) (by omega)).mono ?_; rintro en w2 ⟨rfl, b2⟩
          rw [HY.out]
          go_wp2_with fail
          go_roundw
          case rel => exact ⟨k + 1, by omega, by go_num, st, HB.out.trans (b2.mono (by omega))⟩
          case measure => simp [intOf]; omega
      · obtain rfl : k = 1440 := by omega
        have fin : Hid (freeZ l f e = true) := free_yes HZ.out HK.out
        clear hb
        go_wp2_with fail
        go_ret
        exact ⟨ret_bool fin.out.symm, c2.out⟩
  · have hz' : (z != 0) = true := by simpa using hok
    have fin : Hid (freeZ l f e = false) := by
      show freeZ l f e = false; unfold freeZ; rw [HZ.out]; simp [hok]
    go_enter Try.func16, Try.ntmps16
    go_wp2_with fail
    refine (check_any _ l f e _ (HV.out.below (hb0 _))).mono ?_; rintro en w1 ⟨rfl, b1⟩
    rw [HZ.out]
    go_wp2_with fail
    go_ret
    exact ⟨ret_bool fin.out.symm, (hb0 _).trans (b1.mono (hb0 _).size)⟩

set_option maxRecDepth 100000 in
set_option maxHeartbeats 2000000 in
theorem freer_any (v : Value) (l : List Sp) (f e : Int) (w : World) (hv : IsSched w v l f e) :
    Calls Try.prog 17 #[v] w fun en w' => en = .returned (.bool (freeZ l f e)) ∧ Below w.heap.size w w' := by
  have HV := Lib.hid hv
  obtain ⟨a, len, cap, rfl, _, _, _, _⟩ := hv
  have hb0 := fun o => (Below.refl w.heap.size w).alloc (Nat.le_refl _) o
  obtain ⟨z, hz⟩ : ∃ z, checkZ l f e = z := ⟨_, rfl⟩
  have HZ := Lib.hid hz; clear hz
  by_cases hok : z = 0
  · subst hok
    go_enter Try.func17, Try.ntmps17
    go_wp2_with fail
    refine (checkr_any _ l f e _ (HV.out.below (hb0 _))).mono ?_; rintro en w1 ⟨rfl, b1⟩
    rw [HZ.out]
    have D := Lib.hid (box3 b1)
    have c1 := Lib.hid ((hb0 _).trans (b1.mono (hb0 _).size))
    clear b1
    go_wp2_with fail
    go_loopw [3] (fun s wr => ∃ k : Nat, k ≤ 1440 ∧ s = .int .i64 k ∧ Hid (∀ j : Nat, j < k → minuteZ l f e j = true) ∧ Below (w.heap.size + 1) w1 wr) (fun s _ => 1440 - (intOf s).toNat)
    case atStart => exact ⟨0, by omega, rfl, fun j h => absurd h (Nat.not_lt_zero j), Below.refl _ _⟩
    case round =>
      obtain ⟨k, hk, rfl, HK, hb⟩ := hrel
      have hs1 := D.out.2.2.2
      have d0 : wr.cell? ⟨w.heap.size, 0, none⟩ = some (.slice a len cap) := by rw [hb.cell (by show w.heap.size < w.heap.size + 1; omega)]; exact D.out.1
      have d1 : wr.cell? ⟨w.heap.size, 1, none⟩ = some (.int .i64 f) := by rw [hb.cell (by show w.heap.size < w.heap.size + 1; omega)]; exact D.out.2.1
      have d2 : wr.cell? ⟨w.heap.size, 2, none⟩ = some (.int .i64 e) := by rw [hb.cell (by show w.heap.size < w.heap.size + 1; omega)]; exact D.out.2.2.1
      have c2 := Lib.hid (c1.out.trans (hb.mono (Nat.le_succ _)))
      have hsz := hb.size
      by_cases hlt : k < 1440
      · obtain ⟨y, hy⟩ : ∃ y, minuteZ l f e k = y := ⟨_, rfl⟩
        have HY := Lib.hid hy; clear hy
        have HB := Lib.hid hb; clear hb
        cases y
        · have fin : Hid (freeZ l f e = false) := free_no k hlt HY.out
          go_wp2_with fail
          refine (minute_any _ l f e _ _ (HV.out.below c2.out) HZ.out (by omega) (by omega)).mono ?_; rintro en w2 ⟨rfl, b2⟩
          rw [HY.out]
          go_wp2_with fail
          go_ret
          exact ⟨ret_bool fin.out.symm, c2.out.trans (b2.mono c2.out.size)⟩
        · have st : Hid (∀ j : Nat, j < k + 1 → minuteZ l f e j = true) := fun j hj => by
            by_cases ej : j = k
            · subst ej; exact HY.out
            · exact HK.out j (by omega)
          go_wp2_with fail
          refine (minute_any _ l f e _ _ (HV.out.below c2.out) HZ.out (by omega) (by omega)).mono ?_; rintro en w2 ⟨rfl, b2⟩
          rw [HY.out]
          go_wp2_with fail
          go_roundw
          case rel => exact ⟨k + 1, by omega, by go_num, st, HB.out.trans (b2.mono (by omega))⟩
          case measure => simp [intOf]; omega
      · obtain rfl : k = 1440 := by omega
        have fin : Hid (freeZ l f e = true) := free_yes HZ.out HK.out
        clear hb
        go_wp2_with fail
        go_ret
        exact ⟨ret_bool fin.out.symm, c2.out⟩
  · have hz' : (z != 0) = true := by simpa using hok
    have fin : Hid (freeZ l f e = false) := by
      show freeZ l f e = false; unfold freeZ; rw [HZ.out]; simp [hok]
    go_enter Try.func17, Try.ntmps17
    go_wp2_with fail
    refine (checkr_any _ l f e _ (HV.out.below (hb0 _))).mono ?_; rintro en w1 ⟨rfl, b1⟩
    rw [HZ.out]
    go_wp2_with fail
    go_ret
    exact ⟨ret_bool fin.out.symm, (hb0 _).trans (b1.mono (hb0 _).size)⟩

/- the examples -/
theorem next_of {l : List Sp} {f e t a : Int} (i : Nat) (hc : checkZ l f e = 0) (ht : t ≤ 1152921504606846976) (hi : i < 1440) (ha : a = top0 t + i) (hp : opens l f e (top0 t) i = true) (hm : ((List.range i).all fun j => !opens l f e (top0 t) j) = true) : IsNext l f e t a true := by
  refine Or.inr ⟨rfl, hc, ht, i, hi, ha, hp, fun j hj => ?_⟩
  have := (List.all_eq_true.1 hm) j (List.mem_range.2 hj)
  simpa using this
theorem ex1 : IsNext [(60, 120)] 0 0 90 120 true := next_of 30 (by decide +kernel) (by omega) (by omega) (by decide) (by decide +kernel) (by decide +kernel)
theorem ex2 : IsNext [(60, 120)] 0 0 1500 1560 true := next_of 60 (by decide +kernel) (by omega) (by omega) (by decide) (by decide +kernel) (by decide +kernel)
theorem ex3 : IsNext [] 10 500 1011 1450 true := next_of 439 (by decide +kernel) (by omega) (by omega) (by decide) (by decide +kernel) (by decide +kernel)
theorem next_at {l : List Sp} {f e t a : Int} {o : Bool} (v : Value) (w : World) (hv : IsSched w v l f e) (h : IsNext l f e t a o) :
    Calls Try.prog 14 #[v, .int .i64 t] w fun en w' => en = .returned (.tuple #[.int .i64 a, .bool o]) ∧ Below w.heap.size w w' := by
  refine (next_any v l f e t w hv).mono ?_
  rintro en w' ⟨a', o', hn, rfl, hb⟩
  obtain ⟨rfl, rfl⟩ := next_unique hn h
  exact ⟨rfl, hb⟩
theorem open_at {l : List Sp} {f e t : Int} {o : Bool} (v : Value) (w : World) (hv : IsSched w v l f e) (ht : t ≤ 9223372036854775807) (h : openZ l f e t = o) :
    Calls Try.prog 12 #[v, .int .i64 t] w fun en w' => en = .returned (.bool o) ∧ Below w.heap.size w w' := h ▸ open_any v l f e t w hv ht
theorem free_at {l : List Sp} {f e : Int} {o : Bool} (v : Value) (w : World) (hv : IsSched w v l f e) (h : freeZ l f e = o) :
    Calls Try.prog 16 #[v] w fun en w' => en = .returned (.bool o) ∧ Below w.heap.size w w' := h ▸ free_any v l f e w hv
theorem check_at {l : List Sp} {f e z : Int} (v : Value) (w : World) (hv : IsSched w v l f e) (h : checkZ l f e = z) :
    Calls Try.prog 10 #[v] w fun en w' => en = .returned (.int .i64 z) ∧ Below w.heap.size w w' := h ▸ check_any v l f e w hv
theorem sched_none (w : World) (f e : Int) (hf : I64 f) (he : I64 e) (a : Option Addr) (cap : Nat) : IsSched w (.agg #[.slice a 0 cap, .int .i64 f, .int .i64 e]) [] f e :=
  ⟨a, 0, cap, rfl, by decide, hf, he, rfl, fun i h => absurd h (Nat.not_lt_zero i), Or.inl rfl⟩
theorem sched_one (w : World) (b cap : Nat) (x y : Int) (hx : I64 x) (hy : I64 y) (hb : b < w.heap.size) (c0 : w.cell? ⟨b, 0, none⟩ = some (.int .i64 x)) (c1 : w.cell? ⟨b, 1, none⟩ = some (.int .i64 y)) :
    IsSched w (.agg #[.slice (some ⟨b, 0, none⟩) 1 cap, .int .i64 0, .int .i64 0]) [(x, y)] 0 0 := by
  refine ⟨_, 1, cap, rfl, by decide, ⟨by omega, by omega⟩, ⟨by omega, by omega⟩, rfl, fun i h => ?_, Or.inr ⟨b, 0, rfl, hb, fun i h => ?_⟩⟩
  · obtain rfl : i = 0 := by omega
    exact ⟨hx, hy⟩
  · obtain rfl : i = 0 := by omega
    exact ⟨c0, c1⟩

/- what the examples' schedules leave in memory -/
abbrev W0 (w : World) : World := ((w.alloc (.cells #[.int .i64 60, .int .i64 120] 35)).alloc (.cells #[.slice (some ⟨w.heap.size, 0, none⟩) 1 1, .int .i64 0, .int .i64 0] 24)).alloc (.cells #[.slice none 0 0, .int .i64 10, .int .i64 500] 24)
theorem w0_size (w : World) : (W0 w).heap.size = w.heap.size + 3 := by simp
def Lv (w wr : World) : Prop := Below (w.heap.size + 3) (W0 w) wr
theorem Lv.start (w : World) : Lv w (W0 w) := Below.refl _ _
theorem Lv.size {w wr : World} (h : Lv w wr) : w.heap.size + 3 ≤ wr.heap.size := by have := Below.size h; rw [w0_size] at this; exact this
theorem Lv.next {w wr w2 : World} (h : Lv w wr) (hb : Below wr.heap.size wr w2) : Lv w w2 := Below.trans h (hb.mono h.size)
theorem Lv.below {w wr : World} (h : Lv w wr) : Below w.heap.size w wr :=
  ((((Below.refl _ _).alloc (Nat.le_refl _) _).alloc (by simp) _).alloc (by simp; omega) _).trans (Below.mono h (by omega))
theorem Lv.cells {w wr : World} (h : Lv w wr) : wr.cell? ⟨w.heap.size + 1, 0, none⟩ = some (.slice (some ⟨w.heap.size, 0, none⟩) 1 1) ∧ wr.cell? ⟨w.heap.size + 1, 1, none⟩ = some (.int .i64 0) ∧ wr.cell? ⟨w.heap.size + 1, 2, none⟩ = some (.int .i64 0) ∧
    wr.cell? ⟨w.heap.size + 2, 0, none⟩ = some (.slice none 0 0) ∧ wr.cell? ⟨w.heap.size + 2, 1, none⟩ = some (.int .i64 10) ∧ wr.cell? ⟨w.heap.size + 2, 2, none⟩ = some (.int .i64 500) := by
  refine ⟨?_, ?_, ?_, ?_, ?_, ?_⟩
  all_goals
    rw [Below.cell h (by first | (show w.heap.size + 1 < w.heap.size + 3; omega) | (show w.heap.size + 2 < w.heap.size + 3; omega))]
    unfold W0
    go_simp
theorem Lv.sched {w wr : World} (h : Lv w wr) : IsSched wr (.agg #[.slice (some ⟨w.heap.size, 0, none⟩) 1 1, .int .i64 0, .int .i64 0]) [(60, 120)] 0 0 := by
  have hs := h.size
  refine sched_one wr w.heap.size 1 60 120 ⟨by omega, by omega⟩ ⟨by omega, by omega⟩ (by omega) ?_ ?_
  all_goals
    rw [Below.cell h (by show w.heap.size < w.heap.size + 3; omega)]
    unfold W0
    go_simp

set_option maxRecDepth 100000 in
set_option maxHeartbeats 2000000 in
theorem lives_any (w : World) : Calls Try.prog 9 #[] w fun e w' => e = .returned (.bool true) ∧ Below w.heap.size w w' := by
  have i10 : I64 10 := ⟨by omega, by omega⟩
  have i500 : I64 500 := ⟨by omega, by omega⟩
  have i0 : I64 0 := ⟨by omega, by omega⟩
  have i1 : I64 1 := ⟨by omega, by omega⟩
  go_enter Try.func9, Try.ntmps9
  go_wp2_with fail
  refine (next_at _ _ (Lv.start w).sched ex1).mono ?_; rintro en w1 ⟨rfl, b⟩
  have H1 := Lib.hid ((Lv.start w).next b); clear b
  have D := H1.out.cells
  go_wp2_with fail
  refine (next_at _ _ H1.out.sched ex2).mono ?_; rintro en w2 ⟨rfl, b⟩
  have H2 := Lib.hid (H1.out.next b); clear b D
  have D := H2.out.cells
  go_wp2_with fail
  refine (next_at _ _ (sched_none _ 10 500 i10 i500 none 0) ex3).mono ?_; rintro en w3 ⟨rfl, b⟩
  have H3 := Lib.hid (H2.out.next b); clear b D
  have D := H3.out.cells
  go_wp2_with fail
  refine (open_at (o := true) _ _ H3.out.sched (by omega) (by decide +kernel)).mono ?_; rintro en w4 ⟨rfl, b⟩
  have H4 := Lib.hid (H3.out.next b); clear b D
  have D := H4.out.cells
  go_wp2_with fail
  refine (open_at (o := false) _ _ H4.out.sched (by omega) (by decide +kernel)).mono ?_; rintro en w5 ⟨rfl, b⟩
  have H5 := Lib.hid (H4.out.next b); clear b D
  have D := H5.out.cells
  go_wp2_with fail
  refine (free_at (o := true) _ _ (sched_none _ 0 0 i0 i0 none 0) (by decide +kernel)).mono ?_; rintro en w6 ⟨rfl, b⟩
  have H6 := Lib.hid (H5.out.next b); clear b D
  have D := H6.out.cells
  go_wp2_with fail
  refine (free_at (o := false) _ _ (sched_none _ 10 500 i10 i500 none 0) (by decide +kernel)).mono ?_; rintro en w7 ⟨rfl, b⟩
  have H7 := Lib.hid (H6.out.next b); clear b D
  go_wp2_with fail
  refine (check_at (z := 19) _ _ (sched_none _ 1 0 i1 i0 none 0) (by decide +kernel)).mono ?_; rintro en w8 ⟨rfl, b⟩
  have H8 := Lib.hid (H7.out.next b); clear b
  go_wp2_with fail
  go_ret
  exact ⟨rfl, H8.out.below⟩
end Go.Proofs.Ytpdpaahieplloaa
