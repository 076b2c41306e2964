/- pq: PqSizes. -/
import Derived.Test.YtdohmlkocbdomaaPp
namespace Go.Proofs.Ytdohmlkocbdomaa
open Go.ChangeShapes Go.WideShapes Go.ChangeAt Go.RowKit Go.Joins Go.Deep

theorem may_no {n : Int} (hn : n < 0 ∨ 1048576 < n) (w : World) : Calls Try.prog 21 #[.int .i64 n] w fun e w' => e = .returned (.bool false) ∧ w = w' := by
  rcases Int.lt_or_le n 0 with h | h
  · have h1 : ¬ 0 ≤ n := by omega
    clear hn
    go_enter Try.func21, Try.ntmps21
    go_wp2
    go_ret
    exact ⟨rfl, rfl⟩
  · have h1 : ¬ n ≤ 1048576 := by omega
    clear hn
    go_enter Try.func21, Try.ntmps21
    go_wp2
    go_ret
    exact ⟨rfl, rfl⟩
theorem may_yes (n : Nat) (hn : n ≤ 1048576) (w : World) : Calls Try.prog 21 #[.int .i64 n] w fun e w' => e = .returned (.bool true) ∧ w = w' := by
  have h0 : 0 ≤ (n : Int) := by omega
  have h1 : (n : Int) ≤ 1048576 := by omega
  clear hn
  go_enter Try.func21, Try.ntmps21
  go_wp2
  go_ret
  exact ⟨rfl, rfl⟩
theorem count_rep (n : Nat) : (List.replicate n false).count true = 0 := by rw [List.count_replicate]; rfl
theorem hasB_rep (n : Nat) (x : Int) : hasB (List.replicate n false) x = false := by unfold hasB; rw [getD_repB, Bool.and_false]
set_option maxRecDepth 100000 in
set_option maxHeartbeats 4000000 in
theorem sizes_no {n : Int} (hn : n < 0 ∨ 1048576 < n) (x : Int) (w : World) : Calls Try.prog 7 #[.int .i64 n, .int .i64 x] w fun e w' => e = .returned (.bool true) ∧ Below w.heap.size w w' := by
  have NE := Lib.hid (new_no hn w); have MA := Lib.hid (may_no hn w)
  clear hn
  go_enter Try.func7, Try.ntmps7
  go_wp2_with fail
  refine NE.out.mono ?_; rintro e w' ⟨rfl, rfl⟩
  go_wp2_with fail
  refine MA.out.mono ?_; rintro e w' ⟨rfl, rfl⟩
  go_wp2_with fail
  refine (key_nil x w).mono ?_; rintro e w' ⟨rfl, rfl⟩
  go_wp2_with fail
  refine (pop_nil w).mono ?_; rintro e w' ⟨rfl, rfl⟩
  go_wp2_with fail
  refine (len_nil w).mono ?_; rintro e w' ⟨rfl, rfl⟩
  go_wp2_with fail
  refine (set_nil x 1 w).mono ?_; rintro e w' ⟨rfl, rfl⟩
  go_wp2_with fail
  refine (drop_nil x w).mono ?_; rintro e w' ⟨rfl, rfl⟩
  go_wp2_with fail
  refine (lives_any w).mono ?_; rintro e w' ⟨rfl, b⟩
  go_wp2_with fail
  go_ret
  exact ⟨rfl, b⟩
set_option maxRecDepth 100000 in
set_option maxHeartbeats 4000000 in
theorem sizes_out {n : Nat} (hn : n ≤ 1048576) {x : Int} (hx : x < 0 ∨ (n : Int) ≤ x) (w : World) : Calls Try.prog 7 #[.int .i64 n, .int .i64 x] w fun e w' => e = .returned (.bool true) ∧ Below w.heap.size w w' := by
  have NE := Lib.hid (new_any n hn w); have MA := Lib.hid (may_yes n hn)
  have HX := Lib.hid hx
  by_cases x0 : 0 ≤ x
  · have x1 : ¬ x < (n : Int) := by omega
    clear hn hx
    go_enter Try.func7, Try.ntmps7
    go_wp2_with fail
    refine NE.out.mono ?_; rintro e w1 h1
    obtain ⟨qb, rfl, o⟩ := own_new h1
    have O := Lib.hid o
    clear h1 o NE
    go_wp2_with fail
    refine (MA.out _).mono ?_; rintro e w' ⟨rfl, rfl⟩
    go_wp2_with fail
    refine (own_len O.out).mono ?_; rintro e w' ⟨rfl, rfl⟩
    rw [count_rep]
    go_wp2_with fail
    refine (own_seto O.out (x := x) (by have := HX.out; simpa using this) 7).mono ?_; rintro e w' ⟨rfl, rfl⟩
    go_wp2_with fail
    refine (own_key O.out x).mono ?_; rintro e w' ⟨rfl, rfl⟩
    rw [hasB_rep, if_neg (by decide)]
    go_wp2_with fail
    refine (lives_any w1).mono ?_; rintro e w2 ⟨rfl, b⟩
    have BB := Lib.hid b
    clear b
    go_wp2_with fail
    go_ret
    obtain ⟨_, _, b, _⟩ := O.out
    exact ⟨rfl, b.trans (BB.out.mono b.size)⟩
  · clear hn hx
    go_enter Try.func7, Try.ntmps7
    go_wp2_with fail
    refine NE.out.mono ?_; rintro e w1 h1
    obtain ⟨qb, rfl, o⟩ := own_new h1
    have O := Lib.hid o
    clear h1 o NE
    go_wp2_with fail
    refine (MA.out _).mono ?_; rintro e w' ⟨rfl, rfl⟩
    go_wp2_with fail
    refine (own_len O.out).mono ?_; rintro e w' ⟨rfl, rfl⟩
    rw [count_rep]
    go_wp2_with fail
    refine (own_seto O.out (x := x) (by have := HX.out; simpa using this) 7).mono ?_; rintro e w' ⟨rfl, rfl⟩
    go_wp2_with fail
    refine (own_key O.out x).mono ?_; rintro e w' ⟨rfl, rfl⟩
    rw [hasB_rep, if_neg (by decide)]
    go_wp2_with fail
    refine (lives_any w1).mono ?_; rintro e w2 ⟨rfl, b⟩
    have BB := Lib.hid b
    clear b
    go_wp2_with fail
    go_ret
    obtain ⟨_, _, b, _⟩ := O.out
    exact ⟨rfl, b.trans (BB.out.mono b.size)⟩
set_option maxRecDepth 100000 in
set_option maxHeartbeats 4000000 in
theorem sizes_in {n X : Nat} (hn : n ≤ 1048576) (hx : X < n) (w : World) : Calls Try.prog 7 #[.int .i64 n, .int .i64 X] w fun e w' => e = .returned (.bool true) ∧ Below w.heap.size w w' := by
  have NE := Lib.hid (new_any n hn w); have MA := Lib.hid (may_yes n hn)
  have HX := Lib.hid hx
  have x0 : 0 ≤ (X : Int) := by omega
  have x1 : (X : Int) < (n : Int) := by omega
  have KE : Hid (hasB ((List.replicate n false).set X true) (X : Int) = true ∧ ((List.replicate n (0 : Int)).set X 7).getD X 0 = 7 ∧ ((List.replicate n false).set X true).count true = 1) := by
    refine ⟨?_, ?_, ?_⟩
    · rw [hasB_nat, getD_setB _ _ _ _ (by simpa using hx), if_pos rfl]
    · rw [getD_set _ _ _ _ (by simpa using hx), if_pos rfl]
    · rw [count_on _ _ (by simpa using hx) (getD_repB _ _), count_rep]
  clear hn hx
  go_enter Try.func7, Try.ntmps7
  go_wp2_with fail
  refine NE.out.mono ?_; rintro e w1 h1
  obtain ⟨qb, rfl, o⟩ := own_new h1
  have O := Lib.hid o
  clear h1 o NE
  go_wp2_with fail
  refine (MA.out _).mono ?_; rintro e w' ⟨rfl, rfl⟩
  go_wp2_with fail
  refine (own_len O.out).mono ?_; rintro e w' ⟨rfl, rfl⟩
  rw [count_rep]
  go_wp2_with fail
  refine (own_set O.out (X := X) (by have := HX.out; simpa using this) 7).mono ?_; rintro e w2 ⟨rfl, o2⟩
  have O2 := Lib.hid o2
  clear o2
  go_wp2_with fail
  refine (own_key O2.out X).mono ?_; rintro e w' ⟨rfl, rfl⟩
  rw [KE.out.1, if_pos rfl, Int.toNat_natCast, KE.out.2.1]
  go_wp2_with fail
  refine (own_len O2.out).mono ?_; rintro e w' ⟨rfl, rfl⟩
  rw [KE.out.2.2]
  go_wp2_with fail
  refine (lives_any w2).mono ?_; rintro e w3 ⟨rfl, b⟩
  have BB := Lib.hid b
  clear b
  go_wp2_with fail
  go_ret
  obtain ⟨_, _, b, _⟩ := O2.out
  exact ⟨rfl, b.trans (BB.out.mono b.size)⟩
theorem pqSizes_walk (a0 a1 : Int) (w : World) (_h0 : (Lit.int .i64 a0).wf = true) (_h1 : (Lit.int .i64 a1).wf = true) : Calls Try.prog 7 #[.int .i64 a0, .int .i64 a1] w fun e w' => e = .returned (.bool true) ∧ Below w.heap.size w w' := by
  by_cases hn : a0 < 0 ∨ 1048576 < a0
  · exact sizes_no hn a1 w
  · obtain ⟨n, rfl⟩ : ∃ n : Nat, a0 = (n : Int) := ⟨a0.toNat, by omega⟩
    by_cases hx : a1 < 0 ∨ (n : Int) ≤ a1
    · exact sizes_out (by omega) hx w
    · obtain ⟨X, rfl⟩ : ∃ X : Nat, a1 = (X : Int) := ⟨a1.toNat, by omega⟩
      exact sizes_in (by omega) (by omega) w
end Go.Proofs.Ytdohmlkocbdomaa
