/- Contracts: Sqrt, Add, and their references. -/
import Derived.Test.YticjeknfnbligaaWa
import Derived.WalkMore
import Derived.Deep.LoopGhost
namespace Go.Proofs.Yticjeknfnbligaa
open Go.ChangeShapes Go.WideShapes Go.ChangeAt Go.RowKit

def Rooted (n : Int) (w : World) (e : Ending) (w' : World) : Prop := ∃ r : Int, IsRoot n r ∧ e = .returned (.int .i64 r) ∧ w = w'

set_option maxHeartbeats 400000 in
theorem sqrt_any (n : Int) (w : World) (hn : n ≤ 9223372036854775807) :
    Calls Try.prog 18 #[.int .i64 n] w (Rooted n w) := by
  have st := Lib.hid (sq_start n hn)
  go_enter Try.func18, Try.ntmps18
  go_wp2
  go_step3
  go_wp2
  go_step3
  go_wp2
  go_loop [3, 4] (fun l h => ∃ lo hi : Int, Hid (SqInv n lo hi) ∧ l = .int .i64 lo ∧ h = .int .i64 hi) (fun l h => (intOf h - intOf l).toNat)
  case atStart => exact ⟨0, 3037000499, st, rfl, rfl⟩
  case round =>
    obtain ⟨lo, hi, H, rfl, rfl⟩ := hrel
    have h0 := H.out.1
    have h1 := H.out.2.1
    have h2 := H.out.2.2.1
    by_cases hlt : lo < hi
    · have b1 : (lo + hi + 1) / 2 ≤ 3037000499 := by omega
      have b0 : 0 ≤ (lo + hi + 1) / 2 := by omega
      have b2 : lo < (lo + hi + 1) / 2 := by omega
      have b3 : (lo + hi + 1) / 2 ≤ hi := by omega
      have sq1 := (sq_top ((lo + hi + 1) / 2) b0 b1).1
      have sq2 := (sq_top ((lo + hi + 1) / 2) b0 b1).2
      go_wp2
      · go_round
        case rel => exact ⟨lo, _, sq_hi n lo hi _ H.out b2 b3 ‹_›, rfl, rfl⟩
        case measure => simp [intOf]; omega
      · go_round
        case rel => exact ⟨_, hi, sq_lo n lo hi _ H.out b2 b3 ‹_›, rfl, rfl⟩
        case measure => simp [intOf]; omega
    · have e : lo = hi := by omega
      subst e
      go_wp2
      try rw [Exit.noGoto_ret]
      go_ret
      exact ⟨lo, sq_end n lo H.out, rfl, rfl⟩

set_option maxHeartbeats 400000 in
theorem sqrtr_any (n : Int) (w : World) (hn : n ≤ 9223372036854775807) :
    Calls Try.prog 19 #[.int .i64 n] w (Rooted n w) := by
  by_cases hn0 : n ≤ 0
  · go_enter Try.func19, Try.ntmps19
    go_wp2
    go_ret
    exact ⟨0, ⟨by omega, by omega, fun _ => rfl, fun _ => by omega⟩, rfl, rfl⟩
  · have st := Lib.hid (sr_start n (by omega) hn)
    go_enter Try.func19, Try.ntmps19
    go_wp2
    go_loop [3, 4, 5] (fun l h i => ∃ (lo hi : Int) (k : Nat), Hid (SrInv n lo hi k) ∧ l = .int .i64 lo ∧ h = .int .i64 hi ∧ i = .int .i64 k) (fun _ _ i => 64 - (intOf i).toNat)
    case atStart => exact ⟨1, 3037000500, 0, st, rfl, rfl, rfl⟩
    case round =>
      obtain ⟨lo, hi, k, H, rfl, rfl, rfl⟩ := hrel
      have h0 := H.out.1
      have h1 := H.out.2.1
      have h2 := H.out.2.2.1
      have hk : k ≤ 32 := H.out.2.2.2.2.2.1
      by_cases hlt : 1 < hi - lo
      · have m0 : 0 < (lo + hi) / 2 := by omega
        have q0 : 0 ≤ n / ((lo + hi) / 2) := Int.ediv_nonneg (by omega) (by omega)
        have q1 : n / ((lo + hi) / 2) ≤ n := Int.ediv_le_self _ (by omega)
        have k32 := sr_room n lo hi k H.out hlt
        go_wp2
        · go_round
          case rel => exact ⟨_, hi, k + 1, sr_lo n lo hi _ k H.out hlt rfl ‹_›, rfl, rfl, by go_num⟩
          case measure => simp [intOf]; omega
        · go_round
          case rel => exact ⟨lo, _, k + 1, sr_hi n lo hi _ k H.out hlt rfl ‹_›, rfl, rfl, by go_num⟩
          case measure => simp [intOf]; omega
      · go_wp2
        go_ret
        exact ⟨lo, sr_end n lo hi k H.out (by omega), rfl, rfl⟩

/- Add -/
def Sums (a b : Int) (w : World) (e : Ending) (w' : World) : Prop := e = .returned (.tuple (if -9223372036854775808 ≤ a + b ∧ a + b ≤ 9223372036854775807 then #[.int .i64 (a + b), .bool true] else #[.int .i64 0, .bool false])) ∧ w = w'
set_option maxHeartbeats 400000 in
theorem add_any (a b : Int) (w : World) (ha : I64 a) (hb : I64 b) : Calls Try.prog 20 #[.int .i64 a, .int .i64 b] w (Sums a b w) := by
  obtain ⟨a1, a2⟩ := ha
  obtain ⟨b1, b2⟩ := hb
  rcases Int.lt_trichotomy b 0 with h | h | h
  · by_cases h2 : a < -9223372036854775808 - b
    · go_enter Try.func20, Try.ntmps20
      go_wp2
      go_ret2
      exact ⟨by rw [if_neg (by omega)]; rfl, rfl⟩
    · go_enter Try.func20, Try.ntmps20
      go_wp2
      go_ret2
      exact ⟨by rw [if_pos (by omega)]; rfl, rfl⟩
  · subst h
    go_enter Try.func20, Try.ntmps20
    go_wp2
    go_ret2
    exact ⟨by rw [if_pos (by omega)]; simp, rfl⟩
  · by_cases h2 : 9223372036854775807 - b < a
    · go_enter Try.func20, Try.ntmps20
      go_wp2
      go_ret2
      exact ⟨by rw [if_neg (by omega)]; rfl, rfl⟩
    · go_enter Try.func20, Try.ntmps20
      go_wp2
      go_ret2
      exact ⟨by rw [if_pos (by omega)]; rfl, rfl⟩
set_option maxHeartbeats 400000 in
theorem addr_any (a b : Int) (w : World) (ha : I64 a) (hb : I64 b) : Calls Try.prog 21 #[.int .i64 a, .int .i64 b] w (Sums a b w) := by
  obtain ⟨a1, a2⟩ := ha
  obtain ⟨b1, b2⟩ := hb
  rcases Int.lt_trichotomy b 0 with h | h | h
  · by_cases h2 : a < -9223372036854775808 - b
    · go_enter Try.func21, Try.ntmps21
      go_wp2
      go_ret2
      exact ⟨by rw [if_neg (by omega)]; rfl, rfl⟩
    · go_enter Try.func21, Try.ntmps21
      go_wp2
      go_ret2
      exact ⟨by rw [if_pos (by omega)]; rfl, rfl⟩
  · subst h
    go_enter Try.func21, Try.ntmps21
    go_wp2
    go_ret2
    exact ⟨by rw [if_pos (by omega)]; simp, rfl⟩
  · by_cases h2 : 9223372036854775807 - b < a
    · go_enter Try.func21, Try.ntmps21
      go_wp2
      go_ret2
      exact ⟨by rw [if_neg (by omega)]; rfl, rfl⟩
    · go_enter Try.func21, Try.ntmps21
      go_wp2
      go_ret2
      exact ⟨by rw [if_pos (by omega)]; rfl, rfl⟩
end Go.Proofs.Yticjeknfnbligaa
