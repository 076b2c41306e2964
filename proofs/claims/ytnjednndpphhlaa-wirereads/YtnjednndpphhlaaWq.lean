/- The reference's next, Uint and Int. -/
import Derived.Test.YtnjednndpphhlaaWp
namespace Go.Proofs.Ytnjednndpphhlaa
open Go.ChangeShapes Go.WideShapes Go.ChangeAt Go.RowKit Go.Maps Go.WideMaps

theorem hor_step (R : ByteArray) {q i : Nat} (h : q ≤ i) : dl (cut R q (i + 1 - q)) = byt R q % 128 + 128 * dl (cut R (q + 1) (i - q)) := by
  rw [show i + 1 - q = (i - q) + 1 by omega, cut, dl, byt_nat]
theorem hor_le (R : ByteArray) {q i : Nat} (h : q ≤ i + 1) : dl (cut R q (i + 1 - q)) ≤ val R (i + 1) := by
  have := dl_cut R (i + 1 - q) q
  rw [show q + (i + 1 - q) = i + 1 by omega] at this
  have h1 : 0 < 128 ^ q := Nat.pos_of_ne_zero (by simp)
  have h2 : 1 * dl (cut R q (i + 1 - q)) ≤ 128 ^ q * dl (cut R q (i + 1 - q)) := Nat.mul_le_mul_right _ h1
  omega
theorem hor_all (R : ByteArray) (i : Nat) : dl (cut R 0 (i + 1)) = val R (i + 1) := by
  have := dl_cut R (i + 1) 0
  rw [Nat.zero_add] at this
  rw [this]; simp [val]
def PB (R : ByteArray) (w : World) (e : Ending) (w' : World) : Prop := ∃ (n k : Nat) (c : Int), Parse R n k c ∧ e = .returned (.tuple #[.int .u64 n, .int .i64 k, .int .i64 c]) ∧ Below w.heap.size w w'
set_option maxRecDepth 100000 in
set_option maxHeartbeats 2000000 in
theorem next_raw {S R : ByteArray} {t : Nat} (ht : t ≤ S.size) (hs : S.size ≤ 2000) (hR : S.extract t S.size = R) (w : World) : Calls Try.prog 30 #[rv S t 0] w (PB R w) := by
  have hz : R.size ≤ 2000 := by rw [← hR, ByteArray.size_extract]; omega
  obtain ⟨Z, hZ⟩ : ∃ Z, S.size = Z := ⟨_, rfl⟩
  rw [hZ] at ht hs
  obtain ⟨L, hL⟩ : ∃ L, R.size = L := ⟨_, rfl⟩
  rw [hL] at hz
  have HL := Lib.hid hL
  have B1 := Lib.hid (below_alloc w (Obj.cells #[.string S, .int .i64 t, .int .i64 0] 32))
  have ht0 : (0 : Int) ≤ (t : Int) := by omega
  have ht1 : (t : Int) ≤ (Z : Int) := by omega
  rw [hZ] at hR
  go_enter Try.func30, Try.ntmps30
  go_wp2_with fail
  go_loopw [6] (fun s6 wr => ∃ i : Nat, i ≤ L ∧ i ≤ 10 ∧ s6 = .int .i64 i ∧ Hid (More R i) ∧ Hid (Below w.heap.size w wr)) (fun s6 _ => 10 - (intOf s6).toNat)
  case atStart => exact ⟨0, by omega, by omega, rfl, fun j h => absurd h (Nat.not_lt_zero j), B1.out⟩
  case round =>
    clear B1
    obtain ⟨i, hi, hi10, rfl, MO, HB⟩ := hrel
    by_cases hlt : i < L ∧ i < 10
    · obtain ⟨hl1, hl2⟩ := hlt
      have hi' : i < R.size := by omega
      have hb := byt_at hi'
      obtain ⟨c, hc⟩ : ∃ c, byt R i = c := ⟨_, rfl⟩
      rw [hc] at hb
      have hc2 : c < 256 := by rw [← hc]; exact byt_lt R i
      have HC := Lib.hid hc
      clear hc
      by_cases h128 : 128 ≤ c
      · have MO2 : Hid (More R (i + 1)) := MO.out.succ (by rw [HC.out]; exact h128)
        go_wp2_with fail
        go_roundw
        case rel => exact ⟨i + 1, by omega, by omega, by go_num, MO2, HB⟩
        case measure => simp [intOf]; omega
      · have hne : ¬ (i = L) := by omega
        have hne2 : ¬ (i = 10) := by omega
        by_cases b1 : i = 9 ∧ 1 < c
        · obtain ⟨rfl, hc1⟩ := b1
          go_wp2_with fail
          go_ret3
          exact ⟨0, 0, 4, .bad 9 MO.out (by omega) hl2 (by rw [HC.out]; omega) (Or.inr ⟨rfl, by rw [HC.out]; exact hc1⟩), rfl, HB.out⟩
        · by_cases b2 : 0 < i ∧ c = 0
          · obtain ⟨hp, rfl⟩ := b2
            by_cases h9 : i = 9
            · subst h9
              go_wp2_with fail
              go_ret3
              exact ⟨0, 0, 4, .bad 9 MO.out (by omega) hl2 (by rw [HC.out]; omega) (Or.inl ⟨by omega, HC.out⟩), rfl, HB.out⟩
            · go_wp2_with fail
              go_ret3
              exact ⟨0, 0, 4, .bad i MO.out (by omega) hl2 (by rw [HC.out]; omega) (Or.inl ⟨hp, HC.out⟩), rfl, HB.out⟩
          · have PG : Hid (Parse R (val R (i + 1)) (i + 1) 0) := .good i MO.out hi' hl2 (by rw [HC.out]; omega) (by rw [HC.out]; exact b2) (by rw [HC.out]; exact b1)
            have VL : Hid (val R (i + 1) < 18446744073709551616) := PG.out.used.2
            have A0 : Hid (0 = dl (cut R (i + 1) (i - i))) := by show 0 = dl (cut R (i + 1) (i - i)); rw [Nat.sub_self]; rfl
            by_cases hc0 : c = 0
            · have hi0 : i = 0 := by omega
              subst hi0 hc0
              go_wp2_with fail
              go_loopw [7, 8] (fun s7 s8 wq => ∃ A : Nat, s7 = .int .u64 A ∧ ((∃ q : Nat, q ≤ 0 ∧ s8 = .int .i64 q ∧ Hid (A = dl (cut R (q + 1) (0 - q)))) ∨ (s8 = .int .i64 (-1) ∧ Hid (A = val R (0 + 1)))) ∧ Hid (Below w.heap.size w wq)) (fun _ s8 _ => (intOf s8 + 1).toNat)
              case atStart => exact ⟨0, rfl, Or.inl ⟨0, Nat.le_refl _, rfl, A0⟩, HB⟩
              case round =>
                clear HB hb
                obtain ⟨A, rfl, ⟨q, hq, rfl, HA⟩ | ⟨rfl, HA⟩, HB⟩ := hrel
                · have hq' : q < R.size := by omega
                  have hqL : q < L := by omega
                  have hbq := byt_at hq'
                  obtain ⟨c', hc'⟩ : ∃ c', byt R q = c' := ⟨_, rfl⟩
                  rw [hc'] at hbq
                  have hc'2 : c' < 256 := by rw [← hc']; exact byt_lt R q
                  obtain ⟨P, hP⟩ : ∃ P : Nat, A * 128 = P := ⟨_, rfl⟩
                  obtain ⟨Q, hQ⟩ : ∃ Q : Nat, c' % 128 = Q := ⟨_, rfl⟩
                  have st := hor_step R (q := q) (i := 0) hq
                  have le := hor_le R (q := q) (i := 0) (by omega)
                  rw [hc', hQ, ← HA.out] at st
                  have vl := VL.out
                  have w1 : IntKind.u64.wrap ((A : Int) * 128) = (P : Int) := by rw [IntKind.wrap_u64]; omega
                  have w2 : IntKind.u64.wrap (c' : Int) = (c' : Int) := by rw [IntKind.wrap_u64]; omega
                  have w3 : (c' : Int).tmod 128 = (Q : Int) := by rw [Int.tmod_eq_emod_of_nonneg (by omega)]; omega
                  have w4 : IntKind.u64.wrap (Q : Int) = (Q : Int) := by rw [IntKind.wrap_u64]; omega
                  have w5 : IntKind.u64.wrap ((P : Int) + (Q : Int)) = ((P + Q : Nat) : Int) := by rw [IntKind.wrap_u64]; omega
                  have HE : Hid (P + Q = dl (cut R q (0 + 1 - q))) := by show _ = _; omega
                  clear st le vl hP hQ hc'
                  by_cases hq0 : q = 0
                  · subst hq0
                    have HE2 : Hid (P + Q = val R (0 + 1)) := by show _ = _; rw [HE.out]; exact hor_all R 0
                    go_wp2_with fail
                    go_roundw
                    case rel => exact ⟨P + Q, rfl, Or.inr ⟨rfl, HE2⟩, HB⟩
                    case measure => simp [intOf]
                  · exact absurd hq (by omega)
                · go_wp2_with fail
                  go_ret3
                  exact ⟨A, 0 + 1, 0, by rw [HA.out]; exact PG.out, by first | rfl | simp, HB.out⟩
            · have bc : ((c : Int) == 0) = false := by simp; omega
              by_cases h9 : i = 9
              · subst h9
                have hc1 : c ≤ 1 := by omega
                go_wp2_with fail
                go_loopw [7, 8] (fun s7 s8 wq => ∃ A : Nat, s7 = .int .u64 A ∧ ((∃ q : Nat, q ≤ 9 ∧ s8 = .int .i64 q ∧ Hid (A = dl (cut R (q + 1) (9 - q)))) ∨ (s8 = .int .i64 (-1) ∧ Hid (A = val R (9 + 1)))) ∧ Hid (Below w.heap.size w wq)) (fun _ s8 _ => (intOf s8 + 1).toNat)
                case atStart => exact ⟨0, rfl, Or.inl ⟨9, Nat.le_refl _, rfl, A0⟩, HB⟩
                case round =>
                  clear HB hb
                  obtain ⟨A, rfl, ⟨q, hq, rfl, HA⟩ | ⟨rfl, HA⟩, HB⟩ := hrel
                  · have hq' : q < R.size := by omega
                    have hqL : q < L := by omega
                    have hbq := byt_at hq'
                    obtain ⟨c', hc'⟩ : ∃ c', byt R q = c' := ⟨_, rfl⟩
                    rw [hc'] at hbq
                    have hc'2 : c' < 256 := by rw [← hc']; exact byt_lt R q
                    obtain ⟨P, hP⟩ : ∃ P : Nat, A * 128 = P := ⟨_, rfl⟩
                    obtain ⟨Q, hQ⟩ : ∃ Q : Nat, c' % 128 = Q := ⟨_, rfl⟩
                    have st := hor_step R (q := q) (i := 9) hq
                    have le := hor_le R (q := q) (i := 9) (by omega)
                    rw [hc', hQ, ← HA.out] at st
                    have vl := VL.out
                    have w1 : IntKind.u64.wrap ((A : Int) * 128) = (P : Int) := by rw [IntKind.wrap_u64]; omega
                    have w2 : IntKind.u64.wrap (c' : Int) = (c' : Int) := by rw [IntKind.wrap_u64]; omega
                    have w3 : (c' : Int).tmod 128 = (Q : Int) := by rw [Int.tmod_eq_emod_of_nonneg (by omega)]; omega
                    have w4 : IntKind.u64.wrap (Q : Int) = (Q : Int) := by rw [IntKind.wrap_u64]; omega
                    have w5 : IntKind.u64.wrap ((P : Int) + (Q : Int)) = ((P + Q : Nat) : Int) := by rw [IntKind.wrap_u64]; omega
                    have HE : Hid (P + Q = dl (cut R q (9 + 1 - q))) := by show _ = _; omega
                    clear st le vl hP hQ hc'
                    by_cases hq0 : q = 0
                    · subst hq0
                      have HE2 : Hid (P + Q = val R (9 + 1)) := by show _ = _; rw [HE.out]; exact hor_all R 9
                      go_wp2_with fail
                      go_roundw
                      case rel => exact ⟨P + Q, rfl, Or.inr ⟨rfl, HE2⟩, HB⟩
                      case measure => simp [intOf]
                    · obtain ⟨p, rfl⟩ : ∃ p, q = p + 1 := ⟨q - 1, by omega⟩
                      have HE2 : Hid (P + Q = dl (cut R (p + 1) (9 - p))) := by show _ = _; rw [HE.out, show 9 + 1 - (p + 1) = 9 - p by omega]
                      go_wp2_with fail
                      go_roundw
                      case rel => exact ⟨P + Q, rfl, Or.inl ⟨p, by omega, by go_num, HE2⟩, HB⟩
                      case measure => simp [intOf]; omega
                  · go_wp2_with fail
                    go_ret3
                    exact ⟨A, 9 + 1, 0, by rw [HA.out]; exact PG.out, by first | rfl | simp, HB.out⟩
              · by_cases hi0 : i = 0
                · subst hi0
                  go_wp2_with fail
                  go_loopw [7, 8] (fun s7 s8 wq => ∃ A : Nat, s7 = .int .u64 A ∧ ((∃ q : Nat, q ≤ 0 ∧ s8 = .int .i64 q ∧ Hid (A = dl (cut R (q + 1) (0 - q)))) ∨ (s8 = .int .i64 (-1) ∧ Hid (A = val R (0 + 1)))) ∧ Hid (Below w.heap.size w wq)) (fun _ s8 _ => (intOf s8 + 1).toNat)
                  case atStart => exact ⟨0, rfl, Or.inl ⟨0, Nat.le_refl _, rfl, A0⟩, HB⟩
                  case round =>
                    clear HB hb
                    obtain ⟨A, rfl, ⟨q, hq, rfl, HA⟩ | ⟨rfl, HA⟩, HB⟩ := hrel
                    · have hq' : q < R.size := by omega
                      have hqL : q < L := by omega
                      have hbq := byt_at hq'
                      obtain ⟨c', hc'⟩ : ∃ c', byt R q = c' := ⟨_, rfl⟩
                      rw [hc'] at hbq
                      have hc'2 : c' < 256 := by rw [← hc']; exact byt_lt R q
                      obtain ⟨P, hP⟩ : ∃ P : Nat, A * 128 = P := ⟨_, rfl⟩
                      obtain ⟨Q, hQ⟩ : ∃ Q : Nat, c' % 128 = Q := ⟨_, rfl⟩
                      have st := hor_step R (q := q) (i := 0) hq
                      have le := hor_le R (q := q) (i := 0) (by omega)
                      rw [hc', hQ, ← HA.out] at st
                      have vl := VL.out
                      have w1 : IntKind.u64.wrap ((A : Int) * 128) = (P : Int) := by rw [IntKind.wrap_u64]; omega
                      have w2 : IntKind.u64.wrap (c' : Int) = (c' : Int) := by rw [IntKind.wrap_u64]; omega
                      have w3 : (c' : Int).tmod 128 = (Q : Int) := by rw [Int.tmod_eq_emod_of_nonneg (by omega)]; omega
                      have w4 : IntKind.u64.wrap (Q : Int) = (Q : Int) := by rw [IntKind.wrap_u64]; omega
                      have w5 : IntKind.u64.wrap ((P : Int) + (Q : Int)) = ((P + Q : Nat) : Int) := by rw [IntKind.wrap_u64]; omega
                      have HE : Hid (P + Q = dl (cut R q (0 + 1 - q))) := by show _ = _; omega
                      clear st le vl hP hQ hc'
                      by_cases hq0 : q = 0
                      · subst hq0
                        have HE2 : Hid (P + Q = val R (0 + 1)) := by show _ = _; rw [HE.out]; exact hor_all R 0
                        go_wp2_with fail
                        go_roundw
                        case rel => exact ⟨P + Q, rfl, Or.inr ⟨rfl, HE2⟩, HB⟩
                        case measure => simp [intOf]
                      · exact absurd hq (by omega)
                    · go_wp2_with fail
                      go_ret3
                      exact ⟨A, 0 + 1, 0, by rw [HA.out]; exact PG.out, by first | rfl | simp, HB.out⟩
                · have hip : 0 < i := by omega
                  go_wp2_with fail
                  go_loopw [7, 8] (fun s7 s8 wq => ∃ A : Nat, s7 = .int .u64 A ∧ ((∃ q : Nat, q ≤ i ∧ s8 = .int .i64 q ∧ Hid (A = dl (cut R (q + 1) (i - q)))) ∨ (s8 = .int .i64 (-1) ∧ Hid (A = val R (i + 1)))) ∧ Hid (Below w.heap.size w wq)) (fun _ s8 _ => (intOf s8 + 1).toNat)
                  case atStart => exact ⟨0, rfl, Or.inl ⟨i, Nat.le_refl _, rfl, A0⟩, HB⟩
                  case round =>
                    clear HB hb
                    obtain ⟨A, rfl, ⟨q, hq, rfl, HA⟩ | ⟨rfl, HA⟩, HB⟩ := hrel
                    · have hq' : q < R.size := by omega
                      have hqL : q < L := by omega
                      have hbq := byt_at hq'
                      obtain ⟨c', hc'⟩ : ∃ c', byt R q = c' := ⟨_, rfl⟩
                      rw [hc'] at hbq
                      have hc'2 : c' < 256 := by rw [← hc']; exact byt_lt R q
                      obtain ⟨P, hP⟩ : ∃ P : Nat, A * 128 = P := ⟨_, rfl⟩
                      obtain ⟨Q, hQ⟩ : ∃ Q : Nat, c' % 128 = Q := ⟨_, rfl⟩
                      have st := hor_step R (q := q) (i := i) hq
                      have le := hor_le R (q := q) (i := i) (by omega)
                      rw [hc', hQ, ← HA.out] at st
                      have vl := VL.out
                      have w1 : IntKind.u64.wrap ((A : Int) * 128) = (P : Int) := by rw [IntKind.wrap_u64]; omega
                      have w2 : IntKind.u64.wrap (c' : Int) = (c' : Int) := by rw [IntKind.wrap_u64]; omega
                      have w3 : (c' : Int).tmod 128 = (Q : Int) := by rw [Int.tmod_eq_emod_of_nonneg (by omega)]; omega
                      have w4 : IntKind.u64.wrap (Q : Int) = (Q : Int) := by rw [IntKind.wrap_u64]; omega
                      have w5 : IntKind.u64.wrap ((P : Int) + (Q : Int)) = ((P + Q : Nat) : Int) := by rw [IntKind.wrap_u64]; omega
                      have HE : Hid (P + Q = dl (cut R q (i + 1 - q))) := by show _ = _; omega
                      clear st le vl hP hQ hc'
                      by_cases hq0 : q = 0
                      · subst hq0
                        have HE2 : Hid (P + Q = val R (i + 1)) := by show _ = _; rw [HE.out]; exact hor_all R i
                        go_wp2_with fail
                        go_roundw
                        case rel => exact ⟨P + Q, rfl, Or.inr ⟨rfl, HE2⟩, HB⟩
                        case measure => simp [intOf]
                      · obtain ⟨p, rfl⟩ : ∃ p, q = p + 1 := ⟨q - 1, by omega⟩
                        have HE2 : Hid (P + Q = dl (cut R (p + 1) (i - p))) := by show _ = _; rw [HE.out, show i + 1 - (p + 1) = i - p by omega]
                        go_wp2_with fail
                        go_roundw
                        case rel => exact ⟨P + Q, rfl, Or.inl ⟨p, by omega, by go_num, HE2⟩, HB⟩
                        case measure => simp [intOf]; omega
                    · go_wp2_with fail
                      go_ret3
                      exact ⟨A, i + 1, 0, by rw [HA.out]; exact PG.out, by first | rfl | simp, HB.out⟩
    · by_cases h10 : i = 10
      · subst h10
        go_wp2_with fail
        go_ret3
        exact ⟨0, 0, 4, .long MO.out (by omega), rfl, HB.out⟩
      · obtain rfl : i = L := by omega
        have hlt10 : i < 10 := by omega
        go_wp2_with fail
        go_ret3
        exact ⟨0, 0, 3, .ends (by rw [HL.out]; exact MO.out) (by omega), rfl, HB.out⟩
end Go.Proofs.Ytnjednndpphhlaa
