/- The Hilbert curve: the reference's Index. -/
import Derived.Test.YtdiigackkbnkmaaHb
namespace Go.Proofs.Ytdiigackkbnkmaa
open Go.ChangeShapes Go.WideShapes Go.ChangeAt Go.RowKit Go.Joins Go.Deep

/-- The state of a round of the reference: k levels are left. -/
def Sr (k : Nat) (n x' y' x y : Int) : Prop := k ≤ 15 ∧ (0 ≤ n ∧ (n + 1) * 4 ^ k ≤ 1073741824) ∧ hAcc k n x' y' = hI 15 x y ∧ 0 ≤ x' ∧ x' < 2 ^ k ∧ 0 ≤ y' ∧ y' < 2 ^ k
theorem Sr.sx {k : Nat} {n x' y' x y : Int} (h : Sr (k + 1) n x' y' x y) : Sx k n x' y' x y := by
  obtain ⟨a, b, c, d, e, f, g⟩ := h
  rw [p2 k] at e g
  exact ⟨by omega, b, c, d, e, f, g⟩
theorem Sr.next {k : Nat} {n q x' y' x2 y2 x y : Int} (h : Sr (k + 1) n x' y' x y) (q0 : 0 ≤ q) (q1 : q ≤ 3) (e : hAcc (k + 1) n x' y' = hAcc k (4 * n + q) x2 y2) (h0 : 0 ≤ x2) (h1 : x2 < 2 ^ k) (h2 : 0 ≤ y2) (h3 : y2 < 2 ^ k) : Sr k (4 * n + q) x2 y2 x y := by
  obtain ⟨a, b, c, _⟩ := h
  refine ⟨by omega, ⟨by omega, ?_⟩, e.symm.trans c, h0, h1, h2, h3⟩
  have p := p4pos k
  obtain ⟨b0, b⟩ := b
  rw [p4 k] at b
  have : (4 * n + q + 1) * 4 ^ k ≤ (4 * n + 4) * 4 ^ k := Int.mul_le_mul_of_nonneg_right (by omega) (by omega)
  have e : (n + 1) * (4 * 4 ^ k) = (4 * n + 4) * 4 ^ k := by grind
  omega
set_option maxHeartbeats 4000000 in
theorem indexr_rec (x y : Int) (w : World) (hv : vldB x y = true) :
    Calls Try.prog 56 #[pt x y, .int .i64 15] w fun e w' => e = .returned (.int .i64 (hI 15 x y)) ∧ Below w.heap.size w w' := by
  obtain ⟨v1, v2, v3, v4⟩ := vldB_iff.1 hv
  have HS0 : Hid (Sr 15 0 x y x y) := ⟨by omega, ⟨by omega, by decide⟩, rfl, v1, by omega, v3, by omega⟩
  clear v1 v2 v3 v4 hv
  go_enter Try.func56, Try.ntmps56
  go_wp2_with fail
  go_loopw [1, 5] (fun s1 s5 wr => ∃ (k : Nat) (n x' y' : Int), s1 = .int .i64 k ∧ s5 = .int .i64 n ∧ Hid (Sr k n x' y' x y) ∧ Hid (Below w.heap.size w wr) ∧ Hid (Pb wr w.heap.size x' y')) (fun s1 _ _ => (intOf s1).toNat)
  case atStart => exact ⟨15, 0, x, y, rfl, rfl, HS0, (Below.refl _ _).alloc (Nat.le_refl _) _, Pb.new w x y⟩
  case round =>
    obtain ⟨k, n, x', y', rfl, rfl, HS, HB, HP⟩ := hrel
    rcases Nat.eq_zero_or_pos k with rfl | hk
    · go_wp2
      go_ret
      obtain ⟨_, _, e, _⟩ := HS.out
      exact ⟨ret_i64 e, HB.out⟩
    · obtain ⟨j, rfl⟩ : ∃ j, k = j + 1 := ⟨k - 1, by omega⟩
      have hj : j ≤ 14 := by have := HS.out.1; omega
      go_wp2_with fail
      go_loopw [6, 7] (fun s6 s7 wr' => wr' = wr ∧ ∃ i : Nat, i ≤ j ∧ s7 = .int .i64 ((i : Int) + 1) ∧ s6 = .int .i64 (2 ^ i)) (fun s6 s7 _ => j + 1 - (intOf s7).toNat)
      case atStart => exact ⟨rfl, 0, by omega, rfl, rfl⟩
      case round =>
        obtain ⟨rfl, i, hi, rfl, rfl⟩ := hrel
        by_cases hij : i < j
        · have hp := p2pos i
          have hp2 := p2le (show i ≤ 14 by omega)
          have he := p2 i
          obtain ⟨g, hgg⟩ : ∃ g : Int, 2 ^ i = g := ⟨_, rfl⟩
          rw [hgg] at hp hp2 he ⊢
          have HE := Lib.hid he; clear he hgg
          have d1 : decide ((i : Int) + 1 < ((j + 1 : Nat) : Int)) = true := by simp; omega
          go_wp2
          go_roundw
          case rel => exact ⟨trivial, i + 1, by omega, by go_num, by rw [HE.out]⟩
          case measure => simp [intOf]; omega
        · obtain rfl : i = j := by omega
          obtain ⟨hk, hn, ha, x0, x1, y0, y1⟩ := HS.out.sx
          obtain ⟨q, x2, y2, hq, hc, hs, z0, z1, t0, t1⟩ := hstep i n x' y' x0 x1 y0 y1
          have HQB : Hid (0 ≤ q ∧ q ≤ 3) := by show 0 ≤ q ∧ q ≤ 3; omega
          have HSX := Lib.hid (HS.out.next HQB.out.1 HQB.out.2 hs z0 z1 t0 t1)
          obtain ⟨nb0, nb1⟩ := hn.bd
          obtain ⟨c0, c1, cf⟩ := HP.out.facts
          have hg : w.heap.size < wr.heap.size := HP.out.lt
          have hp := p2pos i
          have hp2 := p2le hk
          obtain ⟨h, hh⟩ : ∃ h : Int, 2 ^ i = h := ⟨_, rfl⟩
          rw [hh] at hq hc x1 y1 hp hp2 ⊢
          have hlt : (q = 0 ∧ x' < h ∧ y' < h) ∨ (q = 1 ∧ x' < h ∧ ¬ y' < h) ∨ (q = 2 ∧ ¬ x' < h ∧ ¬ y' < h) ∨ (q = 3 ∧ ¬ x' < h ∧ y' < h) := by
            rw [← hq]; unfold qd; split <;> split <;> simp <;> omega
          clear hq ha hs hn HS z0 z1 t0 t1 hij hi hj
          have d1 : decide ((i : Int) + 1 < ((i + 1 : Nat) : Int)) = false := by simp
          rcases hlt with ⟨rfl, k1, k2⟩ | ⟨rfl, k1, k2⟩ | ⟨rfl, k1, k2⟩ | ⟨rfl, k1, k2⟩
          all_goals
            simp at hc
            obtain ⟨rfl, rfl⟩ := hc
            go_wp2
            refine ⟨⟨i, _, _, _, rfl, rfl, ?_, (HB.out.setCell (by simp) _).setCell (by simp) _, HP.out.set _ _⟩, by simp [intOf]⟩
            have s := HSX.out
            first | exact s | (rw [Int.add_zero] at s; exact s)

set_option maxHeartbeats 1000000 in
theorem indexr_any (x y : Int) (w : World) :
    Calls Try.prog 33 #[pt x y] w fun e w' => e = .returned (.int .i64 (idx x y)) ∧ Below w.heap.size w w' := by
  cases hv : vldB x y
  · have HE := Lib.hid (show idx x y = -1 by unfold idx; rw [if_neg (by rw [hv]; simp)])
    have hn : x < 0 ∨ (0 ≤ x ∧ y < 0) ∨ (0 ≤ x ∧ 0 ≤ y ∧ 32768 ≤ x) ∨ (0 ≤ x ∧ 0 ≤ y ∧ x < 32768 ∧ 32768 ≤ y) := by
      have := @vldB_iff x y; simp [hv] at this; omega
    clear hv
    rcases hn with h | ⟨h1, h⟩ | ⟨h1, h2, h⟩ | ⟨h1, h2, h3, h⟩
    all_goals
      go_enter Try.func33, Try.ntmps33
      go_wp2
      go_ret
      refine ⟨ret_i64 HE.out.symm, ?_⟩
      (repeat (first | exact Below.refl _ _ | (refine Below.drew ?_) | (refine below_drewN ?_ _) | (refine Below.alloc ?_ (by first | omega | (simp <;> omega)) _) | (refine Below.setCell ?_ (by first | omega | (simp <;> omega)) _) | (refine Below.trans ?_ (Below.mono (by assumption) (by first | omega | (simp <;> omega))))))
  · obtain ⟨v1, v2, v3, v4⟩ := vldB_iff.1 hv
    have HE := Lib.hid (show idx x y = hI 15 x y by unfold idx; rw [if_pos hv])
    have HV := Lib.hid hv; clear hv
    go_enter Try.func33, Try.ntmps33
    go_wp2_with fail
    refine (indexr_rec _ _ _ HV.out).mono ?_; rintro e w1 ⟨rfl, hb1⟩
    have HB := Lib.hid hb1; clear hb1
    go_wp2
    go_ret
    refine ⟨ret_i64 HE.out.symm, ?_⟩
    have hb := HB.out
    (repeat (first | exact Below.refl _ _ | (refine Below.drew ?_) | (refine below_drewN ?_ _) | (refine Below.alloc ?_ (by first | omega | (simp <;> omega)) _) | (refine Below.setCell ?_ (by first | omega | (simp <;> omega)) _) | (refine Below.trans ?_ (Below.mono (by assumption) (by first | omega | (simp <;> omega))))))
end Go.Proofs.Ytdiigackkbnkmaa
