/- The Hilbert curve: Index. -/
import Derived.Test.YtdiigackkbnkmaaHi
import Derived.Test.YtdiigackkbnkmaaHm
namespace Go.Proofs.Ytdiigackkbnkmaa
open Go.ChangeShapes Go.WideShapes Go.ChangeAt Go.RowKit Go.Joins Go.Deep

theorem hstep (k : Nat) (n x y : Int) (x0 : 0 ≤ x) (x1 : x < 2 * 2 ^ k) (y0 : 0 ≤ y) (y1 : y < 2 * 2 ^ k) :
    ∃ q x2 y2 : Int, qd x y (2 ^ k) = q ∧ ((q = 0 ∧ x2 = y ∧ y2 = x) ∨ (q = 1 ∧ x2 = x ∧ y2 = y - 2 ^ k) ∨ (q = 2 ∧ x2 = x - 2 ^ k ∧ y2 = y - 2 ^ k) ∨ (q = 3 ∧ x2 = 2 ^ k - 1 - y ∧ y2 = 2 * 2 ^ k - 1 - x)) ∧
      hAcc (k + 1) n x y = hAcc k (4 * n + q) x2 y2 ∧ 0 ≤ x2 ∧ x2 < 2 ^ k ∧ 0 ≤ y2 ∧ y2 < 2 ^ k := by
  simp only [hAcc, qd]
  by_cases kx : x < 2 ^ k <;> by_cases ky : y < 2 ^ k
  · rw [if_pos kx, if_pos kx, if_pos ky, if_pos ky]
    exact ⟨0, y, x, rfl, Or.inl ⟨rfl, rfl, rfl⟩, by rw [Int.add_zero], by omega, by omega, by omega, by omega⟩
  · rw [if_pos kx, if_pos kx, if_neg ky, if_neg ky]
    exact ⟨1, x, y - 2 ^ k, rfl, Or.inr (Or.inl ⟨rfl, rfl, rfl⟩), rfl, by omega, by omega, by omega, by omega⟩
  · rw [if_neg kx, if_neg kx, if_pos ky, if_pos ky]
    exact ⟨3, 2 ^ k - 1 - y, 2 * 2 ^ k - 1 - x, rfl, Or.inr (Or.inr (Or.inr ⟨rfl, rfl, rfl⟩)), rfl, by omega, by omega, by omega, by omega⟩
  · rw [if_neg kx, if_neg kx, if_neg ky, if_neg ky]
    exact ⟨2, x - 2 ^ k, y - 2 ^ k, rfl, Or.inr (Or.inr (Or.inl ⟨rfl, rfl, rfl⟩)), rfl, by omega, by omega, by omega, by omega⟩
/-- What the position may be yet, k + 1 levels ahead of the end. -/
def Nb (k : Nat) (n : Int) : Prop := 0 ≤ n ∧ (n + 1) * 4 ^ (k + 1) ≤ 1073741824
theorem Nb.bd {k : Nat} {n : Int} (h : Nb k n) : 0 ≤ n ∧ n ≤ 268435456 := by
  obtain ⟨a, b⟩ := h
  rw [p4 k] at b
  have p := p4pos k
  have : (n + 1) * 1 ≤ (n + 1) * 4 ^ k := Int.mul_le_mul_of_nonneg_left (by omega) (by omega)
  have e : (n + 1) * (4 * 4 ^ k) = 4 * ((n + 1) * 4 ^ k) := by grind
  omega
theorem Nb.next {k : Nat} {n q : Int} (h : Nb (k + 1) n) (q0 : 0 ≤ q) (q1 : q ≤ 3) : Nb k (4 * n + q) := by
  obtain ⟨a, b⟩ := h
  refine ⟨by omega, ?_⟩
  have p := p4pos (k + 1)
  rw [p4 (k + 1)] at b
  have : (4 * n + q + 1) * 4 ^ (k + 1) ≤ (4 * n + 4) * 4 ^ (k + 1) := Int.mul_le_mul_of_nonneg_right (by omega) (by omega)
  have e : (n + 1) * (4 * 4 ^ (k + 1)) = (4 * n + 4) * 4 ^ (k + 1) := by grind
  omega
theorem p2le {k : Nat} (h : k ≤ 14) : (2 : Int) ^ k ≤ 16384 := by
  have e : (16384 : Int) = 2 ^ (14 - k) * 2 ^ k := by rw [← Int.pow_add, show 14 - k + k = 14 by omega]; rfl
  have p := p2pos k
  have p' := p2pos (14 - k)
  have : 1 * (2 : Int) ^ k ≤ 2 ^ (14 - k) * 2 ^ k := Int.mul_le_mul_of_nonneg_right (by omega) (by omega)
  omega
/-- The state of a round: k + 1 levels are left. -/
def Sx (k : Nat) (n x' y' x y : Int) : Prop := k ≤ 14 ∧ Nb k n ∧ hAcc (k + 1) n x' y' = hI 15 x y ∧ 0 ≤ x' ∧ x' < 2 * 2 ^ k ∧ 0 ≤ y' ∧ y' < 2 * 2 ^ k
def idx (x y : Int) : Int := if vldB x y = true then hI 15 x y else -1
set_option maxHeartbeats 1000000 in
theorem index_no (x y : Int) (w : World) (hv : vldB x y = false) :
    Calls Try.prog 32 #[pt x y] w fun e w' => e = .returned (.int .i64 (idx x y)) ∧ Below w.heap.size w w' := by
  have HV := Lib.hid hv; clear hv
  go_enter Try.func32, Try.ntmps32
  go_wp2_with fail
  go_step3
  go_wp2_with fail
  refine (valid_any _ _ _).mono ?_; rintro e w1 ⟨rfl, hb1⟩; rw [HV.out]
  have HB1 := Lib.hid hb1; clear hb1
  go_wp2_with fail
  rw [Exit.noGoto_ret]
  go_ret
  refine ⟨ret_i64 (by unfold idx; rw [if_neg (by rw [HV.out]; simp)]), ?_⟩
  have hb := HB1.out
  (repeat (first | exact Below.refl _ _ | (refine Below.drew ?_) | (refine below_drewN ?_ _) | (refine Below.alloc ?_ (by first | omega | (simp <;> omega)) _) | (refine Below.setCell ?_ (by first | omega | (simp <;> omega)) _) | (refine Below.trans ?_ (Below.mono (by assumption) (by first | omega | (simp <;> omega))))))
set_option maxHeartbeats 4000000 in
theorem index_yes (x y : Int) (w : World) (hv : vldB x y = true) :
    Calls Try.prog 32 #[pt x y] w fun e w' => e = .returned (.int .i64 (idx x y)) ∧ Below w.heap.size w w' := by
  have HV := Lib.hid hv; clear hv
  go_enter Try.func32, Try.ntmps32
  go_wp2_with fail
  refine wp_scope_jumps 0 (fun a' w' => ∃ (k : Nat) (n x' y' : Int) (u5 u6 u7 u8 u9 u10 u11 u12 u13 u14 u15 u16 u17 u18 u19 u20 u21 u22 u23 u24 u25 : Value), a' = { tmps := #[pt x y, .pointer (some ⟨w.heap.size, 0, none⟩), .int .i64 0, .int .i64 n, .int .i64 (2 ^ k), u5, u6, u7, u8, u9, u10, u11, u12, u13, u14, u15, u16, u17, u18, u19, u20, u21, u22, u23, u24, u25], defers := [] } ∧ Hid (Sx k n x' y' x y) ∧ Hid (Below w.heap.size w w') ∧ Hid (Pb w' w.heap.size x' y')) (fun a' _ => (intOf (a'.tmps.getD 4 undef)).toNat) rfl ?_ ?_
  · go_wp2_with fail
    refine (valid_any _ _ _).mono ?_; rintro e w1 ⟨rfl, hb1⟩; rw [HV.out]
    have HP := Lib.hid ((Pb.new w x y).below hb1 (by simp))
    have HB := Lib.hid (((Below.refl w.heap.size w).alloc (Nat.le_refl _) _).trans (hb1.mono (by simp)))
    clear hb1
    go_wp2_with fail
    go_step3
    obtain ⟨v1, v2, v3, v4⟩ := vldB_iff.1 HV.out
    have HS : Hid (Sx 14 0 x y x y) := by
      exact ⟨by omega, ⟨by omega, by decide⟩, rfl, v1, by omega, v3, by omega⟩
    clear v1 v2 v3 v4
    obtain ⟨hk, hn, ha, x0, x1, y0, y1⟩ := HS.out
    obtain ⟨q, x2, y2, hq, hc, hs, z0, z1, t0, t1⟩ := hstep 14 0 x y x0 x1 y0 y1
    obtain ⟨c0, c1, cf⟩ := HP.out.facts
    have hg : w.heap.size < w1.heap.size := HP.out.lt
    have HQB : Hid (0 ≤ q ∧ q ≤ 3) := by show 0 ≤ q ∧ q ≤ 3; omega
    have HSX : Hid (Sx 13 (4 * 0 + q) x2 y2 x y) := by
      exact ⟨by omega, hn.next HQB.out.1 HQB.out.2, hs.symm.trans ha, z0, by omega, t0, by omega⟩
    rw [show (2 : Int) ^ 14 = 16384 from rfl] at hq hc x1 y1 z1 t1
    have HQ := Lib.hid hq
    clear hq ha hs hn hk HS z0 z1 t0 t1
    rcases hc with ⟨rfl, rfl, rfl⟩ | ⟨rfl, rfl, rfl⟩ | ⟨rfl, rfl, rfl⟩ | ⟨rfl, rfl, rfl⟩
    all_goals
      go_wp2_with fail
      refine (quadrant_any _ _ _ _ (by omega) (by omega) x0 x1 y0 y1).mono ?_; rintro e w2 ⟨rfl, hb2⟩; rw [HQ.out]
      have HP2 := HP.out.below hb2 hg
      obtain ⟨d0, d1, df⟩ := HP2.facts
      have hg2 : w.heap.size < w2.heap.size := HP2.lt
      have HB2 := Lib.hid (HB.out.trans (hb2.mono HB.out.size))
      have HP3 := Lib.hid HP2
      clear hb2 HP2
      go_wp2_with fail
      refine (inner_any _ _ _ _ (by omega) (by omega) x0 x1 y0 y1).mono ?_; rintro e w3 ⟨rfl, hb3⟩
      have HP4 := HP3.out.below hb3 hg2
      obtain ⟨f0, f1, ff⟩ := HP4.facts
      have HP5 := Lib.hid HP4
      have HB3 := Lib.hid (HB2.out.trans (hb3.mono HB2.out.size))
      clear hb3 HP4 d0 d1 df
      go_wp2_with fail
      first | rw [ix0] | rw [ix1] | rw [ix2] | rw [ix3]
      go_wp2
      go_step3
      rw [show (8192 : Int) = 2 ^ 13 from rfl]
      refine ⟨rfl, ⟨13, _, _, _, _, _, _, _, _, _, _, _, _, _, _, _, _, _, _, _, _, _, _, _, _, rfl, ?_, ?_, HP5.out.set _ _⟩⟩
      · have s := HSX.out
        simpa [Hid] using s
      · exact ((HB3.out.setCell (by simp) _).setCell (by simp) _)
  · rintro a' wr ⟨k, n, x', y', u5, u6, u7, u8, u9, u10, u11, u12, u13, u14, u15, u16, u17, u18, u19, u20, u21, u22, u23, u24, u25, rfl, HS, HB, HP⟩
    obtain ⟨hk, hn, ha, x0, x1, y0, y1⟩ := HS.out
    obtain ⟨q, x2, y2, hq, hc, hs, z0, z1, t0, t1⟩ := hstep k n x' y' x0 x1 y0 y1
    obtain ⟨c0, c1, cf⟩ := HP.out.facts
    have hg : w.heap.size < wr.heap.size := HP.out.lt
    obtain ⟨nb0, nb1⟩ := hn.bd
    have hp := p2pos k
    have hp2 := p2le hk
    have HQB : Hid (0 ≤ q ∧ q ≤ 3) := by show 0 ≤ q ∧ q ≤ 3; omega
    have hcase : (k = 0) ∨ (∃ j, k = j + 1) := by cases k with | zero => exact Or.inl rfl | succ j => exact Or.inr ⟨j, rfl⟩
    rcases hcase with rfl | ⟨j, rfl⟩
    · rw [show (2 : Int) ^ 0 = 1 from rfl] at hq hc x1 y1 z1 t1 hp hp2 ⊢
      have HQ := Lib.hid hq; have HA := Lib.hid (hs.symm.trans ha)
      clear hq ha hs hn hk HS z0 z1 t0 t1 hp hp2
      rcases hc with ⟨rfl, rfl, rfl⟩ | ⟨rfl, rfl, rfl⟩ | ⟨rfl, rfl, rfl⟩ | ⟨rfl, rfl, rfl⟩
      all_goals
        go_wp2_with fail
        refine (quadrant_any _ _ _ _ (by omega) (by omega) x0 x1 y0 y1).mono ?_; rintro e w2 ⟨rfl, hb2⟩; rw [HQ.out]
        have HP2 := HP.out.below hb2 hg
        obtain ⟨d0, d1, df⟩ := HP2.facts
        have hg2 : w.heap.size < w2.heap.size := HP2.lt
        have HB2 := Lib.hid (HB.out.trans (hb2.mono HB.out.size))
        have HP3 := Lib.hid HP2
        clear hb2 HP2
        go_wp2_with fail
        refine (inner_any _ _ _ _ (by omega) (by omega) x0 x1 y0 y1).mono ?_; rintro e w3 ⟨rfl, hb3⟩
        have HP4 := HP3.out.below hb3 hg2
        obtain ⟨f0, f1, ff⟩ := HP4.facts
        have HP5 := Lib.hid HP4
        have HB3 := Lib.hid (HB2.out.trans (hb3.mono HB2.out.size))
        clear hb3 HP4 d0 d1 df
        go_wp2_with fail
        first | rw [ix0] | rw [ix1] | rw [ix2] | rw [ix3]
        go_wp2
        simp only [Exit.jump]
        go_ret
        refine ⟨ret_i64 ?_, ?_⟩
        · rw [idx, if_pos HV.out, ← HA.out]; simp [hAcc]
        · have hb := HB3.out
          exact (hb.setCell (by simp) _).setCell (by simp) _
    · have hh2 := p2 j
      obtain ⟨g, hgg⟩ : ∃ g : Int, 2 ^ j = g := ⟨_, rfl⟩
      have hgp : 0 < g := by rw [← hgg]; exact p2pos j
      rw [hgg] at hh2
      obtain ⟨h, hh⟩ : ∃ h : Int, 2 ^ (j + 1) = h := ⟨_, rfl⟩
      rw [hh] at hq hc x1 y1 z1 t1 hp hp2 hh2 ⊢
      have hd : h.tdiv 2 = g := by rw [hh2]; exact Int.mul_tdiv_cancel_left g (by omega)
      have hgb : g ≤ 8192 := by omega
      have HQ := Lib.hid hq; have HH := Lib.hid hh; have HA := Lib.hid (hs.symm.trans ha); have HN := Lib.hid hn; have HK := Lib.hid hk; have HG := Lib.hid hgg; have HH2 := Lib.hid hh2
      have ZB := Lib.hid (show 0 ≤ x2 ∧ x2 < h ∧ 0 ≤ y2 ∧ y2 < h from ⟨z0, z1, t0, t1⟩)
      clear hq hh ha hs hn hk HS z0 z1 t0 t1 hgg hh2
      have HSX : Hid (Sx j (4 * n + q) x2 y2 x y) := by
        obtain ⟨z0, z1, t0, t1⟩ := ZB.out
        have e := HH2.out; have f := HG.out; have hk := HK.out
        exact ⟨by omega, HN.out.next HQB.out.1 HQB.out.2, HA.out, z0, by omega, t0, by omega⟩
      rcases hc with ⟨rfl, rfl, rfl⟩ | ⟨rfl, rfl, rfl⟩ | ⟨rfl, rfl, rfl⟩ | ⟨rfl, rfl, rfl⟩
      all_goals
        go_wp2_with fail
        refine (quadrant_any _ _ _ _ hp hp2 x0 x1 y0 y1).mono ?_; rintro e w2 ⟨rfl, hb2⟩; rw [HQ.out]
        have HP2 := HP.out.below hb2 hg
        obtain ⟨d0, d1, df⟩ := HP2.facts
        have hg2 : w.heap.size < w2.heap.size := HP2.lt
        have HB2 := Lib.hid (HB.out.trans (hb2.mono HB.out.size))
        have HP3 := Lib.hid HP2
        clear hb2 HP2
        go_wp2_with fail
        refine (inner_any _ _ _ _ hp hp2 x0 x1 y0 y1).mono ?_; rintro e w3 ⟨rfl, hb3⟩
        have HP4 := HP3.out.below hb3 hg2
        obtain ⟨f0, f1, ff⟩ := HP4.facts
        have HP5 := Lib.hid HP4
        have HB3 := Lib.hid (HB2.out.trans (hb3.mono HB2.out.size))
        clear hb3 HP4 d0 d1 df
        go_wp2_with fail
        first | rw [ix0] | rw [ix1] | rw [ix2] | rw [ix3]
        go_wp2
        go_step3
        rw [← HG.out]
        refine ⟨rfl, ⟨⟨j, _, _, _, _, _, _, _, _, _, _, _, _, _, _, _, _, _, _, _, _, _, _, _, _, rfl, ?_, ?_, HP5.out.set _ _⟩, ?_⟩⟩
        · have s := HSX.out
          first | exact s | (rw [Int.add_zero] at s; exact s)
        · exact ((HB3.out.setCell (by simp) _).setCell (by simp) _)
        · have e1 := HG.out; have e2 := HH2.out; simp [intOf, e1]; omega
theorem index_any (x y : Int) (w : World) :
    Calls Try.prog 32 #[pt x y] w fun e w' => e = .returned (.int .i64 (idx x y)) ∧ Below w.heap.size w w' := by
  cases hv : vldB x y
  · exact index_no x y w hv
  · exact index_yes x y w hv
end Go.Proofs.Ytdiigackkbnkmaa
