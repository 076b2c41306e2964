/- Tiles: Box, Of, Parent, Less and their references. -/
import Derived.Test.YtoibhapjkeakbaaWc
namespace Go.Proofs.Ytoibhapjkeakbaa
open Go.ChangeShapes Go.WideShapes Go.ChangeAt Go.RowKit Go.Joins Go.Deep

def qB (z x y : Int) : Int × Int × Int × Int := if goodT z x y = true then (x * siz z, y * siz z, (x + 1) * siz z, (y + 1) * siz z) else (0, 0, 0, 0)
abbrev bxT (z x y : Int) : Value := .tuple #[bx (qB z x y).1 (qB z x y).2.1 (qB z x y).2.2.1 (qB z x y).2.2.2, .int .i64 (chkT z x y)]
theorem ret_be {a b c d e x y z u v : Int} (h1 : a = x) (h2 : b = y) (h3 : c = z) (h4 : d = u) (h5 : e = v) : Ending.returned (.tuple #[bx a b c d, .int .i64 e]) = .returned (.tuple #[bx x y z u, .int .i64 v]) := by rw [h1, h2, h3, h4, h5]
theorem mul_in {x n s : Int} (h0 : 0 ≤ x) (h1 : x < n) (hs : 0 ≤ s) (e : s * n = 32768) : 0 ≤ x * s ∧ x * s ≤ 32768 ∧ 0 ≤ (x + 1) * s ∧ (x + 1) * s ≤ 32768 := by
  have a1 : 0 ≤ x * s := Int.mul_nonneg h0 hs
  have a2 : x * s ≤ n * s := Int.mul_le_mul_of_nonneg_right (by omega) hs
  have a3 : 0 ≤ (x + 1) * s := Int.mul_nonneg (by omega) hs
  have a4 : (x + 1) * s ≤ n * s := Int.mul_le_mul_of_nonneg_right (by omega) hs
  rw [Int.mul_comm] at e
  omega
set_option maxHeartbeats 2000000 in
theorem boxT_any (z x y : Int) (w : World) :
    Calls Try.prog 9 #[tl z x y] w fun e w' => e = .returned (bxT z x y) ∧ Below w.heap.size w w' := by
  cases hg : goodT z x y
  · have HC := Lib.hid (show chkT z x y = 16 by unfold chkT; rw [if_neg (by rw [hg]; simp)])
    have HQ := Lib.hid (show qB z x y = (0, 0, 0, 0) by unfold qB; rw [if_neg (by rw [hg]; simp)])
    clear hg
    go_enter Try.func9, Try.ntmps9
    go_wp2_with fail
    refine (checkT_any _ _ _ _).mono ?_; rintro e w1 ⟨rfl, hb1⟩; rw [HC.out]
    obtain ⟨hc1, hf1⟩ := bcell hb1
    have hz10 : w.heap.size < w1.heap.size := by have := hb1.size; (try simp at this); omega
    have hz11 : w.heap.size + 1 < w1.heap.size := by have := hb1.size; (try simp at this); omega
    have HB1 := Lib.hid hb1; clear hb1
    go_wp2_with fail
    refine bodyPost_ret (by simp [results, Try.results9, go_sem, hc1]; rfl) rfl ⟨?_, ?_⟩
    · exact ret_be (by rw [HQ.out]) (by rw [HQ.out]) (by rw [HQ.out]) (by rw [HQ.out]) HC.out.symm
    · have hb1 := HB1.out
      (repeat (first | exact Below.refl _ _ | (refine Below.drew ?_) | (refine below_drewN ?_ _) | (refine Below.alloc ?_ (by first | omega | (simp <;> omega)) _) | (refine Below.setCell ?_ (by first | omega | (simp <;> omega)) _) | (refine Below.trans ?_ (Below.mono (by assumption) (by first | omega | (simp <;> omega))))))
  · have HC := Lib.hid (show chkT z x y = 0 by unfold chkT; rw [if_pos hg])
    have HQ := Lib.hid (show qB z x y = (x * siz z, y * siz z, (x + 1) * siz z, (y + 1) * siz z) by unfold qB; rw [if_pos hg])
    obtain ⟨g0, g1, g2, g3, g4, g5⟩ := goodT_iff.1 hg
    obtain ⟨_, e2, e3, e4⟩ := siz_in g0 g1
    obtain ⟨b1, b2, b3, b4⟩ := mul_in g2 g3 (by omega) e2
    obtain ⟨d1, d2, d3, d4⟩ := mul_in g4 g5 (by omega) e2
    have cb := (cnt_bd g0 g1).2
    have g3b : x ≤ 127 := by omega
    have g5b : y ≤ 127 := by omega
    clear hg e2 g3 g5 cb
    obtain ⟨s, hs⟩ : ∃ s, siz z = s := ⟨_, rfl⟩
    rw [hs] at HQ b1 b2 b3 b4 d1 d2 d3 d4 e3 e4
    have HS := Lib.hid hs; clear hs
    go_enter Try.func9, Try.ntmps9
    go_wp2_with fail
    refine (checkT_any _ _ _ _).mono ?_; rintro e w1 ⟨rfl, hb1⟩; rw [HC.out]
    obtain ⟨hc1, hf1⟩ := bcell hb1
    have hz10 : w.heap.size < w1.heap.size := by have := hb1.size; (try simp at this); omega
    have hz11 : w.heap.size + 1 < w1.heap.size := by have := hb1.size; (try simp at this); omega
    have HB1 := Lib.hid hb1; clear hb1
    go_wp2_with fail
    refine (size_any _ _).mono ?_; rintro e w2 ⟨rfl, rfl⟩; rw [HS.out]
    go_wp2_with fail
    refine bodyPost_ret (by simp [results, Try.results9, go_sem, hc1]; rfl) rfl ⟨?_, ?_⟩
    · exact ret_be (by rw [HQ.out]) (by rw [HQ.out]) (by rw [HQ.out]) (by rw [HQ.out]) HC.out.symm
    · have hb1 := HB1.out
      (repeat (first | exact Below.refl _ _ | (refine Below.drew ?_) | (refine below_drewN ?_ _) | (refine Below.alloc ?_ (by first | omega | (simp <;> omega)) _) | (refine Below.setCell ?_ (by first | omega | (simp <;> omega)) _) | (refine Below.trans ?_ (Below.mono (by assumption) (by first | omega | (simp <;> omega))))))

set_option maxHeartbeats 2000000 in
theorem boxTr_any (z x y : Int) (w : World) :
    Calls Try.prog 10 #[tl z x y] w fun e w' => e = .returned (bxT z x y) ∧ Below w.heap.size w w' := by
  cases hg : goodT z x y
  · have HC := Lib.hid (show chkT z x y = 16 by unfold chkT; rw [if_neg (by rw [hg]; simp)])
    have HQ := Lib.hid (show qB z x y = (0, 0, 0, 0) by unfold qB; rw [if_neg (by rw [hg]; simp)])
    clear hg
    go_enter Try.func10, Try.ntmps10
    go_wp2_with fail
    refine (checkTr_any _ _ _ _).mono ?_; rintro e w1 ⟨rfl, hb1⟩; rw [HC.out]
    obtain ⟨hc1, hf1⟩ := bcell hb1
    have hz10 : w.heap.size < w1.heap.size := by have := hb1.size; (try simp at this); omega
    have hz11 : w.heap.size + 1 < w1.heap.size := by have := hb1.size; (try simp at this); omega
    have HB1 := Lib.hid hb1; clear hb1
    go_wp2_with fail
    refine bodyPost_ret (by simp [results, Try.results10, go_sem, hc1]; rfl) rfl ⟨?_, ?_⟩
    · exact ret_be (by rw [HQ.out]) (by rw [HQ.out]) (by rw [HQ.out]) (by rw [HQ.out]) HC.out.symm
    · have hb1 := HB1.out
      (repeat (first | exact Below.refl _ _ | (refine Below.drew ?_) | (refine below_drewN ?_ _) | (refine Below.alloc ?_ (by first | omega | (simp <;> omega)) _) | (refine Below.setCell ?_ (by first | omega | (simp <;> omega)) _) | (refine Below.trans ?_ (Below.mono (by assumption) (by first | omega | (simp <;> omega))))))
  · have HC := Lib.hid (show chkT z x y = 0 by unfold chkT; rw [if_pos hg])
    have HQ := Lib.hid (show qB z x y = (x * siz z, y * siz z, (x + 1) * siz z, (y + 1) * siz z) by unfold qB; rw [if_pos hg])
    obtain ⟨g0, g1, g2, g3, g4, g5⟩ := goodT_iff.1 hg
    obtain ⟨_, e2, e3, e4⟩ := siz_in g0 g1
    obtain ⟨b1, b2, b3, b4⟩ := mul_in g2 g3 (by omega) e2
    obtain ⟨d1, d2, d3, d4⟩ := mul_in g4 g5 (by omega) e2
    have cb := (cnt_bd g0 g1).2
    have g3b : x ≤ 127 := by omega
    have g5b : y ≤ 127 := by omega
    clear hg e2 g3 g5 cb
    obtain ⟨s, hs⟩ : ∃ s, siz z = s := ⟨_, rfl⟩
    rw [hs] at HQ b1 b2 b3 b4 d1 d2 d3 d4 e3 e4
    have HS := Lib.hid hs; clear hs
    go_enter Try.func10, Try.ntmps10
    go_wp2_with fail
    refine (checkTr_any _ _ _ _).mono ?_; rintro e w1 ⟨rfl, hb1⟩; rw [HC.out]
    obtain ⟨hc1, hf1⟩ := bcell hb1
    have hz10 : w.heap.size < w1.heap.size := by have := hb1.size; (try simp at this); omega
    have hz11 : w.heap.size + 1 < w1.heap.size := by have := hb1.size; (try simp at this); omega
    have HB1 := Lib.hid hb1; clear hb1
    go_wp2_with fail
    refine (sizer_any _ _).mono ?_; rintro e w2 ⟨rfl, rfl⟩; rw [HS.out]
    go_wp2_with fail
    refine bodyPost_ret (by simp [results, Try.results10, go_sem, hc1]; rfl) rfl ⟨?_, ?_⟩
    · exact ret_be (by rw [HQ.out]) (by rw [HQ.out]) (by rw [HQ.out]) (by rw [HQ.out]) HC.out.symm
    · have hb1 := HB1.out
      (repeat (first | exact Below.refl _ _ | (refine Below.drew ?_) | (refine below_drewN ?_ _) | (refine Below.alloc ?_ (by first | omega | (simp <;> omega)) _) | (refine Below.setCell ?_ (by first | omega | (simp <;> omega)) _) | (refine Below.trans ?_ (Below.mono (by assumption) (by first | omega | (simp <;> omega))))))

/-OF-/
def ofT (x y z : Int) : Value := if vldB x y = true then (if 0 ≤ z ∧ z ≤ 7 then .tuple #[tl z (x / siz z) (y / siz z), .int .i64 0] else .tuple #[tl 0 0 0, .int .i64 2]) else .tuple #[tl 0 0 0, .int .i64 11]
theorem of_bad {x y z : Int} (h : vldB x y = false) : Ending.returned (ofT x y z) = .returned (.tuple #[tl 0 0 0, .int .i64 11]) := by unfold ofT; rw [if_neg (by rw [h]; simp)]
theorem of_ok {x y z : Int} (h : vldB x y = true) (h0 : 0 ≤ z) (h1 : z ≤ 7) : Ending.returned (ofT x y z) = .returned (.tuple #[tl z (x / siz z) (y / siz z), .int .i64 0]) := by unfold ofT; rw [if_pos h, if_pos ⟨h0, h1⟩]
theorem of_out {x y z : Int} (h : vldB x y = true) (h0 : ¬ (0 ≤ z ∧ z ≤ 7)) : Ending.returned (ofT x y z) = .returned (.tuple #[tl 0 0 0, .int .i64 2]) := by unfold ofT; rw [if_pos h, if_neg h0]
def parT (z x y : Int) : Value := if goodT z x y = true ∧ z ≠ 0 then .tuple #[tl (z - 1) (x / 2) (y / 2), .bool true] else .tuple #[tl 0 0 0, .bool false]
theorem par_no {z x y : Int} (h : goodT z x y = false ∨ z = 0) : Ending.returned (parT z x y) = .returned (.tuple #[tl 0 0 0, .bool false]) := by
  unfold parT; rw [if_neg (by rintro ⟨a, b⟩; rcases h with h | h; (rw [h] at a; cases a); exact b h)]
theorem par_yes {z x y : Int} (h : goodT z x y = true) (h0 : z ≠ 0) : Ending.returned (parT z x y) = .returned (.tuple #[tl (z - 1) (x / 2) (y / 2), .bool true]) := by
  unfold parT; rw [if_pos ⟨h, h0⟩]
def lessT (z x y u v t : Int) : Bool := decide (z < u ∨ (z = u ∧ (y < t ∨ (y = t ∧ x < v))))
set_option maxHeartbeats 2000000 in
theorem lessT_any (z x y u v t : Int) (w : World) :
    Calls Try.prog 25 #[tl z x y, tl u v t] w fun e w' => e = .returned (.bool (lessT z x y u v t)) ∧ Below w.heap.size w w' := by
  by_cases h1 : z = u
  · subst h1
    by_cases h2 : y = t
    · subst h2
      have HE := Lib.hid (show lessT z x y z v y = decide (x < v) by unfold lessT; simp)
      go_enter Try.func25, Try.ntmps25
      go_wp2
      all_goals go_ret
      all_goals refine ⟨ret_bool (by rw [HE.out]), ?_⟩
      all_goals (repeat (first | exact Below.refl _ _ | (refine Below.drew ?_) | (refine below_drewN ?_ _) | (refine Below.alloc ?_ (by first | omega | (simp <;> omega)) _) | (refine Below.setCell ?_ (by first | omega | (simp <;> omega)) _) | (refine Below.trans ?_ (Below.mono (by assumption) (by first | omega | (simp <;> omega))))))
    · have HE := Lib.hid (show lessT z x y z v t = decide (y < t) by unfold lessT; simp [h2])
      go_enter Try.func25, Try.ntmps25
      go_wp2
      all_goals go_ret
      all_goals refine ⟨ret_bool (by rw [HE.out]), ?_⟩
      all_goals (repeat (first | exact Below.refl _ _ | (refine Below.drew ?_) | (refine below_drewN ?_ _) | (refine Below.alloc ?_ (by first | omega | (simp <;> omega)) _) | (refine Below.setCell ?_ (by first | omega | (simp <;> omega)) _) | (refine Below.trans ?_ (Below.mono (by assumption) (by first | omega | (simp <;> omega))))))
  · have HE := Lib.hid (show lessT z x y u v t = decide (z < u) by unfold lessT; simp [h1])
    go_enter Try.func25, Try.ntmps25
    go_wp2
    all_goals go_ret
    all_goals refine ⟨ret_bool (by rw [HE.out]), ?_⟩
    all_goals (repeat (first | exact Below.refl _ _ | (refine Below.drew ?_) | (refine below_drewN ?_ _) | (refine Below.alloc ?_ (by first | omega | (simp <;> omega)) _) | (refine Below.setCell ?_ (by first | omega | (simp <;> omega)) _) | (refine Below.trans ?_ (Below.mono (by assumption) (by first | omega | (simp <;> omega))))))
set_option maxHeartbeats 2000000 in
theorem lessTr_any (z x y u v t : Int) (w : World) :
    Calls Try.prog 26 #[tl z x y, tl u v t] w fun e w' => e = .returned (.bool (lessT z x y u v t)) ∧ Below w.heap.size w w' := by
  by_cases h1 : z = u
  · subst h1
    by_cases h2 : y = t
    · subst h2
      have HE := Lib.hid (show lessT z x y z v y = decide (x < v) by unfold lessT; simp)
      go_enter Try.func26, Try.ntmps26
      go_wp2
      all_goals go_ret
      all_goals refine ⟨ret_bool (by rw [HE.out]), ?_⟩
      all_goals (repeat (first | exact Below.refl _ _ | (refine Below.drew ?_) | (refine below_drewN ?_ _) | (refine Below.alloc ?_ (by first | omega | (simp <;> omega)) _) | (refine Below.setCell ?_ (by first | omega | (simp <;> omega)) _) | (refine Below.trans ?_ (Below.mono (by assumption) (by first | omega | (simp <;> omega))))))
    · have HE := Lib.hid (show lessT z x y z v t = decide (y < t) by unfold lessT; simp [h2])
      go_enter Try.func26, Try.ntmps26
      go_wp2
      all_goals go_ret
      all_goals refine ⟨ret_bool (by rw [HE.out]), ?_⟩
      all_goals (repeat (first | exact Below.refl _ _ | (refine Below.drew ?_) | (refine below_drewN ?_ _) | (refine Below.alloc ?_ (by first | omega | (simp <;> omega)) _) | (refine Below.setCell ?_ (by first | omega | (simp <;> omega)) _) | (refine Below.trans ?_ (Below.mono (by assumption) (by first | omega | (simp <;> omega))))))
  · have HE := Lib.hid (show lessT z x y u v t = decide (z < u) by unfold lessT; simp [h1])
    go_enter Try.func26, Try.ntmps26
    go_wp2
    all_goals go_ret
    all_goals refine ⟨ret_bool (by rw [HE.out]), ?_⟩
    all_goals (repeat (first | exact Below.refl _ _ | (refine Below.drew ?_) | (refine below_drewN ?_ _) | (refine Below.alloc ?_ (by first | omega | (simp <;> omega)) _) | (refine Below.setCell ?_ (by first | omega | (simp <;> omega)) _) | (refine Below.trans ?_ (Below.mono (by assumption) (by first | omega | (simp <;> omega))))))
set_option maxHeartbeats 2000000 in
theorem parT_any (z x y : Int) (w : World) :
    Calls Try.prog 18 #[tl z x y] w fun e w' => e = .returned (parT z x y) ∧ Below w.heap.size w w' := by
  cases hg : goodT z x y
  · have HC := Lib.hid (show chkT z x y = 16 by unfold chkT; rw [if_neg (by rw [hg]; simp)])
    have HQ := Lib.hid (par_no (z := z) (x := x) (y := y) (Or.inl hg))
    clear hg
    go_enter Try.func18, Try.ntmps18
    go_wp2_with fail
    refine (checkT_any _ _ _ _).mono ?_; rintro e w1 ⟨rfl, hb1⟩; rw [HC.out]
    obtain ⟨hc1, hf1⟩ := bcell hb1
    have hz10 : w.heap.size < w1.heap.size := by have := hb1.size; (try simp at this); omega
    have hz11 : w.heap.size + 1 < w1.heap.size := by have := hb1.size; (try simp at this); omega
    have HB1 := Lib.hid hb1; clear hb1
    go_wp2_with fail
    refine bodyPost_ret (by simp [results, Try.results18, go_sem, hc1]; rfl) rfl ⟨?_, ?_⟩
    · exact HQ.out.symm
    · have hb1 := HB1.out
      (repeat (first | exact Below.refl _ _ | (refine Below.drew ?_) | (refine below_drewN ?_ _) | (refine Below.alloc ?_ (by first | omega | (simp <;> omega)) _) | (refine Below.setCell ?_ (by first | omega | (simp <;> omega)) _) | (refine Below.trans ?_ (Below.mono (by assumption) (by first | omega | (simp <;> omega))))))
  · have HC := Lib.hid (show chkT z x y = 0 by unfold chkT; rw [if_pos hg])
    obtain ⟨g0, g1, g2, g3, g4, g5⟩ := goodT_iff.1 hg
    have cb := (cnt_bd g0 g1).2
    have g3b : x ≤ 127 := by omega
    have g5b : y ≤ 127 := by omega
    clear g3 g5 cb
    by_cases hz : z = 0
    · have HQ := Lib.hid (par_no (z := z) (x := x) (y := y) (Or.inr hz))
      subst hz
      clear hg
      go_enter Try.func18, Try.ntmps18
      go_wp2_with fail
      refine (checkT_any _ _ _ _).mono ?_; rintro e w1 ⟨rfl, hb1⟩; rw [HC.out]
      obtain ⟨hc1, hf1⟩ := bcell hb1
      have hz10 : w.heap.size < w1.heap.size := by have := hb1.size; (try simp at this); omega
      have hz11 : w.heap.size + 1 < w1.heap.size := by have := hb1.size; (try simp at this); omega
      have HB1 := Lib.hid hb1; clear hb1
      go_wp2_with fail
      refine bodyPost_ret (by simp [results, Try.results18, go_sem, hc1]; rfl) rfl ⟨?_, ?_⟩
      · exact HQ.out.symm
      · have hb1 := HB1.out
        (repeat (first | exact Below.refl _ _ | (refine Below.drew ?_) | (refine below_drewN ?_ _) | (refine Below.alloc ?_ (by first | omega | (simp <;> omega)) _) | (refine Below.setCell ?_ (by first | omega | (simp <;> omega)) _) | (refine Below.trans ?_ (Below.mono (by assumption) (by first | omega | (simp <;> omega))))))
    · have HQ := Lib.hid (par_yes hg hz)
      have hzb : (z == 0) = false := by simpa using hz
      clear hg
      have tx : x.tdiv 2 = x / 2 := Int.tdiv_eq_ediv_of_nonneg g2
      have ty : y.tdiv 2 = y / 2 := Int.tdiv_eq_ediv_of_nonneg g4
      go_enter Try.func18, Try.ntmps18
      go_wp2_with fail
      refine (checkT_any _ _ _ _).mono ?_; rintro e w1 ⟨rfl, hb1⟩; rw [HC.out]
      obtain ⟨hc1, hf1⟩ := bcell hb1
      have hz10 : w.heap.size < w1.heap.size := by have := hb1.size; (try simp at this); omega
      have hz11 : w.heap.size + 1 < w1.heap.size := by have := hb1.size; (try simp at this); omega
      have HB1 := Lib.hid hb1; clear hb1
      go_wp2_with fail
      refine bodyPost_ret (by simp [results, Try.results18, go_sem, hc1]; rfl) rfl ⟨?_, ?_⟩
      · exact HQ.out.symm
      · have hb1 := HB1.out
        (repeat (first | exact Below.refl _ _ | (refine Below.drew ?_) | (refine below_drewN ?_ _) | (refine Below.alloc ?_ (by first | omega | (simp <;> omega)) _) | (refine Below.setCell ?_ (by first | omega | (simp <;> omega)) _) | (refine Below.trans ?_ (Below.mono (by assumption) (by first | omega | (simp <;> omega))))))
set_option maxHeartbeats 2000000 in
theorem parTr_any (z x y : Int) (w : World) :
    Calls Try.prog 19 #[tl z x y] w fun e w' => e = .returned (parT z x y) ∧ Below w.heap.size w w' := by
  cases hg : goodT z x y
  · have HC := Lib.hid (show chkT z x y = 16 by unfold chkT; rw [if_neg (by rw [hg]; simp)])
    have HQ := Lib.hid (par_no (z := z) (x := x) (y := y) (Or.inl hg))
    clear hg
    go_enter Try.func19, Try.ntmps19
    go_wp2_with fail
    refine (checkTr_any _ _ _ _).mono ?_; rintro e w1 ⟨rfl, hb1⟩; rw [HC.out]
    obtain ⟨hc1, hf1⟩ := bcell hb1
    have hz10 : w.heap.size < w1.heap.size := by have := hb1.size; (try simp at this); omega
    have hz11 : w.heap.size + 1 < w1.heap.size := by have := hb1.size; (try simp at this); omega
    have HB1 := Lib.hid hb1; clear hb1
    go_wp2_with fail
    refine bodyPost_ret (by simp [results, Try.results19, go_sem, hc1]; rfl) rfl ⟨?_, ?_⟩
    · exact HQ.out.symm
    · have hb1 := HB1.out
      (repeat (first | exact Below.refl _ _ | (refine Below.drew ?_) | (refine below_drewN ?_ _) | (refine Below.alloc ?_ (by first | omega | (simp <;> omega)) _) | (refine Below.setCell ?_ (by first | omega | (simp <;> omega)) _) | (refine Below.trans ?_ (Below.mono (by assumption) (by first | omega | (simp <;> omega))))))
  · have HC := Lib.hid (show chkT z x y = 0 by unfold chkT; rw [if_pos hg])
    obtain ⟨g0, g1, g2, g3, g4, g5⟩ := goodT_iff.1 hg
    have cb := (cnt_bd g0 g1).2
    have g3b : x ≤ 127 := by omega
    have g5b : y ≤ 127 := by omega
    clear g3 g5 cb
    by_cases hz : z = 0
    · have HQ := Lib.hid (par_no (z := z) (x := x) (y := y) (Or.inr hz))
      subst hz
      clear hg
      go_enter Try.func19, Try.ntmps19
      go_wp2_with fail
      refine (checkTr_any _ _ _ _).mono ?_; rintro e w1 ⟨rfl, hb1⟩; rw [HC.out]
      obtain ⟨hc1, hf1⟩ := bcell hb1
      have hz10 : w.heap.size < w1.heap.size := by have := hb1.size; (try simp at this); omega
      have hz11 : w.heap.size + 1 < w1.heap.size := by have := hb1.size; (try simp at this); omega
      have HB1 := Lib.hid hb1; clear hb1
      go_wp2_with fail
      refine bodyPost_ret (by simp [results, Try.results19, go_sem, hc1]; rfl) rfl ⟨?_, ?_⟩
      · exact HQ.out.symm
      · have hb1 := HB1.out
        (repeat (first | exact Below.refl _ _ | (refine Below.drew ?_) | (refine below_drewN ?_ _) | (refine Below.alloc ?_ (by first | omega | (simp <;> omega)) _) | (refine Below.setCell ?_ (by first | omega | (simp <;> omega)) _) | (refine Below.trans ?_ (Below.mono (by assumption) (by first | omega | (simp <;> omega))))))
    · have HQ := Lib.hid (par_yes hg hz)
      have hzb : (z == 0) = false := by simpa using hz
      clear hg
      have tx : x.tdiv 2 = x / 2 := Int.tdiv_eq_ediv_of_nonneg g2
      have ty : y.tdiv 2 = y / 2 := Int.tdiv_eq_ediv_of_nonneg g4
      go_enter Try.func19, Try.ntmps19
      go_wp2_with fail
      refine (checkTr_any _ _ _ _).mono ?_; rintro e w1 ⟨rfl, hb1⟩; rw [HC.out]
      obtain ⟨hc1, hf1⟩ := bcell hb1
      have hz10 : w.heap.size < w1.heap.size := by have := hb1.size; (try simp at this); omega
      have hz11 : w.heap.size + 1 < w1.heap.size := by have := hb1.size; (try simp at this); omega
      have HB1 := Lib.hid hb1; clear hb1
      go_wp2_with fail
      refine bodyPost_ret (by simp [results, Try.results19, go_sem, hc1]; rfl) rfl ⟨?_, ?_⟩
      · exact HQ.out.symm
      · have hb1 := HB1.out
        (repeat (first | exact Below.refl _ _ | (refine Below.drew ?_) | (refine below_drewN ?_ _) | (refine Below.alloc ?_ (by first | omega | (simp <;> omega)) _) | (refine Below.setCell ?_ (by first | omega | (simp <;> omega)) _) | (refine Below.trans ?_ (Below.mono (by assumption) (by first | omega | (simp <;> omega))))))
set_option maxHeartbeats 2000000 in
theorem ofT_any (x y z : Int) (w : World) :
    Calls Try.prog 11 #[pt x y, .int .i64 z] w fun e w' => e = .returned (ofT x y z) ∧ Below w.heap.size w w' := by
  cases hv : vldB x y
  · have HV := Lib.hid hv; 
    have HO := Lib.hid (of_bad (z := z) hv); clear hv
    go_enter Try.func11, Try.ntmps11
    go_wp2_with fail
    refine (valid_any _ _ _).mono ?_; rintro e w1 ⟨rfl, hb1⟩; rw [HV.out]
    obtain ⟨hc1, hf1⟩ := bcell hb1
    have hz10 : w.heap.size < w1.heap.size := by have := hb1.size; (try simp at this); omega
    have hz11 : w.heap.size + 1 < w1.heap.size := by have := hb1.size; (try simp at this); omega
    have HB1 := Lib.hid hb1; clear hb1
    go_wp2_with fail
    refine bodyPost_ret (by simp [results, Try.results11, go_sem, hc1]; rfl) rfl ⟨?_, ?_⟩
    · exact HO.out.symm
    · have hb1 := HB1.out
      (repeat (first | exact Below.refl _ _ | (refine Below.drew ?_) | (refine below_drewN ?_ _) | (refine Below.alloc ?_ (by first | omega | (simp <;> omega)) _) | (refine Below.setCell ?_ (by first | omega | (simp <;> omega)) _) | (refine Below.trans ?_ (Below.mono (by assumption) (by first | omega | (simp <;> omega))))))
  · have HV := Lib.hid hv
    obtain ⟨x0, x1, y0, y1⟩ := vldB_iff.1 hv
    by_cases hz : 0 ≤ z ∧ z ≤ 7
    · obtain ⟨z0, z1⟩ := hz
      have HO := Lib.hid (of_ok hv z0 z1)
      obtain ⟨_, e2, e3, e4⟩ := siz_in z0 z1
      obtain ⟨s, hs⟩ : ∃ s, siz z = s := ⟨_, rfl⟩
      rw [hs] at HO e3 e4
      have HS := Lib.hid hs
      clear hs e2 hv
      have tx : x.tdiv s = x / s := Int.tdiv_eq_ediv_of_nonneg x0
      have ty : y.tdiv s = y / s := Int.tdiv_eq_ediv_of_nonneg y0
      have q0 : 0 ≤ x / s := Int.ediv_nonneg x0 (by omega)
      have q1 : x / s ≤ x := Int.ediv_le_self s x0
      have r0 : 0 ≤ y / s := Int.ediv_nonneg y0 (by omega)
      have r1 : y / s ≤ y := Int.ediv_le_self s y0
      have ne : ¬ (s = 0) := by omega
      obtain ⟨X, hX⟩ : ∃ X, x / s = X := ⟨_, rfl⟩
      obtain ⟨Y, hY⟩ : ∃ Y, y / s = Y := ⟨_, rfl⟩
      rw [hX] at tx q0 q1 HO; rw [hY] at ty r0 r1 HO
      clear hX hY
      have wX := Lib.hid (w64 (z := X) (by omega) (by omega)); have wY := Lib.hid (w64 (z := Y) (by omega) (by omega))
      go_enter Try.func11, Try.ntmps11
      go_wp2_with fail
      refine (valid_any _ _ _).mono ?_; rintro e w1 ⟨rfl, hb1⟩; rw [HV.out]
      obtain ⟨hc1, hf1⟩ := bcell hb1
      have hz10 : w.heap.size < w1.heap.size := by have := hb1.size; (try simp at this); omega
      have hz11 : w.heap.size + 1 < w1.heap.size := by have := hb1.size; (try simp at this); omega
      have HB1 := Lib.hid hb1; clear hb1
      go_wp2_with fail
      refine (size_any _ _).mono ?_; rintro e w2 ⟨rfl, rfl⟩; rw [HS.out]
      go_wp2_with fail
      have wx := wX.out; have wy := wY.out
      go_region
      all_goals go_wp2
      all_goals
        refine bodyPost_ret (by simp [results, Try.results11, go_sem, hc1]; rfl) rfl ⟨?_, ?_⟩
        · exact HO.out.symm
        · have hb1 := HB1.out
          (repeat (first | exact Below.refl _ _ | (refine Below.drew ?_) | (refine below_drewN ?_ _) | (refine Below.alloc ?_ (by first | omega | (simp <;> omega)) _) | (refine Below.setCell ?_ (by first | omega | (simp <;> omega)) _) | (refine Below.trans ?_ (Below.mono (by assumption) (by first | omega | (simp <;> omega))))))
    · have HO := Lib.hid (of_out (x := x) (y := y) (z := z) hv hz); clear hv
      have HS := Lib.hid (siz_out (z := z) (by omega))
      go_enter Try.func11, Try.ntmps11
      go_wp2_with fail
      refine (valid_any _ _ _).mono ?_; rintro e w1 ⟨rfl, hb1⟩; rw [HV.out]
      obtain ⟨hc1, hf1⟩ := bcell hb1
      have hz10 : w.heap.size < w1.heap.size := by have := hb1.size; (try simp at this); omega
      have hz11 : w.heap.size + 1 < w1.heap.size := by have := hb1.size; (try simp at this); omega
      have HB1 := Lib.hid hb1; clear hb1
      go_wp2_with fail
      refine (size_any _ _).mono ?_; rintro e w2 ⟨rfl, rfl⟩; rw [HS.out]
      go_wp2_with fail
      refine bodyPost_ret (by simp [results, Try.results11, go_sem, hc1]; rfl) rfl ⟨?_, ?_⟩
      · exact HO.out.symm
      · have hb1 := HB1.out
        (repeat (first | exact Below.refl _ _ | (refine Below.drew ?_) | (refine below_drewN ?_ _) | (refine Below.alloc ?_ (by first | omega | (simp <;> omega)) _) | (refine Below.setCell ?_ (by first | omega | (simp <;> omega)) _) | (refine Below.trans ?_ (Below.mono (by assumption) (by first | omega | (simp <;> omega))))))
end Go.Proofs.Ytoibhapjkeakbaa
