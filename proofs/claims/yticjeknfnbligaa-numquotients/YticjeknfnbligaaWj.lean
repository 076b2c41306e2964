/- Contract: the reference's MulDiv; the walks of the laws on MulDiv. -/
import Derived.Test.YticjeknfnbligaaWi
import Derived.Test.YticjeknfnbligaaLong
namespace Go.Proofs.Yticjeknfnbligaa
open Go.ChangeShapes Go.WideShapes Go.ChangeAt Go.RowKit

theorem mdr_neg (a b c : Int) (w : World) (hc : c ≤ 0) : Calls Try.prog 23 #[.int .i64 a, .int .i64 b, .int .i64 c] w fun e w' => e = .returned (.tuple #[.int .i64 0, .bool false]) ∧ w = w' := by
  go_enter Try.func23, Try.ntmps23
  go_wp2
  go_ret2
  exact ⟨rfl, rfl⟩

theorem LI.walk {M d : Int} {i : Nat} {hi lo rest top low : Int} (h : LI M d i hi lo rest top low) (hM : 0 ≤ M) (hM2 : M < 340282366920938463463374607431768211456) (hi2 : i < 128) (hd : 0 < d) (hd2 : d < 9223372036854775808) :
    ∃ hi' lo' rest' top' low' : Int, IntKind.u64.wrap (IntKind.u64.wrap (hi * 2) + lo / 9223372036854775808) = hi' ∧ IntKind.u64.wrap (lo * 2) = lo' ∧ rest * 2 + hi / 9223372036854775808 = rest' ∧
      IntKind.u64.wrap (IntKind.u64.wrap (top * 2) + low / 9223372036854775808) = top' ∧ IntKind.u64.wrap (low * 2) = low' ∧ 0 ≤ rest' ∧ rest' < 18446744073709551616 ∧ 0 ≤ low' ∧ low' < 18446744073709551615 ∧
      (d ≤ rest' → LI M d (i + 1) hi' lo' (rest' - d) top' (low' + 1)) ∧ (rest' < d → LI M d (i + 1) hi' lo' rest' top' low') := by
  simp only [IntKind.wrap_u64]
  exact h.round hM hM2 hi2 hd hd2

/- the sign that the reference takes -/
theorem same_sign {a b : Int} (h : (!(decide (a < 0) == decide (b < 0))) = false) : ¬ psgn a b < 0 := by
  have e : (decide (a < 0) == decide (b < 0)) = true := by simpa using h
  have e2 : decide (a < 0) = decide (b < 0) := by simpa using e
  have e3 : a < 0 ↔ b < 0 := by simpa using e2
  unfold psgn
  rcases Int.lt_trichotomy a 0 with h | h | h
  · rw [sgn_lt h, sgn_lt (e3.1 h)]; omega
  · rw [sgn_eq h]; omega
  · have : ¬ b < 0 := fun k => by have := e3.2 k; omega
    rw [sgn_gt h]
    rcases Int.lt_trichotomy b 0 with k | k | k
    · omega
    · rw [sgn_eq k]; omega
    · rw [sgn_gt k]; omega
theorem other_sign {a b : Int} (h : (!(decide (a < 0) == decide (b < 0))) = true) (hm : mag a * mag b ≠ 0) : psgn a b < 0 := by
  have e : (decide (a < 0) == decide (b < 0)) = false := by simpa using h
  have e2 : decide (a < 0) ≠ decide (b < 0) := by simpa using e
  have a0 : a ≠ 0 := by rintro rfl; apply hm; unfold mag; simp
  have b0 : b ≠ 0 := by rintro rfl; apply hm; unfold mag; simp
  unfold psgn
  rcases Int.lt_trichotomy a 0 with h | h | h
  · have : ¬ b < 0 := fun k => e2 (by simp [h, k])
    rw [sgn_lt h, sgn_gt (by omega)]; omega
  · exact absurd h a0
  · have : b < 0 := by
      by_cases k : b < 0
      · exact k
      · exact absurd (by simp; omega) e2
    rw [sgn_gt h, sgn_lt this]; omega

set_option maxRecDepth 100000 in
set_option maxHeartbeats 2000000 in
theorem mdr_any (a b c : Int) (w : World) (ha : I64 a) (hb : I64 b) (hc : 0 < c) (hc2 : c ≤ 9223372036854775807) :
    Calls Try.prog 23 #[.int .i64 a, .int .i64 b, .int .i64 c] w (MulDivs a b c w) := by
  have p1 := (phi_bd a b ha hb).1; have p2 := (phi_bd a b ha hb).2
  have l1 := (plo_bd a b).1; have l2 := (plo_bd a b).2
  obtain ⟨M, hM⟩ : ∃ M, mag a * mag b = M := ⟨_, rfl⟩
  have ms := M_split a b
  rw [hM] at ms
  have m0 : 0 ≤ M := by omega
  have m1 : M < 340282366920938463463374607431768211456 := by omega
  have mA := mag_bd a ha; have mB := mag_bd b hb
  obtain ⟨ma1, ma2⟩ := mA; obtain ⟨mb1, mb2⟩ := mB
  have HA := Lib.hid ha; have HB := Lib.hid hb; have HM := Lib.hid hM; have MS := Lib.hid ms
  obtain ⟨n, hn⟩ : ∃ n : Bool, (!(decide (a < 0) == decide (b < 0))) = n := ⟨_, rfl⟩
  have HN := Lib.hid hn
  have hc0 : decide (c ≤ 0) = false := by simp; omega
  have ST := Lib.hid (LI.start M c (phi a b) (plo a b) hc p1 (by omega) l1 l2 ms)
  have M1 := Lib.hid m1
  clear ha hb hM ms m1
  go_enter Try.func23, Try.ntmps23
  go_wp2_with fail
  refine (magr_any a _ HA.out).mono ?_; rintro e w' ⟨rfl, rfl⟩
  go_wp2_with fail
  refine (magr_any b _ HB.out).mono ?_; rintro e w' ⟨rfl, rfl⟩
  go_wp2_with fail
  refine (timesr_ab a b _ ma1 ma2 mb1 mb2).mono ?_; rintro e w' ⟨rfl, rfl⟩
  go_upto_block 0 with fail
  go_cut [8, 9, 12, 13, 14, 15, 16] (fun s8 s9 s12 s13 s14 _ _ wx => ∃ hi lo rest top low : Int, Hid (LI M c 128 hi lo rest top low) ∧ s8 = .int .u64 hi ∧ s9 = .int .u64 lo ∧ s12 = .int .u64 rest ∧ s13 = .int .u64 top ∧ s14 = .int .u64 low ∧ w = wx)
  case first =>
    go_wp2_with fail
    go_loop [8, 9, 12, 13, 14, 15, 16] (fun s8 s9 s12 s13 s14 s15 _ => ∃ (hi lo rest top low : Int) (i : Nat), Hid (LI M c i hi lo rest top low) ∧ i ≤ 128 ∧ s8 = .int .u64 hi ∧ s9 = .int .u64 lo ∧ s12 = .int .u64 rest ∧ s13 = .int .u64 top ∧ s14 = .int .u64 low ∧ s15 = .int .i64 i) (fun _ _ _ _ _ s15 _ => 128 - (intOf s15).toNat)
    case atStart => exact ⟨_, _, 0, 0, 0, 0, ST, by omega, rfl, rfl, rfl, rfl, rfl, rfl⟩
    case round =>
      obtain ⟨hi, lo, rest, top, low, i, H, hi2, rfl, rfl, rfl, rfl, rfl, rfl⟩ := hrel
      by_cases hlt : i < 128
      · obtain ⟨hi', lo', rest', top', low', e1, e2, e3, e4, e5, q1, q2, q3, q4, yes, no⟩ := H.out.walk m0 M1.out hlt hc (by omega)
        have Y := Lib.hid yes; have N := Lib.hid no
        have h0 := H.out.h0; have h1 := H.out.h1; have l0 := H.out.l0; have l1 := H.out.l1; have r0 := H.out.r0; have r1 := H.out.r1; have t0 := H.out.t0; have t1 := H.out.t1; have w0 := H.out.w0; have w1 := H.out.w1
        clear yes no
        by_cases hd : c ≤ rest'
        · go_wp2
          go_round
          case rel => exact ⟨hi', lo', rest' - c, top', low' + 1, i + 1, Y.out hd, by omega, rfl, rfl, rfl, rfl, rfl, by go_num⟩
          case measure => simp [intOf]; omega
        · go_wp2
          go_round
          case rel => exact ⟨hi', lo', rest', top', low', i + 1, N.out (by omega), by omega, rfl, rfl, rfl, rfl, rfl, by go_num⟩
          case measure => simp [intOf]; omega
      · obtain rfl : i = 128 := by omega
        go_wp2
        go_meet
        exact ⟨hi, lo, rest, top, low, H, rfl, rfl, rfl, rfl, rfl, rfl⟩
  case rest =>
    obtain ⟨hi, lo, rest, top, low, H, rfl, rfl, rfl, rfl, rfl, rfl⟩ := hcut
    have fz := H.out.finish hc
    have r0 := H.out.r0; have r1 := H.out.r1; have t0 := H.out.t0; have w0 := H.out.w0; have w1 := H.out.w1
    have fq : mag a * mag b / c = top * 18446744073709551616 + low := by rw [HM.out]; exact fz.1
    have fr : mag a * mag b % c = rest := by rw [HM.out]; exact fz.2
    have t1 : top < 9223372036854775808 := by
      have := Int.ediv_le_self c m0
      have := MS.out
      have := fz.1
      omega
    have M0 : 0 < rest ∨ 0 < top ∨ 0 < low → mag a * mag b ≠ 0 := by
      intro h e
      rw [e] at fq fr
      simp at fq fr
      omega
    have M00 : rest = 0 → top = 0 → low = 0 → a * b / c = 0 := by
      rintro h1 h2 h3
      have e := Int.mul_ediv_add_emod (mag a * mag b) c
      rw [fq, fr, h1, h2, h3] at e
      have e0 : mag a * mag b = 0 := by simp at e; exact e.symm
      rw [prod_sign, e0]; simp
    have FQ := Lib.hid fq; have FR := Lib.hid fr; have MM := Lib.hid M0; have MZ := Lib.hid M00
    clear fz fq fr M0 M00
    cases n
    · have hs := same_sign HN.out
      have V := Lib.hid (mdv_pos hs FQ.out)
      have HS := Lib.hid hs; clear hs
      by_cases ht : 0 < top
      · have fin : Hid (mdv a b c 0 false) := mdv_no (by rw [V.out]; omega)
        go_wp2
        go_ret2
        exact ⟨0, false, fin.out, rfl, Below.refl _ _⟩
      · obtain rfl : top = 0 := by omega
        by_cases hl : 9223372036854775808 < low
        · have fin : Hid (mdv a b c 0 false) := mdv_no (by rw [V.out]; omega)
          go_wp2
          go_ret2
          exact ⟨0, false, fin.out, rfl, Below.refl _ _⟩
        · by_cases hl2 : 9223372036854775807 < low
          · have fin : Hid (mdv a b c 0 false) := mdv_no (by rw [V.out]; omega)
            go_wp2
            go_ret2
            exact ⟨0, false, fin.out, rfl, Below.refl _ _⟩
          · have fin : Hid (mdv a b c low true) := mdv_yes (by rw [V.out]; omega) (by omega) (by omega)
            go_wp2
            go_ret2
            exact ⟨low, true, fin.out, rfl, Below.refl _ _⟩
    · by_cases hr : 0 < rest
      · have hs := other_sign HN.out (MM.out (Or.inl hr))
        have V := Lib.hid (mdv_neg hc hs FQ.out FR.out)
        have HS := Lib.hid hs; clear hs
        have NV : Hid (nq (top * 18446744073709551616 + low) rest = -(top * 18446744073709551616 + low) - 1) := by
          show nq (top * 18446744073709551616 + low) rest = _
          unfold nq; rw [if_pos hr]
        by_cases hw : low = 18446744073709551615
        · subst hw
          have fin : Hid (mdv a b c 0 false) := mdv_no (by rw [V.out, NV.out]; omega)
          go_wp2
          go_ret2
          exact ⟨0, false, fin.out, rfl, Below.refl _ _⟩
        · have lz : (low + 1 == 0) = false := by simp; omega
          by_cases ht : 0 < top
          · have fin : Hid (mdv a b c 0 false) := mdv_no (by rw [V.out, NV.out]; omega)
            go_wp2
            go_ret2
            exact ⟨0, false, fin.out, rfl, Below.refl _ _⟩
          · obtain rfl : top = 0 := by omega
            by_cases hl : 9223372036854775808 < low + 1
            · have fin : Hid (mdv a b c 0 false) := mdv_no (by rw [V.out, NV.out]; omega)
              go_wp2
              go_ret2
              exact ⟨0, false, fin.out, rfl, Below.refl _ _⟩
            · have fin : Hid (mdv a b c (-low - 1) true) := mdv_yes (by rw [V.out, NV.out]; omega) (by omega) (by omega)
              go_wp2
              go_ret2
              exact ⟨-low - 1, true, fin.out, ret_ib (by simp) rfl, Below.refl _ _⟩
      · obtain rfl : rest = 0 := by omega
        by_cases ht : 0 < top
        · have hs := other_sign HN.out (MM.out (Or.inr (Or.inl ht)))
          have fin : Hid (mdv a b c 0 false) := mdv_no (by rw [mdv_neg hc hs FQ.out FR.out]; unfold nq; rw [if_neg (by omega)]; omega)
          clear hs
          go_wp2
          go_ret2
          exact ⟨0, false, fin.out, rfl, Below.refl _ _⟩
        · obtain rfl : top = 0 := by omega
          by_cases hl0 : 0 < low
          · have hs := other_sign HN.out (MM.out (Or.inr (Or.inr hl0)))
            have V := Lib.hid (mdv_neg hc hs FQ.out FR.out)
            have NV : Hid (nq (0 * 18446744073709551616 + low) 0 = -low) := by
              show nq (0 * 18446744073709551616 + low) 0 = _
              unfold nq; rw [if_neg (by omega)]; omega
            clear hs
            by_cases hl : 9223372036854775808 < low
            · have fin : Hid (mdv a b c 0 false) := mdv_no (by rw [V.out, NV.out]; omega)
              go_wp2
              go_ret2
              exact ⟨0, false, fin.out, rfl, Below.refl _ _⟩
            · have fin : Hid (mdv a b c (-low) true) := mdv_yes (by rw [V.out, NV.out]) (by omega) (by omega)
              go_wp2
              go_ret2
              exact ⟨-low, true, fin.out, ret_ib (by omega) rfl, Below.refl _ _⟩
          · obtain rfl : low = 0 := by omega
            have fin : Hid (mdv a b c 0 true) := mdv_yes (MZ.out rfl rfl rfl) (by omega) (by omega)
            go_wp2
            go_ret2
            exact ⟨0, true, fin.out, rfl, Below.refl _ _⟩

set_option maxHeartbeats 1000000 in
theorem numMulDivs_walk (a b c : Int) (w : World) (h0 : (Lit.int .i64 a).wf = true) (h1 : (Lit.int .i64 b).wf = true) (h2 : (Lit.int .i64 c).wf = true) :
    Calls Try.prog 7 #[.int .i64 a, .int .i64 b, .int .i64 c] w fun e w' => e = .returned (.bool true) ∧ Below w.heap.size w w' := by
  have HA := Lib.hid (wf_i64 h0); have HB := Lib.hid (wf_i64 h1); have HC := Lib.hid (wf_i64 h2)
  clear h0 h1 h2
  by_cases hc : c ≤ 0
  · go_enter Try.func7, Try.ntmps7
    go_wp2_with fail
    refine (muldiv_neg a b c _ hc).mono ?_; rintro e w' ⟨rfl, rfl⟩
    go_wp2_with fail
    refine (mdr_neg a b c _ hc).mono ?_; rintro e w' ⟨rfl, rfl⟩
    go_wp2_with fail
    refine (lives_any _).mono ?_; rintro e w1 ⟨rfl, b1⟩
    go_wp2_with fail
    go_ret
    exact ⟨rfl, b1⟩
  · go_enter Try.func7, Try.ntmps7
    go_wp2_with fail
    refine (muldiv_any a b c _ HA.out HB.out (by omega) HC.out.2).mono ?_; rintro e w1 ⟨v, o, hm, rfl, b1⟩
    have HM := Lib.hid hm; clear hm
    go_wp2_with fail
    refine (mdr_any a b c _ HA.out HB.out (by omega) HC.out.2).mono ?_; rintro e w2 ⟨v', o', hm', rfl, b2⟩
    obtain ⟨rfl, rfl⟩ := mdv_unique HM.out hm'
    clear hm'
    cases o
    all_goals
      go_wp2_with fail
      refine (lives_any _).mono ?_; rintro e w3 ⟨rfl, b3⟩
      go_wp2_with fail
      go_ret
      have c2 := b1.trans (b2.mono b1.size)
      exact ⟨rfl, c2.trans (b3.mono c2.size)⟩

/- FloorDiv against Go's quotient -/
theorem quo_want (a b : Int) (hb : 0 < b) : a / b = if a < 0 ∧ a.tmod b ≠ 0 then a.tdiv b - 1 else a.tdiv b := by
  by_cases h : a.tmod b < 0
  · rw [if_pos ((tmod_neg_iff a b).1 h), td_neg a b hb h]
  · rw [if_neg (fun k => h ((tmod_neg_iff a b).2 k)), td_pos a b hb (by omega)]
theorem roundZ_cases (a b : Int) : roundZ a b = a / b ∨ roundZ a b = a / b + 1 := by unfold roundZ; split <;> simp

set_option maxRecDepth 100000 in
set_option maxHeartbeats 1000000 in
theorem numQuotients_walk (a b : Int) (w : World) (h0 : (Lit.int .i64 a).wf = true) (h1 : (Lit.int .i64 b).wf = true) :
    Calls Try.prog 10 #[.int .i64 a, .int .i64 b] w fun e w' => e = .returned (.bool true) ∧ Below w.heap.size w w' := by
  have HA := Lib.hid (wf_i64 h0); have HB := Lib.hid (wf_i64 h1)
  have a1 := HA.out.1; have a2 := HA.out.2; have b1 := HB.out.1; have b2 := HB.out.2
  clear h0 h1
  by_cases hb : b ≤ 0
  · go_enter Try.func10, Try.ntmps10
    go_wp2_with fail
    refine (floor_neg 14 a b hb _ (by omega)).mono ?_; rintro e w' ⟨rfl, rfl⟩
    go_wp2_with fail
    refine (floor_neg 16 a b hb _ (by omega)).mono ?_; rintro e w' ⟨rfl, rfl⟩
    go_wp2_with fail
    refine (lives_any _).mono ?_; rintro e w1 ⟨rfl, b1⟩
    go_wp2_with fail
    go_ret
    exact ⟨rfl, b1⟩
  · have hb0 : 0 < b := by omega
    obtain ⟨q, hq⟩ : ∃ q, a / b = q := ⟨_, rfl⟩
    have fq : I64 q := by rw [← hq]; exact ediv_fits a b hb0 a1 a2
    have q1 := fq.1; have q2 := fq.2
    obtain ⟨r, hr⟩ : ∃ r, roundZ a b = r := ⟨_, rfl⟩
    have rc : r = q ∨ r = q + 1 := by rw [← hr, ← hq]; exact roundZ_cases a b
    have rf : I64 r := by
      rw [← hr]; unfold roundZ; split
      · exact round_fits a b hb0 HA.out (by assumption)
      · rw [hq]; exact fq
    have r1 := rf.1; have r2 := rf.2
    have qw := quo_want a b hb0
    rw [hq] at qw
    have bz : (b == 0) = false := by simp; omega
    have hbd : decide (b ≤ 0) = false := by simp; omega
    have HQ := Lib.hid hq; have HR := Lib.hid hr
    have t1 := tm_lt a b hb0; have t2 := tm_gt a b hb0
    clear fq rf hq hr hb
    /- a way through the tests: whether a is negative and leaves a remainder -/
    have main : ∀ (x y : Bool), decide (a < 0) = x → (a.tmod b != 0) = y → (if x && y then a.tdiv b - 1 else a.tdiv b) = q →
        Calls Try.prog 10 #[.int .i64 a, .int .i64 b] w fun e w' => e = .returned (.bool true) ∧ Below w.heap.size w w' := by
      intro x y hx hy hw
      have HW := Lib.hid hw
      clear hw qw
      rcases rc with rfl | rfl
      · cases x <;> cases y
        all_goals
          have hw' := HW.out
          simp only [Bool.and_false, Bool.and_true, Bool.false_eq_true, if_false, if_true] at hw'
          go_enter Try.func10, Try.ntmps10
          go_wp2_with fail
          refine (floor_at a b r _ HA.out hb0 HQ.out).mono ?_; rintro e w' ⟨rfl, rfl⟩
          go_wp2_with fail
          refine (muldiv_at a 1 b r _ HA.out ⟨by omega, by omega⟩ hb0 b2 (by rw [Int.mul_one]; exact HQ.out) r1 r2).mono ?_; rintro e w1 ⟨rfl, b1⟩
          go_wp2_with fail
          refine (round_at a b r _ HA.out hb0 HB.out HR.out).mono ?_; rintro e w' ⟨rfl, n, rfl⟩
          go_wp2_with fail
          refine (lives_any _).mono ?_; rintro e w3 ⟨rfl, b3⟩
          go_wp2_with fail
          go_ret
          have c2 := below_drewN b1 n
          exact ⟨rfl, c2.trans (b3.mono c2.size)⟩
      · have hne : (q + 1 == q) = false := by simp; omega
        cases x <;> cases y
        all_goals
          have hw' := HW.out
          simp only [Bool.and_false, Bool.and_true, Bool.false_eq_true, if_false, if_true] at hw'
          go_enter Try.func10, Try.ntmps10
          go_wp2_with fail
          refine (floor_at a b q _ HA.out hb0 HQ.out).mono ?_; rintro e w' ⟨rfl, rfl⟩
          go_wp2_with fail
          refine (muldiv_at a 1 b q _ HA.out ⟨by omega, by omega⟩ hb0 b2 (by rw [Int.mul_one]; exact HQ.out) q1 q2).mono ?_; rintro e w1 ⟨rfl, b1⟩
          go_wp2_with fail
          refine (round_at a b (q + 1) _ HA.out hb0 HB.out HR.out).mono ?_; rintro e w' ⟨rfl, n, rfl⟩
          go_wp2_with fail
          refine (lives_any _).mono ?_; rintro e w3 ⟨rfl, b3⟩
          go_wp2_with fail
          go_ret
          have c2 := below_drewN b1 n
          exact ⟨rfl, c2.trans (b3.mono c2.size)⟩
    refine main _ _ rfl rfl ?_
    rw [qw]
    by_cases h : a < 0 ∧ a.tmod b ≠ 0
    · rw [if_pos h, if_pos (by simp [h.1, h.2])]
    · rw [if_neg h, if_neg (by simpa using h)]

end Go.Proofs.Yticjeknfnbligaa
