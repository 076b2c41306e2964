/- Tiles: the reference of Cover. -/
import Derived.Test.YtoibhapjkeakbaaWn
namespace Go.Proofs.Ytoibhapjkeakbaa
open Go.ChangeShapes Go.WideShapes Go.ChangeAt Go.RowKit Go.Joins Go.Deep

theorem cv_in {s c b d k : Int} (hs : 256 ≤ s) (hsc : s * c = 32768) (k0 : 0 ≤ k) (k1 : k < c) (b0 : 0 ≤ b) (hbd : b ≤ d) (d1 : d ≤ 32768) :
    (k * s ≤ d ∧ b ≤ (k + 1) * s) ↔ (cvF s c b ≤ k ∧ k ≤ cvL s c d) := by
  have e1 : k ≤ d / s ↔ k * s ≤ d := Int.le_ediv_iff_mul_le (by omega)
  have e2 : (b - 1) / s < k + 1 ↔ b - 1 < (k + 1) * s := Int.ediv_lt_iff_lt_mul (by omega)
  have e3 : (b - 1) / s < c ↔ b - 1 < c * s := Int.ediv_lt_iff_lt_mul (by omega)
  have e4 : 0 ≤ d / s := Int.ediv_nonneg (by omega) (by omega)
  rw [Int.mul_comm] at hsc
  generalize (k + 1) * s = P at *
  generalize k * s = Q at *
  unfold cvF cvL clampZ
  generalize (b - 1) / s = p at *
  generalize d / s = q at *
  split <;> split <;> (try split) <;> (try split) <;> omega
set_option maxRecDepth 100000 in
set_option maxHeartbeats 8000000 in
theorem coverr_any (a b c d z : Int) (w : World) : Calls Try.prog 30 #[bx a b c d, .int .i64 z] w (RetTs (covT a b c d z) w) := by
  have C : ∀ W, W = w.alloc (.cells #[.int .i64 a, .int .i64 b, .int .i64 c, .int .i64 d] 27) → W.cell? ⟨w.heap.size, 0, none⟩ = some (.int .i64 a) ∧ W.cell? ⟨w.heap.size, 1, none⟩ = some (.int .i64 b) ∧ W.cell? ⟨w.heap.size, 2, none⟩ = some (.int .i64 c) ∧ W.cell? ⟨w.heap.size, 3, none⟩ = some (.int .i64 d) := by
    intro W e; subst e
    exact ⟨by go_simp, by go_simp, by go_simp, by go_simp⟩
  have C0 := Lib.hid (C _ rfl); clear C
  have HB0 := Lib.hid ((Below.refl w.heap.size w).alloc (Nat.le_refl _) (.cells #[.int .i64 a, .int .i64 b, .int .i64 c, .int .i64 d] 27))
  by_cases hgz : goodB a b c d = true ∧ 0 ≤ z ∧ z ≤ 7
  · have HL := Lib.hid (covT_yes hgz)
    obtain ⟨hg, z0, z1⟩ := hgz
    obtain ⟨g0, g1, g2, g3, g4, g5⟩ := goodB_iff.1 hg
    have HC := Lib.hid (chk_yes hg)
    obtain ⟨_, e2, e3, e4⟩ := siz_in z0 z1
    obtain ⟨c0, c1⟩ := cnt_bd z0 z1
    obtain ⟨x1, x2, x3⟩ := cv_bd (a := a) (b := c) c0 c1 e3 (by omega)
    obtain ⟨y1, y2, y3⟩ := cv_bd (a := b) (b := d) c0 c1 e3 (by omega)
    have INX := Lib.hid (fun (k : Int) (k0 : 0 ≤ k) (k1 : k < cnt z) => cv_in (b := a) (d := c) e3 e2 k0 k1 (by omega) (by omega) (by omega))
    have INY := Lib.hid (fun (k : Int) (k0 : 0 ≤ k) (k1 : k < cnt z) => cv_in (b := b) (d := d) e3 e2 k0 k1 (by omega) (by omega) (by omega))
    have MB := Lib.hid (fun (k : Int) (k0 : 0 ≤ k) (k1 : k < cnt z) => mul_in (s := siz z) k0 k1 (by omega) e2)
    have M1 := Lib.hid (show cvL (siz z) (cnt z) c - cvF (siz z) (cnt z) a + 1 = ((covM z a c : Nat) : Int) ∧ covM z a c ≤ 128 by unfold covM; omega)
    have M2 := Lib.hid (show cvL (siz z) (cnt z) d - cvF (siz z) (cnt z) b + 1 = ((covM z b d : Nat) : Int) ∧ covM z b d ≤ 128 by unfold covM; omega)
    have CP := Lib.hid (fun W => power_any z W z0 z1)
    have CS := Lib.hid (fun W => sizer_any z W)
    generalize cvF (siz z) (cnt z) a = FX at *
    generalize cvF (siz z) (cnt z) b = FY at *
    generalize cvL (siz z) (cnt z) c = LX at *
    generalize cvL (siz z) (cnt z) d = LY at *
    generalize covM z a c = mm at *
    generalize covM z b d = nn at *
    clear e2 hg
    obtain ⟨s, hs⟩ : ∃ s, siz z = s := ⟨_, rfl⟩
    rw [hs] at e3 e4 INX INY MB CS
    obtain ⟨q, hq⟩ : ∃ q, cnt z = q := ⟨_, rfl⟩
    rw [hq] at c0 c1 x3 y3 INX INY MB CP
    clear hs hq
    rename_i hsz; clear hsz
    obtain ⟨fx, rfl⟩ := Int.eq_ofNat_of_zero_le x1
    obtain ⟨fy, rfl⟩ := Int.eq_ofNat_of_zero_le y1
    obtain ⟨qn, rfl⟩ := Int.eq_ofNat_of_zero_le (show 0 ≤ q by omega)
    have hmx : fx + mm ≤ qn := by have := M1.out.1; omega
    have hmy : fy + nn ≤ qn := by have := M2.out.1; omega
    have hm8 : mm ≤ 128 := M1.out.2
    have hn8 : nn ≤ 128 := M2.out.2
    have hq8 : qn ≤ 128 := by omega
    have XI : Hid (∀ k : Nat, k < qn → ((k : Int) * s ≤ c ∧ a ≤ ((k : Int) + 1) * s ↔ (fx ≤ k ∧ k < fx + mm))) := by
      intro k hk
      rw [INX.out k (by omega) (by omega)]
      have := M1.out.1; omega
    have YI : Hid (∀ k : Nat, k < qn → ((k : Int) * s ≤ d ∧ b ≤ ((k : Int) + 1) * s ↔ (fy ≤ k ∧ k < fy + nn))) := by
      intro k hk
      rw [INY.out k (by omega) (by omega)]
      have := M2.out.1; omega
    clear INX INY M1 M2 x2 x3 y2 y3
    have hsb : (s == 0) = false := by simp; omega
    obtain ⟨i0, hi, hz0, hz1, hz2⟩ := info_parts Try.info23
    have II := Lib.hid hi; have Z0 := Lib.hid hz0; have Z1 := Lib.hid hz1; have Z2 := Lib.hid hz2
    clear hi hz0 hz1 hz2
    go_enter Try.func30, Try.ntmps30
    go_wp2_with fail
    generalize w.alloc (.cells #[.int .i64 a, .int .i64 b, .int .i64 c, .int .i64 d] 27) = W0 at C0 HB0 ⊢
    refine (checkr_any _ _ _ _ _).mono ?_; rintro e w1 ⟨rfl, hb1⟩; rw [HC.out]
    obtain ⟨f0, f1, f2, f3⟩ := C0.out
    replace f0 := old hb1 f0; replace f1 := old hb1 f1; replace f2 := old hb1 f2; replace f3 := old hb1 f3
    have HB1 := Lib.hid (HB0.out.trans (hb1.mono HB0.out.size)); clear hb1 HB0 C0
    have F := Lib.hid (And.intro f0 (And.intro f1 (And.intro f2 f3)))
    clear f0 f1 f2 f3
    go_wp2_with fail
    refine (CS.out _).mono ?_; rintro e w2 ⟨rfl, rfl⟩
    go_wp2_with fail
    refine (CS.out _).mono ?_; rintro e w2 ⟨rfl, rfl⟩
    go_wp2_with fail
    clear CS
    go_loopw [5, 7] (fun s5 s7 wr => ∃ i : Nat, i ≤ qn ∧ s7 = .int .i64 (i : Int) ∧ Hid (wr.ownsRow w1.heap.size 23 3 s5 (btw z fx fy mm (min (i - fy) nn)).length (tcs (btw z fx fy mm (min (i - fy) nn)))) ∧ Hid (Below w1.heap.size w1 wr)) (fun _ s7 _ => qn - (intOf s7).toNat)
    case atStart => exact ⟨0, by omega, rfl, (by rw [show min (0 - fy) nn = 0 by omega]; exact World.ownsRow_nil _ _ _ _), Below.refl _ _⟩
    case round =>
      obtain ⟨i, hi, rfl, RO, BB⟩ := hrel
      obtain ⟨KL, hKL⟩ : ∃ L, btw z fx fy mm (min (i - fy) nn) = L := ⟨_, rfl⟩
      rw [hKL] at RO
      have HK := Lib.hid hKL; clear hKL
      obtain ⟨a5, c5, rfl⟩ := row_form RO.out
      by_cases hiq : i < qn
      · obtain ⟨d0, d1, d2, d3⟩ := F.out
        have f0 := old BB.out d0; have f1 := old BB.out d1; have f2 := old BB.out d2; have f3 := old BB.out d3
        clear d0 d1 d2 d3
        have hd1 : decide ((i : Int) < (qn : Int)) = true := by simp; omega
        obtain ⟨m1, m2, m3, m4⟩ := MB.out i (by omega) (by omega)
        by_cases hin : fy ≤ i ∧ i < fy + nn
        · obtain ⟨p1, p2⟩ := (YI.out i hiq).2 hin
          have hd2 : decide (d < (i : Int) * s) = false := by simp; omega
          have hd3 : decide (((i : Int) + 1) * s < b) = false := by simp; omega
          have HR := Lib.hid (show min (i - fy) nn = i - fy ∧ min (i + 1 - fy) nn = i - fy + 1 ∧ ((fy : Int) + ((i - fy : Nat) : Int)) = (i : Int) by omega)
          go_wp2_with fail
          refine (CP.out _).mono ?_; rintro e w2 ⟨rfl, rfl⟩
          go_wp2_with fail
          clear f0 f1 f2 f3
          go_loopw [5, 8] (fun s5 s8 wr => ∃ j : Nat, j ≤ qn ∧ s8 = .int .i64 (j : Int) ∧ Hid (wr.ownsRow w1.heap.size 23 3 s5 (btw z fx fy mm (i - fy) ++ rowT z fx (i : Int) (min (j - fx) mm)).length (tcs (btw z fx fy mm (i - fy) ++ rowT z fx (i : Int) (min (j - fx) mm)))) ∧ Hid (Below w1.heap.size w1 wr)) (fun _ s8 _ => qn - (intOf s8).toNat)
          case atStart => exact ⟨0, by omega, rfl, (by show World.ownsRow _ _ _ _ _ _ _; have hk := HK.out; rw [HR.out.1] at hk; rw [show min (0 - fx) mm = 0 by omega, show rowT z fx (i : Int) 0 = [] from rfl, List.append_nil, hk]; exact RO.out), BB⟩
          case round =>
            clear RO BB
            obtain ⟨j, hj, rfl, RO, BB⟩ := hrel
            obtain ⟨L, hL⟩ : ∃ L, btw z fx fy mm (i - fy) ++ rowT z fx (i : Int) (min (j - fx) mm) = L := ⟨_, rfl⟩
            rw [hL] at RO
            have HLL := Lib.hid hL; clear hL
            obtain ⟨a5, c5, rfl⟩ := row_form RO.out
            by_cases hjq : j < qn
            · obtain ⟨d0, d1, d2, d3⟩ := F.out
              have f0 := old BB.out d0; have f1 := old BB.out d1; have f2 := old BB.out d2; have f3 := old BB.out d3
              clear d0 d1 d2 d3
              have hd4 : decide ((j : Int) < (qn : Int)) = true := by simp; omega
              obtain ⟨n1, n2, n3, n4⟩ := MB.out j (by omega) (by omega)
              by_cases hin2 : fx ≤ j ∧ j < fx + mm
              · obtain ⟨p3, p4⟩ := (XI.out j hjq).2 hin2
                have hd5 : decide ((j : Int) * s ≤ c) = true := by simp; omega
                have hd6 : decide (a ≤ ((j : Int) + 1) * s) = true := by simp; omega
                have HJ := Lib.hid (show min (j - fx) mm = j - fx ∧ min (j + 1 - fx) mm = j - fx + 1 ∧ ((fx : Int) + ((j - fx : Nat) : Int)) = (j : Int) by omega)
                have hol : L.length ≤ 20000 := by
                  rw [← HLL.out, List.length_append, btw_len, rowT_len]
                  have : (i - fy) * mm ≤ 128 * 128 := Nat.mul_le_mul (by omega) hm8
                  omega
                have hbs : w1.heap.size ≤ wr.heap.size := BB.out.size
                go_wp2_with fail
                refine (CP.out _).mono ?_; rintro e w2 ⟨rfl, rfl⟩
                go_wp2_with (at_builtin; refine wpList_append_own_at _ rfl _ _ 46 rfl w1.heap.size 23 i0 (.agg #[.int .i64 0, .int .i64 0, .int .i64 0]) 3 24 Try.underlying46 II.out Z0.out Z1.out Z2.out rfl (by decide) _ _ _ rfl (RO.out.alloc _) ⟨wr.heap.size, 0, none⟩ 1 1 [.int .i64 z, .int .i64 (j : Int), .int .i64 (i : Int)] rfl rfl (cells3_new _ _ _ _ _) (by simp [Value.oneCell']) (by unfold maxLen; omega) (by omega) (by simp; omega) ?_; intro v' w4 hown' hgrow hnil hloc; obtain ⟨a', cap', hv'⟩ := row_form hown'; subst hv'; have R4 := Lib.hid hown'; have G4 := Lib.hid hgrow; clear hown' hgrow hloc hnil)
                have RM := row_more (t := (z, (j : Int), (i : Int))) BB.out RO.out G4.out R4.out
                have R5 := Lib.hid RM.2; have B5 := Lib.hid RM.1; clear RM
                go_roundw
                case rel => exact ⟨j + 1, by omega, by go_num, (by show World.ownsRow _ _ _ _ _ _ _; have hl := HLL.out; rw [HJ.out.1] at hl; rw [HJ.out.2.1, rowT_succ, ← List.append_assoc, hl, HJ.out.2.2]; exact R5.out), B5⟩
                case measure => simp [intOf]; omega
              · have HJ := Lib.hid (show min (j + 1 - fx) mm = min (j - fx) mm by omega)
                by_cases hc5 : (j : Int) * s ≤ c
                · have hd5 : decide ((j : Int) * s ≤ c) = true := by simp; omega
                  have hd6 : decide (a ≤ ((j : Int) + 1) * s) = false := by
                    have := XI.out j hjq; simp; omega
                  go_wp2_with fail
                  refine (CP.out _).mono ?_; rintro e w2 ⟨rfl, rfl⟩
                  go_wp2
                  go_roundw
                  case rel => exact ⟨j + 1, by omega, by go_num, (by show World.ownsRow _ _ _ _ _ _ _; rw [HJ.out, HLL.out]; exact RO.out), BB⟩
                  case measure => simp [intOf]; omega
                · have hd5 : decide ((j : Int) * s ≤ c) = false := by simp; omega
                  go_wp2_with fail
                  refine (CP.out _).mono ?_; rintro e w2 ⟨rfl, rfl⟩
                  go_wp2
                  go_roundw
                  case rel => exact ⟨j + 1, by omega, by go_num, (by show World.ownsRow _ _ _ _ _ _ _; rw [HJ.out, HLL.out]; exact RO.out), BB⟩
                  case measure => simp [intOf]; omega
            · obtain rfl : j = qn := by omega
              have HE := Lib.hid (show min (j - fx) mm = mm by omega)
              go_wp2_with fail
              refine (CP.out _).mono ?_; rintro e w2 ⟨rfl, rfl⟩
              go_wp2
              go_roundw
              case rel => exact ⟨i + 1, by omega, by go_num, (by show World.ownsRow _ _ _ _ _ _ _; have hl := HLL.out; rw [HE.out] at hl; rw [HR.out.2.1, btw_succ, HR.out.2.2, hl]; exact RO.out), BB⟩
              case measure => simp [intOf]; omega
        · have HR := Lib.hid (show min (i + 1 - fy) nn = min (i - fy) nn by omega)
          by_cases hc2 : d < (i : Int) * s
          · have hd2 : decide (d < (i : Int) * s) = true := by simp; omega
            go_wp2_with fail
            refine (CP.out _).mono ?_; rintro e w2 ⟨rfl, rfl⟩
            go_wp2
            go_roundw
            case rel => exact ⟨i + 1, by omega, by go_num, (by show World.ownsRow _ _ _ _ _ _ _; rw [HR.out, HK.out]; exact RO.out), BB⟩
            case measure => simp [intOf]; omega
          · have hd2 : decide (d < (i : Int) * s) = false := by simp; omega
            have hd3 : decide (((i : Int) + 1) * s < b) = true := by
              have := YI.out i hiq; simp; omega
            go_wp2_with fail
            refine (CP.out _).mono ?_; rintro e w2 ⟨rfl, rfl⟩
            go_wp2
            go_roundw
            case rel => exact ⟨i + 1, by omega, by go_num, (by show World.ownsRow _ _ _ _ _ _ _; rw [HR.out, HK.out]; exact RO.out), BB⟩
            case measure => simp [intOf]; omega
      · obtain rfl : i = qn := by omega
        have HE := Lib.hid (show min (i - fy) nn = nn by omega)
        go_wp2_with fail
        refine (CP.out _).mono ?_; rintro e w2 ⟨rfl, rfl⟩
        go_wp2
        go_ret
        exact ⟨_, rfl, (by have hk := HK.out; rw [HE.out] at hk; rw [HL.out, hk]; exact TsAt.of_row RO.out), HB1.out.trans (BB.out.mono HB1.out.size)⟩
  · have HL := Lib.hid (covT_no hgz)
    cases hg : goodB a b c d
    · have HC := Lib.hid (chk_no hg)
      clear hgz hg
      go_enter Try.func30, Try.ntmps30
      go_wp2_with fail
      generalize w.alloc (.cells #[.int .i64 a, .int .i64 b, .int .i64 c, .int .i64 d] 27) = W0 at C0 HB0 ⊢
      refine (checkr_any _ _ _ _ _).mono ?_; rintro e w1 ⟨rfl, hb1⟩; rw [HC.out]
      have HB1 := Lib.hid (HB0.out.trans (hb1.mono HB0.out.size)); clear hb1 HB0 C0
      go_wp2_with fail
      go_ret
      exact RetTs.nil HL.out HB1.out
    · have HC := Lib.hid (chk_yes hg)
      have HS := Lib.hid (siz_out (z := z) (by simp [hg] at hgz; omega))
      clear hgz hg
      go_enter Try.func30, Try.ntmps30
      go_wp2_with fail
      generalize w.alloc (.cells #[.int .i64 a, .int .i64 b, .int .i64 c, .int .i64 d] 27) = W0 at C0 HB0 ⊢
      refine (checkr_any _ _ _ _ _).mono ?_; rintro e w1 ⟨rfl, hb1⟩; rw [HC.out]
      have HB1 := Lib.hid (HB0.out.trans (hb1.mono HB0.out.size)); clear hb1 HB0 C0
      go_wp2_with fail
      refine (sizer_any _ _).mono ?_; rintro e w2 ⟨rfl, rfl⟩; rw [HS.out]
      go_wp2_with fail
      go_ret
      exact RetTs.nil HL.out HB1.out
end Go.Proofs.Ytoibhapjkeakbaa
