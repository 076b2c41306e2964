/- Tiles: the references of Children and Cover. -/
import Derived.Test.YtoibhapjkeakbaaWl
namespace Go.Proofs.Ytoibhapjkeakbaa
open Go.ChangeShapes Go.WideShapes Go.ChangeAt Go.RowKit Go.Joins Go.Deep

set_option maxRecDepth 100000 in
set_option maxHeartbeats 8000000 in
theorem childr_any (z x y : Int) (w : World) : Calls Try.prog 24 #[tl z x y] w (RetTs (chT z x y) w) := by
  have C : ∀ W, W = w.alloc (.cells #[.int .i64 z, .int .i64 x, .int .i64 y] 23) → W.cell? ⟨w.heap.size, 0, none⟩ = some (.int .i64 z) ∧ W.cell? ⟨w.heap.size, 1, none⟩ = some (.int .i64 x) ∧ W.cell? ⟨w.heap.size, 2, none⟩ = some (.int .i64 y) := by
    intro W e; subst e
    exact ⟨by go_simp, by go_simp, by go_simp⟩
  have C0 := Lib.hid (C _ rfl); clear C
  have HB0 := Lib.hid ((Below.refl w.heap.size w).alloc (Nat.le_refl _) (.cells #[.int .i64 z, .int .i64 x, .int .i64 y] 23))
  cases hg : goodT z x y
  · have HL := Lib.hid (chT_no (z := z) (x := x) (y := y) (by rw [hg]; simp))
    have HC := Lib.hid (show chkT z x y = 16 by unfold chkT; rw [if_neg (by rw [hg]; simp)])
    clear hg
    go_enter Try.func24, Try.ntmps24
    go_wp2_with fail
    generalize w.alloc (.cells #[.int .i64 z, .int .i64 x, .int .i64 y] 23) = W0 at C0 HB0 ⊢
    refine (checkTr_any _ _ _ _).mono ?_; rintro e w1 ⟨rfl, hb1⟩; rw [HC.out]
    have HB1 := Lib.hid (HB0.out.trans (hb1.mono HB0.out.size)); clear hb1 HB0 C0
    go_wp2_with fail
    go_ret
    exact RetTs.nil HL.out HB1.out
  · have HC := Lib.hid (show chkT z x y = 0 by unfold chkT; rw [if_pos hg])
    by_cases hz : z = 7
    · have HL := Lib.hid (chT_no (z := z) (x := x) (y := y) (by rw [hz]; simp))
      subst hz
      clear hg
      go_enter Try.func24, Try.ntmps24
      go_wp2_with fail
      generalize w.alloc (.cells #[.int .i64 7, .int .i64 x, .int .i64 y] 23) = W0 at C0 HB0 ⊢
      refine (checkTr_any _ _ _ _).mono ?_; rintro e w1 ⟨rfl, hb1⟩; rw [HC.out]
      obtain ⟨f0, f1, f2⟩ := C0.out
      replace f0 := old hb1 f0; replace f1 := old hb1 f1; replace f2 := old hb1 f2
      have HB1 := Lib.hid (HB0.out.trans (hb1.mono HB0.out.size)); clear hb1 HB0 C0
      go_wp2_with fail
      go_ret
      exact RetTs.nil HL.out HB1.out
    · have HL := Lib.hid (chT_yes ⟨hg, hz⟩)
      obtain ⟨g0, g1, g2, g3, g4, g5⟩ := goodT_iff.1 hg
      have cb := (cnt_bd g0 g1).2
      have g3b : x ≤ 127 := by omega
      have g5b : y ≤ 127 := by omega
      have hzb : (z == 7) = false := by simpa using hz
      obtain ⟨i0, hi, hz0, hz1, hz2⟩ := info_parts Try.info23
      have II := Lib.hid hi; have Z0 := Lib.hid hz0; have Z1 := Lib.hid hz1; have Z2 := Lib.hid hz2
      clear hi hz0 hz1 hz2
      clear hg g3 g5 cb hz
      go_enter Try.func24, Try.ntmps24
      go_wp2_with fail
      generalize w.alloc (.cells #[.int .i64 z, .int .i64 x, .int .i64 y] 23) = W0 at C0 HB0 ⊢
      refine (checkTr_any _ _ _ _).mono ?_; rintro e w1 ⟨rfl, hb1⟩; rw [HC.out]
      obtain ⟨f0, f1, f2⟩ := C0.out
      replace f0 := old hb1 f0; replace f1 := old hb1 f1; replace f2 := old hb1 f2
      have HB1 := Lib.hid (HB0.out.trans (hb1.mono HB0.out.size)); clear hb1 HB0 C0
      have F := Lib.hid (And.intro f0 (And.intro f1 f2))
      go_wp2_with fail
      clear f0 f1 f2
      go_loopw [3, 4] (fun s3 s4 wr => ∃ k : Nat, k ≤ 2 ∧ s4 = .int .i64 (2 * y + (k : Int)) ∧ Hid (wr.ownsRow w1.heap.size 23 3 s3 (btw (z + 1) (2 * x) (2 * y) 2 k).length (tcs (btw (z + 1) (2 * x) (2 * y) 2 k))) ∧ Hid (Below w1.heap.size w1 wr)) (fun _ s4 _ => (2 * y + 2 - intOf s4).toNat)
      case atStart => exact ⟨0, by omega, (by simp), World.ownsRow_nil _ _ _ _, Below.refl _ _⟩
      case round =>
        obtain ⟨k, hk, rfl, RO, BB⟩ := hrel
        obtain ⟨a3, c3, rfl⟩ := row_form RO.out
        obtain ⟨d0, d1, d2⟩ := F.out
        have f0 := old BB.out d0; have f1 := old BB.out d1; have f2 := old BB.out d2
        clear d0 d1 d2
        by_cases hkn : k < 2
        · have hkd : decide ((k : Int) < 2) = true := by simp; omega
          go_wp2_with fail
          clear f0 f1 f2
          go_loopw [3, 5] (fun s3 s5 wr => ∃ j : Nat, j ≤ 2 ∧ s5 = .int .i64 (2 * x + (j : Int)) ∧ Hid (wr.ownsRow w1.heap.size 23 3 s3 (btw (z + 1) (2 * x) (2 * y) 2 k ++ rowT (z + 1) (2 * x) (2 * y + (k : Int)) j).length (tcs (btw (z + 1) (2 * x) (2 * y) 2 k ++ rowT (z + 1) (2 * x) (2 * y + (k : Int)) j))) ∧ Hid (Below w1.heap.size w1 wr)) (fun _ s5 _ => (2 * x + 2 - intOf s5).toNat)
          case atStart => exact ⟨0, by omega, (by simp), (by have r := RO.out; simpa [Hid, rowT] using r), BB⟩
          case round =>
            clear RO BB
            obtain ⟨j, hj, rfl, RO, BB⟩ := hrel
            obtain ⟨a3, c3, rfl⟩ := row_form RO.out
            obtain ⟨d0, d1, d2⟩ := F.out
            have f0 := old BB.out d0; have f1 := old BB.out d1; have f2 := old BB.out d2
            clear d0 d1 d2
            by_cases hjm : j < 2
            · have hol : (btw (z + 1) (2 * x) (2 * y) 2 k ++ rowT (z + 1) (2 * x) (2 * y + (k : Int)) j).length ≤ 20000 := by
                rw [List.length_append, btw_len, rowT_len]; omega
              obtain ⟨L, hL⟩ : ∃ L, btw (z + 1) (2 * x) (2 * y) 2 k ++ rowT (z + 1) (2 * x) (2 * y + (k : Int)) j = L := ⟨_, rfl⟩
              rw [hL] at hol RO ⊢
              have HLL := Lib.hid hL; clear hL
              have hbs : w1.heap.size ≤ wr.heap.size := BB.out.size
              go_wp2_with (at_builtin; refine wpList_append_own_at _ rfl _ _ 46 rfl w1.heap.size 23 i0 (.agg #[.int .i64 0, .int .i64 0, .int .i64 0]) 3 24 Try.underlying46 II.out Z0.out Z1.out Z2.out rfl (by decide) _ _ _ rfl (RO.out.alloc _) ⟨wr.heap.size, 0, none⟩ 1 1 [.int .i64 (z + 1), .int .i64 (2 * x + (j : Int)), .int .i64 (2 * y + (k : Int))] rfl rfl (cells3_new _ _ _ _ _) (by simp [Value.oneCell']) (by unfold maxLen; omega) (by omega) (by simp; omega) ?_; intro v' w4 hown' hgrow hnil hloc; obtain ⟨a', cap', hv'⟩ := row_form hown'; subst hv'; have R4 := Lib.hid hown'; have G4 := Lib.hid hgrow; clear hown' hgrow hloc hnil)
              have RM := row_more (t := (z + 1, 2 * x + (j : Int), 2 * y + (k : Int))) BB.out RO.out G4.out R4.out
              have R5 := Lib.hid RM.2; have B5 := Lib.hid RM.1; clear RM
              go_roundw
              case rel => exact ⟨j + 1, by omega, by go_num, (by show World.ownsRow _ _ _ _ _ _ _; rw [rowT_succ, ← List.append_assoc, HLL.out]; exact R5.out), B5⟩
              case measure => simp [intOf]; omega
            · obtain rfl : j = 2 := by omega
              go_wp2
              go_roundw
              case rel => exact ⟨k + 1, by omega, by go_num, (by show World.ownsRow _ _ _ _ _ _ _; rw [btw_succ]; exact RO.out), BB⟩
              case measure => simp [intOf]; omega
        · obtain rfl : k = 2 := by omega
          go_wp2
          go_ret
          exact ⟨_, rfl, (by rw [HL.out]; exact TsAt.of_row RO.out), HB1.out.trans (BB.out.mono HB1.out.size)⟩
end Go.Proofs.Ytoibhapjkeakbaa
