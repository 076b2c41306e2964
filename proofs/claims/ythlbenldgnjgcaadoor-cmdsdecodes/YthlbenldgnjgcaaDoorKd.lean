/- cmds: the reference's Check of a geometry. -/
import Derived.Test.YthlbenldgnjgcaaDoorKc
namespace Go.Proofs.YthlbenldgnjgcaaDoor
open Go.ChangeShapes Go.WideShapes Go.ChangeAt Go.RowKit Go.Joins Go.Deep

set_option maxRecDepth 100000 in
set_option maxHeartbeats 8000000 in
theorem checkr_1 {w : World} {v : Value} {ls : List (List Pt)} (h : RowsAt w v ls) (hm : ls.length ≤ 1000000) (h0 : ls ≠ []) : Calls Tryd.prog 12 #[gv 1 v] w fun e w' => e = .returned (.int .i64 (fstE 1 ls)) ∧ Below w.heap.size w w' := by
  have A0 := h
  obtain ⟨a, cap, rfl⟩ := h.form
  obtain ⟨n, hn⟩ : ∃ n, ls.length = n := ⟨_, rfl⟩
  obtain ⟨B0, hB0⟩ : ∃ B0, w.heap.size = B0 := ⟨_, rfl⟩
  rw [hn]
  obtain ⟨W1, hW1⟩ : ∃ W1, w.alloc (.cells #[.int .i64 1, .slice a n cap] 24) = W1 := ⟨_, rfl⟩
  have r1 : Row W1 B0 24 [.int .i64 1, .slice a n cap] := by rw [← hW1, ← hB0]; exact Row.new _ _ _
  have q0 := r1.cell (i := 0) rfl; have q1 := r1.cell (i := 1) rfl
  have BB := Lib.hid (show Below w.heap.size w W1 by rw [← hW1]; exact (Below.refl _ _).alloc (Nat.le_refl _) _)
  have R1 := Lib.hid r1
  have n0 : ((n : Int) == 0) = false := by
    rw [beq_eq_false_iff_ne]; intro e
    exact h0 (List.eq_nil_of_length_eq_zero (by omega))
  have HN := Lib.hid hn
  have HM := Lib.hid (show n ≤ 1000000 by omega)
  have AA := Lib.hid (A0.below BB.out)
  rw [hn] at AA
  clear A0 h r1 h0 hn hm
  go_enter Tryd.func12, Tryd.ntmps12
  go_wp2_with fail
  clear q0 q1 hW1 n0
  go_loopw [3] (fun s wr => ∃ i : Nat, i ≤ n ∧ s = .int .i64 (i : Int) ∧ Hid (∀ j, j < i → cpt 1 (ls.getD j []) = 0) ∧ Hid (Below W1.heap.size W1 wr)) (fun s _ => n - (intOf s).toNat)
  case atStart => exact ⟨0, Nat.zero_le _, rfl, fun j hj => absurd hj (by omega), Below.refl _ _⟩
  case round =>
    obtain ⟨i, hi, rfl, GG, BW⟩ := hrel
    have r2 := R1.out.below BW.out R1.out.lt
    have q0 := r2.cell (i := 0) rfl; have q1 := r2.cell (i := 1) rfl
    clear r2
    by_cases hin : i < n
    · obtain ⟨ob, off, u, rfl, bl, o0, pu⟩ := (AA.out.below BW.out).at_ (j := i) (by rw [HN.out]; exact hin)
      have PU0 := pu
      obtain ⟨au, cu, rfl, _⟩ := pu.form
      have BD := Lib.hid (fun hb => fstE_at (k := 1) (i := i) (by rw [HN.out]; exact hin) GG.out hb)
      obtain ⟨l, hl⟩ : ∃ l, ls.getD i [] = l := ⟨_, rfl⟩
      rw [hl] at o0 PU0 BD pu
      have HL1 := Lib.hid hl
      obtain ⟨m, hm⟩ : ∃ m, l.length = m := ⟨_, rfl⟩
      have HM2 := Lib.hid hm
      rw [hm] at o0 PU0
      have PU := Lib.hid PU0
      obtain ⟨k1, hk1⟩ : ∃ k1, i + 1 = k1 := ⟨_, rfl⟩
      have HK := Lib.hid hk1
      have k0 : (0 : Int) ≤ (i : Int) := by omega
      have kl : (i : Int) < (n : Int) := by omega
      have e1 : (i : Int) + 1 = (k1 : Int) := by omega
      have e2 : IntKind.i64.wrap (k1 : Int) = (k1 : Int) := by rw [IntKind.wrap_i64]; have := HM.out; omega
      clear hk1 pu PU0 hl hm
      by_cases hs : shK 1 l.length
      · have fs : ((m : Int) != 1) = true := by unfold shK at hs; rw [HM2.out] at hs; simp at hs ⊢; omega
        have V := Lib.hid ((BD.out (by rw [cpt_short hs]; decide)).trans (cpt_short hs))
        clear BD GG hs
        go_wp2_with fail
        go_ret
        exact ⟨by rw [V.out]; rfl, by first | exact BB.out.trans (BW.out.mono BB.out.size) | (rw [← hB0]; exact BB.out.trans (BW.out.mono BB.out.size))⟩
      · have fs : ((m : Int) != 1) = false := by unfold shK at hs; rw [HM2.out] at hs; simp at hs ⊢; omega
        by_cases hl : 8000 < l.length
        · have fl : (8000 : Int) < (m : Int) := by have := HM2.out; omega
          have V := Lib.hid ((BD.out (by rw [cpt_long hs hl]; decide)).trans (cpt_long hs hl))
          clear BD GG hs hl
          go_wp2_with fail
          go_ret
          exact ⟨by rw [V.out]; rfl, by first | exact BB.out.trans (BW.out.mono BB.out.size) | (rw [← hB0]; exact BB.out.trans (BW.out.mono BB.out.size))⟩
        · have fl : ¬ (8000 : Int) < (m : Int) := by have := HM2.out; omega
          have BAD := Lib.hid (fun j hj hb => (BD.out (by rw [cpt_bad hs hl (j := j) (by rw [HM2.out]; exact hj) hb]; decide)).trans (cpt_bad hs hl (j := j) (by rw [HM2.out]; exact hj) hb))
          have OK := Lib.hid (fun hb => cpt_ok hs hl hb)
          have FL := Lib.hid fl
          have BL := Lib.hid bl
          clear BD hs hl bl
          have O0 := Lib.hid o0
          go_wp2_with fail
          clear fs fl q0 q1 o0
          obtain ⟨wo, rfl⟩ : ∃ wo, wo = wr := ⟨wr, rfl⟩
          go_loopw [5] (fun s wr' => ∃ i2 : Nat, i2 ≤ m ∧ s = .int .i64 (i2 : Int) ∧ Hid (∀ j, j < i2 → inE (l.getD j (0, 0))) ∧ Hid (Below wo.heap.size wo wr')) (fun s _ => m - (intOf s).toNat)
          case atStart => exact ⟨0, Nat.zero_le _, rfl, fun j hj => absurd hj (by omega), Below.refl _ _⟩
          case round =>
            obtain ⟨i2, hi2, rfl, GG2, BW2⟩ := hrel
            have BWW := Lib.hid (BW.out.trans (BW2.out.mono BW.out.size))
            have r2 := R1.out.below BWW.out R1.out.lt
            have q0 := r2.cell (i := 0) rfl; have q1 := r2.cell (i := 1) rfl
            have o0 : wr.cell? ⟨ob, off + i, none⟩ = some (.slice au m cu) := by rw [BW2.out.cell BL.out]; exact O0.out
            clear r2
            by_cases hin2 : i2 < m
            · obtain ⟨b, off2, rfl, bl2, p0, p1⟩ := (PU.out.below BW2.out).at_ (j := i2) (by rw [HM2.out]; exact hin2)
              obtain ⟨⟨x, y⟩, hz⟩ : ∃ z, l.getD i2 (0, 0) = z := ⟨_, rfl⟩
              rw [hz] at p0 p1
              dsimp only at p0 p1
              have HZ := Lib.hid hz
              obtain ⟨k2, hk2⟩ : ∃ k2, i2 + 1 = k2 := ⟨_, rfl⟩
              have HK2 := Lib.hid hk2
              have k20 : (0 : Int) ≤ (i2 : Int) := by omega
              have kl2 : (i2 : Int) < (m : Int) := by omega
              have e12 : (i2 : Int) + 1 = (k2 : Int) := by omega
              have e22 : IntKind.i64.wrap (k2 : Int) = (k2 : Int) := by rw [IntKind.wrap_i64]; have := FL.out; omega
              obtain ⟨xb, hxb⟩ : ∃ xb, wr.heap.size = xb := ⟨_, rfl⟩
              obtain ⟨W2, hW2⟩ : ∃ W2, wr.alloc (.cells #[.int .i64 x, .int .i64 y] 44) = W2 := ⟨_, rfl⟩
              have r2 : Row W2 xb 44 [.int .i64 x, .int .i64 y] := by rw [← hW2, ← hxb]; exact Row.new _ _ _
              have b2 : Below wr.heap.size wr W2 := by rw [← hW2]; exact (Below.refl _ _).alloc (Nat.le_refl _) _
              have x0 := r2.cell (i := 0) rfl; have x1 := r2.cell (i := 1) rfl
              have B2 := Lib.hid (BW2.out.trans (b2.mono BW2.out.size))
              have B3 := Lib.hid (BWW.out.trans (b2.mono BWW.out.size))
              clear hz hk2 r2 b2 bl2
              by_cases c0 : x < 0
              · have V := Lib.hid (BAD.out i2 hin2 (by rw [HZ.out]; unfold inE; simp; omega))
                clear BAD OK GG GG2
                go_wp2_with fail
                go_ret
                exact ⟨by rw [V.out]; rfl, by first | exact BB.out.trans (B3.out.mono BB.out.size) | (rw [← hB0]; exact BB.out.trans (B3.out.mono BB.out.size))⟩
              · by_cases c1 : 256 < x
                · have V := Lib.hid (BAD.out i2 hin2 (by rw [HZ.out]; unfold inE; simp; omega))
                  clear BAD OK GG GG2
                  go_wp2_with fail
                  go_ret
                  exact ⟨by rw [V.out]; rfl, by first | exact BB.out.trans (B3.out.mono BB.out.size) | (rw [← hB0]; exact BB.out.trans (B3.out.mono BB.out.size))⟩
                · by_cases c2 : y < 0
                  · have V := Lib.hid (BAD.out i2 hin2 (by rw [HZ.out]; unfold inE; simp; omega))
                    clear BAD OK GG GG2
                    go_wp2_with fail
                    go_ret
                    exact ⟨by rw [V.out]; rfl, by first | exact BB.out.trans (B3.out.mono BB.out.size) | (rw [← hB0]; exact BB.out.trans (B3.out.mono BB.out.size))⟩
                  · by_cases c3 : 256 < y
                    · have V := Lib.hid (BAD.out i2 hin2 (by rw [HZ.out]; unfold inE; simp; omega))
                      clear BAD OK GG GG2
                      go_wp2_with fail
                      go_ret
                      exact ⟨by rw [V.out]; rfl, by first | exact BB.out.trans (B3.out.mono BB.out.size) | (rw [← hB0]; exact BB.out.trans (B3.out.mono BB.out.size))⟩
                    · have G2 : Hid (∀ j, j < k2 → inE (l.getD j (0, 0))) := by
                        intro j hj
                        by_cases e : j = i2
                        · rw [e, HZ.out]; unfold inE; simp; omega
                        · exact GG2.out j (by have := HK2.out; omega)
                      clear BAD OK GG GG2
                      go_wp2_with fail
                      go_roundw
                      case measure => simp [intOf]; have := HK2.out; omega
                      case rel => exact ⟨k2, by have := HK2.out; omega, rfl, G2, B2⟩
            · have kl2 : ¬ (i2 : Int) < (m : Int) := by omega
              have G2 : Hid (∀ j, j < k1 → cpt 1 (ls.getD j []) = 0) := by
                intro j hj
                by_cases e : j = i
                · rw [e, HL1.out]; exact OK.out (fun j hj => GG2.out j (by have := HM2.out; omega))
                · exact GG.out j (by have := HK.out; omega)
              clear BAD OK GG GG2
              go_wp2_with fail
              go_roundw
              case measure => simp [intOf]; have := HK.out; omega
              case rel => exact ⟨k1, by have := HK.out; omega, rfl, G2, BWW⟩
    · have kl : ¬ (i : Int) < (n : Int) := by omega
      have V := Lib.hid (fstE_ok (k := 1) (fun j hj => GG.out j (by have := HN.out; omega)))
      clear GG
      go_wp2_with fail
      go_ret
      exact ⟨by rw [V.out]; rfl, by first | exact BB.out.trans (BW.out.mono BB.out.size) | (rw [← hB0]; exact BB.out.trans (BW.out.mono BB.out.size))⟩
set_option maxRecDepth 100000 in
set_option maxHeartbeats 8000000 in
theorem checkr_2 {w : World} {v : Value} {ls : List (List Pt)} (h : RowsAt w v ls) (hm : ls.length ≤ 1000000) (h0 : ls ≠ []) : Calls Tryd.prog 12 #[gv 2 v] w fun e w' => e = .returned (.int .i64 (fstE 2 ls)) ∧ Below w.heap.size w w' := by
  have A0 := h
  obtain ⟨a, cap, rfl⟩ := h.form
  obtain ⟨n, hn⟩ : ∃ n, ls.length = n := ⟨_, rfl⟩
  obtain ⟨B0, hB0⟩ : ∃ B0, w.heap.size = B0 := ⟨_, rfl⟩
  rw [hn]
  obtain ⟨W1, hW1⟩ : ∃ W1, w.alloc (.cells #[.int .i64 2, .slice a n cap] 24) = W1 := ⟨_, rfl⟩
  have r1 : Row W1 B0 24 [.int .i64 2, .slice a n cap] := by rw [← hW1, ← hB0]; exact Row.new _ _ _
  have q0 := r1.cell (i := 0) rfl; have q1 := r1.cell (i := 1) rfl
  have BB := Lib.hid (show Below w.heap.size w W1 by rw [← hW1]; exact (Below.refl _ _).alloc (Nat.le_refl _) _)
  have R1 := Lib.hid r1
  have n0 : ((n : Int) == 0) = false := by
    rw [beq_eq_false_iff_ne]; intro e
    exact h0 (List.eq_nil_of_length_eq_zero (by omega))
  have HN := Lib.hid hn
  have HM := Lib.hid (show n ≤ 1000000 by omega)
  have AA := Lib.hid (A0.below BB.out)
  rw [hn] at AA
  clear A0 h r1 h0 hn hm
  go_enter Tryd.func12, Tryd.ntmps12
  go_wp2_with fail
  clear q0 q1 hW1 n0
  go_loopw [3] (fun s wr => ∃ i : Nat, i ≤ n ∧ s = .int .i64 (i : Int) ∧ Hid (∀ j, j < i → cpt 2 (ls.getD j []) = 0) ∧ Hid (Below W1.heap.size W1 wr)) (fun s _ => n - (intOf s).toNat)
  case atStart => exact ⟨0, Nat.zero_le _, rfl, fun j hj => absurd hj (by omega), Below.refl _ _⟩
  case round =>
    obtain ⟨i, hi, rfl, GG, BW⟩ := hrel
    have r2 := R1.out.below BW.out R1.out.lt
    have q0 := r2.cell (i := 0) rfl; have q1 := r2.cell (i := 1) rfl
    clear r2
    by_cases hin : i < n
    · obtain ⟨ob, off, u, rfl, bl, o0, pu⟩ := (AA.out.below BW.out).at_ (j := i) (by rw [HN.out]; exact hin)
      have PU0 := pu
      obtain ⟨au, cu, rfl, _⟩ := pu.form
      have BD := Lib.hid (fun hb => fstE_at (k := 2) (i := i) (by rw [HN.out]; exact hin) GG.out hb)
      obtain ⟨l, hl⟩ : ∃ l, ls.getD i [] = l := ⟨_, rfl⟩
      rw [hl] at o0 PU0 BD pu
      have HL1 := Lib.hid hl
      obtain ⟨m, hm⟩ : ∃ m, l.length = m := ⟨_, rfl⟩
      have HM2 := Lib.hid hm
      rw [hm] at o0 PU0
      have PU := Lib.hid PU0
      obtain ⟨k1, hk1⟩ : ∃ k1, i + 1 = k1 := ⟨_, rfl⟩
      have HK := Lib.hid hk1
      have k0 : (0 : Int) ≤ (i : Int) := by omega
      have kl : (i : Int) < (n : Int) := by omega
      have e1 : (i : Int) + 1 = (k1 : Int) := by omega
      have e2 : IntKind.i64.wrap (k1 : Int) = (k1 : Int) := by rw [IntKind.wrap_i64]; have := HM.out; omega
      clear hk1 pu PU0 hl hm
      by_cases hs : shK 2 l.length
      · have fs : (m : Int) < 2 := by unfold shK at hs; rw [HM2.out] at hs; simp at hs ⊢; omega
        have V := Lib.hid ((BD.out (by rw [cpt_short hs]; decide)).trans (cpt_short hs))
        clear BD GG hs
        go_wp2_with fail
        go_ret
        exact ⟨by rw [V.out]; rfl, by first | exact BB.out.trans (BW.out.mono BB.out.size) | (rw [← hB0]; exact BB.out.trans (BW.out.mono BB.out.size))⟩
      · have fs : ¬ (m : Int) < 2 := by unfold shK at hs; rw [HM2.out] at hs; simp at hs ⊢; omega
        by_cases hl : 8000 < l.length
        · have fl : (8000 : Int) < (m : Int) := by have := HM2.out; omega
          have V := Lib.hid ((BD.out (by rw [cpt_long hs hl]; decide)).trans (cpt_long hs hl))
          clear BD GG hs hl
          go_wp2_with fail
          go_ret
          exact ⟨by rw [V.out]; rfl, by first | exact BB.out.trans (BW.out.mono BB.out.size) | (rw [← hB0]; exact BB.out.trans (BW.out.mono BB.out.size))⟩
        · have fl : ¬ (8000 : Int) < (m : Int) := by have := HM2.out; omega
          have BAD := Lib.hid (fun j hj hb => (BD.out (by rw [cpt_bad hs hl (j := j) (by rw [HM2.out]; exact hj) hb]; decide)).trans (cpt_bad hs hl (j := j) (by rw [HM2.out]; exact hj) hb))
          have OK := Lib.hid (fun hb => cpt_ok hs hl hb)
          have FL := Lib.hid fl
          have BL := Lib.hid bl
          clear BD hs hl bl
          have O0 := Lib.hid o0
          go_wp2_with fail
          clear fs fl q0 q1 o0
          obtain ⟨wo, rfl⟩ : ∃ wo, wo = wr := ⟨wr, rfl⟩
          go_loopw [5] (fun s wr' => ∃ i2 : Nat, i2 ≤ m ∧ s = .int .i64 (i2 : Int) ∧ Hid (∀ j, j < i2 → inE (l.getD j (0, 0))) ∧ Hid (Below wo.heap.size wo wr')) (fun s _ => m - (intOf s).toNat)
          case atStart => exact ⟨0, Nat.zero_le _, rfl, fun j hj => absurd hj (by omega), Below.refl _ _⟩
          case round =>
            obtain ⟨i2, hi2, rfl, GG2, BW2⟩ := hrel
            have BWW := Lib.hid (BW.out.trans (BW2.out.mono BW.out.size))
            have r2 := R1.out.below BWW.out R1.out.lt
            have q0 := r2.cell (i := 0) rfl; have q1 := r2.cell (i := 1) rfl
            have o0 : wr.cell? ⟨ob, off + i, none⟩ = some (.slice au m cu) := by rw [BW2.out.cell BL.out]; exact O0.out
            clear r2
            by_cases hin2 : i2 < m
            · obtain ⟨b, off2, rfl, bl2, p0, p1⟩ := (PU.out.below BW2.out).at_ (j := i2) (by rw [HM2.out]; exact hin2)
              obtain ⟨⟨x, y⟩, hz⟩ : ∃ z, l.getD i2 (0, 0) = z := ⟨_, rfl⟩
              rw [hz] at p0 p1
              dsimp only at p0 p1
              have HZ := Lib.hid hz
              obtain ⟨k2, hk2⟩ : ∃ k2, i2 + 1 = k2 := ⟨_, rfl⟩
              have HK2 := Lib.hid hk2
              have k20 : (0 : Int) ≤ (i2 : Int) := by omega
              have kl2 : (i2 : Int) < (m : Int) := by omega
              have e12 : (i2 : Int) + 1 = (k2 : Int) := by omega
              have e22 : IntKind.i64.wrap (k2 : Int) = (k2 : Int) := by rw [IntKind.wrap_i64]; have := FL.out; omega
              obtain ⟨xb, hxb⟩ : ∃ xb, wr.heap.size = xb := ⟨_, rfl⟩
              obtain ⟨W2, hW2⟩ : ∃ W2, wr.alloc (.cells #[.int .i64 x, .int .i64 y] 44) = W2 := ⟨_, rfl⟩
              have r2 : Row W2 xb 44 [.int .i64 x, .int .i64 y] := by rw [← hW2, ← hxb]; exact Row.new _ _ _
              have b2 : Below wr.heap.size wr W2 := by rw [← hW2]; exact (Below.refl _ _).alloc (Nat.le_refl _) _
              have x0 := r2.cell (i := 0) rfl; have x1 := r2.cell (i := 1) rfl
              have B2 := Lib.hid (BW2.out.trans (b2.mono BW2.out.size))
              have B3 := Lib.hid (BWW.out.trans (b2.mono BWW.out.size))
              clear hz hk2 r2 b2 bl2
              by_cases c0 : x < 0
              · have V := Lib.hid (BAD.out i2 hin2 (by rw [HZ.out]; unfold inE; simp; omega))
                clear BAD OK GG GG2
                go_wp2_with fail
                go_ret
                exact ⟨by rw [V.out]; rfl, by first | exact BB.out.trans (B3.out.mono BB.out.size) | (rw [← hB0]; exact BB.out.trans (B3.out.mono BB.out.size))⟩
              · by_cases c1 : 256 < x
                · have V := Lib.hid (BAD.out i2 hin2 (by rw [HZ.out]; unfold inE; simp; omega))
                  clear BAD OK GG GG2
                  go_wp2_with fail
                  go_ret
                  exact ⟨by rw [V.out]; rfl, by first | exact BB.out.trans (B3.out.mono BB.out.size) | (rw [← hB0]; exact BB.out.trans (B3.out.mono BB.out.size))⟩
                · by_cases c2 : y < 0
                  · have V := Lib.hid (BAD.out i2 hin2 (by rw [HZ.out]; unfold inE; simp; omega))
                    clear BAD OK GG GG2
                    go_wp2_with fail
                    go_ret
                    exact ⟨by rw [V.out]; rfl, by first | exact BB.out.trans (B3.out.mono BB.out.size) | (rw [← hB0]; exact BB.out.trans (B3.out.mono BB.out.size))⟩
                  · by_cases c3 : 256 < y
                    · have V := Lib.hid (BAD.out i2 hin2 (by rw [HZ.out]; unfold inE; simp; omega))
                      clear BAD OK GG GG2
                      go_wp2_with fail
                      go_ret
                      exact ⟨by rw [V.out]; rfl, by first | exact BB.out.trans (B3.out.mono BB.out.size) | (rw [← hB0]; exact BB.out.trans (B3.out.mono BB.out.size))⟩
                    · have G2 : Hid (∀ j, j < k2 → inE (l.getD j (0, 0))) := by
                        intro j hj
                        by_cases e : j = i2
                        · rw [e, HZ.out]; unfold inE; simp; omega
                        · exact GG2.out j (by have := HK2.out; omega)
                      clear BAD OK GG GG2
                      go_wp2_with fail
                      go_roundw
                      case measure => simp [intOf]; have := HK2.out; omega
                      case rel => exact ⟨k2, by have := HK2.out; omega, rfl, G2, B2⟩
            · have kl2 : ¬ (i2 : Int) < (m : Int) := by omega
              have G2 : Hid (∀ j, j < k1 → cpt 2 (ls.getD j []) = 0) := by
                intro j hj
                by_cases e : j = i
                · rw [e, HL1.out]; exact OK.out (fun j hj => GG2.out j (by have := HM2.out; omega))
                · exact GG.out j (by have := HK.out; omega)
              clear BAD OK GG GG2
              go_wp2_with fail
              go_roundw
              case measure => simp [intOf]; have := HK.out; omega
              case rel => exact ⟨k1, by have := HK.out; omega, rfl, G2, BWW⟩
    · have kl : ¬ (i : Int) < (n : Int) := by omega
      have V := Lib.hid (fstE_ok (k := 2) (fun j hj => GG.out j (by have := HN.out; omega)))
      clear GG
      go_wp2_with fail
      go_ret
      exact ⟨by rw [V.out]; rfl, by first | exact BB.out.trans (BW.out.mono BB.out.size) | (rw [← hB0]; exact BB.out.trans (BW.out.mono BB.out.size))⟩
set_option maxRecDepth 100000 in
set_option maxHeartbeats 8000000 in
theorem checkr_3 {w : World} {v : Value} {ls : List (List Pt)} (h : RowsAt w v ls) (hm : ls.length ≤ 1000000) (h0 : ls ≠ []) : Calls Tryd.prog 12 #[gv 3 v] w fun e w' => e = .returned (.int .i64 (fstE 3 ls)) ∧ Below w.heap.size w w' := by
  have A0 := h
  obtain ⟨a, cap, rfl⟩ := h.form
  obtain ⟨n, hn⟩ : ∃ n, ls.length = n := ⟨_, rfl⟩
  obtain ⟨B0, hB0⟩ : ∃ B0, w.heap.size = B0 := ⟨_, rfl⟩
  rw [hn]
  obtain ⟨W1, hW1⟩ : ∃ W1, w.alloc (.cells #[.int .i64 3, .slice a n cap] 24) = W1 := ⟨_, rfl⟩
  have r1 : Row W1 B0 24 [.int .i64 3, .slice a n cap] := by rw [← hW1, ← hB0]; exact Row.new _ _ _
  have q0 := r1.cell (i := 0) rfl; have q1 := r1.cell (i := 1) rfl
  have BB := Lib.hid (show Below w.heap.size w W1 by rw [← hW1]; exact (Below.refl _ _).alloc (Nat.le_refl _) _)
  have R1 := Lib.hid r1
  have n0 : ((n : Int) == 0) = false := by
    rw [beq_eq_false_iff_ne]; intro e
    exact h0 (List.eq_nil_of_length_eq_zero (by omega))
  have HN := Lib.hid hn
  have HM := Lib.hid (show n ≤ 1000000 by omega)
  have AA := Lib.hid (A0.below BB.out)
  rw [hn] at AA
  clear A0 h r1 h0 hn hm
  go_enter Tryd.func12, Tryd.ntmps12
  go_wp2_with fail
  clear q0 q1 hW1 n0
  go_loopw [3] (fun s wr => ∃ i : Nat, i ≤ n ∧ s = .int .i64 (i : Int) ∧ Hid (∀ j, j < i → cpt 3 (ls.getD j []) = 0) ∧ Hid (Below W1.heap.size W1 wr)) (fun s _ => n - (intOf s).toNat)
  case atStart => exact ⟨0, Nat.zero_le _, rfl, fun j hj => absurd hj (by omega), Below.refl _ _⟩
  case round =>
    obtain ⟨i, hi, rfl, GG, BW⟩ := hrel
    have r2 := R1.out.below BW.out R1.out.lt
    have q0 := r2.cell (i := 0) rfl; have q1 := r2.cell (i := 1) rfl
    clear r2
    by_cases hin : i < n
    · obtain ⟨ob, off, u, rfl, bl, o0, pu⟩ := (AA.out.below BW.out).at_ (j := i) (by rw [HN.out]; exact hin)
      have PU0 := pu
      obtain ⟨au, cu, rfl, _⟩ := pu.form
      have BD := Lib.hid (fun hb => fstE_at (k := 3) (i := i) (by rw [HN.out]; exact hin) GG.out hb)
      obtain ⟨l, hl⟩ : ∃ l, ls.getD i [] = l := ⟨_, rfl⟩
      rw [hl] at o0 PU0 BD pu
      have HL1 := Lib.hid hl
      obtain ⟨m, hm⟩ : ∃ m, l.length = m := ⟨_, rfl⟩
      have HM2 := Lib.hid hm
      rw [hm] at o0 PU0
      have PU := Lib.hid PU0
      obtain ⟨k1, hk1⟩ : ∃ k1, i + 1 = k1 := ⟨_, rfl⟩
      have HK := Lib.hid hk1
      have k0 : (0 : Int) ≤ (i : Int) := by omega
      have kl : (i : Int) < (n : Int) := by omega
      have e1 : (i : Int) + 1 = (k1 : Int) := by omega
      have e2 : IntKind.i64.wrap (k1 : Int) = (k1 : Int) := by rw [IntKind.wrap_i64]; have := HM.out; omega
      clear hk1 pu PU0 hl hm
      by_cases hs : shK 3 l.length
      · have fs : (m : Int) < 3 := by unfold shK at hs; rw [HM2.out] at hs; simp at hs ⊢; omega
        have V := Lib.hid ((BD.out (by rw [cpt_short hs]; decide)).trans (cpt_short hs))
        clear BD GG hs
        go_wp2_with fail
        go_ret
        exact ⟨by rw [V.out]; rfl, by first | exact BB.out.trans (BW.out.mono BB.out.size) | (rw [← hB0]; exact BB.out.trans (BW.out.mono BB.out.size))⟩
      · have fs : ¬ (m : Int) < 3 := by unfold shK at hs; rw [HM2.out] at hs; simp at hs ⊢; omega
        by_cases hl : 8000 < l.length
        · have fl : (8000 : Int) < (m : Int) := by have := HM2.out; omega
          have V := Lib.hid ((BD.out (by rw [cpt_long hs hl]; decide)).trans (cpt_long hs hl))
          clear BD GG hs hl
          go_wp2_with fail
          go_ret
          exact ⟨by rw [V.out]; rfl, by first | exact BB.out.trans (BW.out.mono BB.out.size) | (rw [← hB0]; exact BB.out.trans (BW.out.mono BB.out.size))⟩
        · have fl : ¬ (8000 : Int) < (m : Int) := by have := HM2.out; omega
          have BAD := Lib.hid (fun j hj hb => (BD.out (by rw [cpt_bad hs hl (j := j) (by rw [HM2.out]; exact hj) hb]; decide)).trans (cpt_bad hs hl (j := j) (by rw [HM2.out]; exact hj) hb))
          have OK := Lib.hid (fun hb => cpt_ok hs hl hb)
          have FL := Lib.hid fl
          have BL := Lib.hid bl
          clear BD hs hl bl
          have O0 := Lib.hid o0
          go_wp2_with fail
          clear fs fl q0 q1 o0
          obtain ⟨wo, rfl⟩ : ∃ wo, wo = wr := ⟨wr, rfl⟩
          go_loopw [5] (fun s wr' => ∃ i2 : Nat, i2 ≤ m ∧ s = .int .i64 (i2 : Int) ∧ Hid (∀ j, j < i2 → inE (l.getD j (0, 0))) ∧ Hid (Below wo.heap.size wo wr')) (fun s _ => m - (intOf s).toNat)
          case atStart => exact ⟨0, Nat.zero_le _, rfl, fun j hj => absurd hj (by omega), Below.refl _ _⟩
          case round =>
            obtain ⟨i2, hi2, rfl, GG2, BW2⟩ := hrel
            have BWW := Lib.hid (BW.out.trans (BW2.out.mono BW.out.size))
            have r2 := R1.out.below BWW.out R1.out.lt
            have q0 := r2.cell (i := 0) rfl; have q1 := r2.cell (i := 1) rfl
            have o0 : wr.cell? ⟨ob, off + i, none⟩ = some (.slice au m cu) := by rw [BW2.out.cell BL.out]; exact O0.out
            clear r2
            by_cases hin2 : i2 < m
            · obtain ⟨b, off2, rfl, bl2, p0, p1⟩ := (PU.out.below BW2.out).at_ (j := i2) (by rw [HM2.out]; exact hin2)
              obtain ⟨⟨x, y⟩, hz⟩ : ∃ z, l.getD i2 (0, 0) = z := ⟨_, rfl⟩
              rw [hz] at p0 p1
              dsimp only at p0 p1
              have HZ := Lib.hid hz
              obtain ⟨k2, hk2⟩ : ∃ k2, i2 + 1 = k2 := ⟨_, rfl⟩
              have HK2 := Lib.hid hk2
              have k20 : (0 : Int) ≤ (i2 : Int) := by omega
              have kl2 : (i2 : Int) < (m : Int) := by omega
              have e12 : (i2 : Int) + 1 = (k2 : Int) := by omega
              have e22 : IntKind.i64.wrap (k2 : Int) = (k2 : Int) := by rw [IntKind.wrap_i64]; have := FL.out; omega
              obtain ⟨xb, hxb⟩ : ∃ xb, wr.heap.size = xb := ⟨_, rfl⟩
              obtain ⟨W2, hW2⟩ : ∃ W2, wr.alloc (.cells #[.int .i64 x, .int .i64 y] 44) = W2 := ⟨_, rfl⟩
              have r2 : Row W2 xb 44 [.int .i64 x, .int .i64 y] := by rw [← hW2, ← hxb]; exact Row.new _ _ _
              have b2 : Below wr.heap.size wr W2 := by rw [← hW2]; exact (Below.refl _ _).alloc (Nat.le_refl _) _
              have x0 := r2.cell (i := 0) rfl; have x1 := r2.cell (i := 1) rfl
              have B2 := Lib.hid (BW2.out.trans (b2.mono BW2.out.size))
              have B3 := Lib.hid (BWW.out.trans (b2.mono BWW.out.size))
              clear hz hk2 r2 b2 bl2
              by_cases c0 : x < 0
              · have V := Lib.hid (BAD.out i2 hin2 (by rw [HZ.out]; unfold inE; simp; omega))
                clear BAD OK GG GG2
                go_wp2_with fail
                go_ret
                exact ⟨by rw [V.out]; rfl, by first | exact BB.out.trans (B3.out.mono BB.out.size) | (rw [← hB0]; exact BB.out.trans (B3.out.mono BB.out.size))⟩
              · by_cases c1 : 256 < x
                · have V := Lib.hid (BAD.out i2 hin2 (by rw [HZ.out]; unfold inE; simp; omega))
                  clear BAD OK GG GG2
                  go_wp2_with fail
                  go_ret
                  exact ⟨by rw [V.out]; rfl, by first | exact BB.out.trans (B3.out.mono BB.out.size) | (rw [← hB0]; exact BB.out.trans (B3.out.mono BB.out.size))⟩
                · by_cases c2 : y < 0
                  · have V := Lib.hid (BAD.out i2 hin2 (by rw [HZ.out]; unfold inE; simp; omega))
                    clear BAD OK GG GG2
                    go_wp2_with fail
                    go_ret
                    exact ⟨by rw [V.out]; rfl, by first | exact BB.out.trans (B3.out.mono BB.out.size) | (rw [← hB0]; exact BB.out.trans (B3.out.mono BB.out.size))⟩
                  · by_cases c3 : 256 < y
                    · have V := Lib.hid (BAD.out i2 hin2 (by rw [HZ.out]; unfold inE; simp; omega))
                      clear BAD OK GG GG2
                      go_wp2_with fail
                      go_ret
                      exact ⟨by rw [V.out]; rfl, by first | exact BB.out.trans (B3.out.mono BB.out.size) | (rw [← hB0]; exact BB.out.trans (B3.out.mono BB.out.size))⟩
                    · have G2 : Hid (∀ j, j < k2 → inE (l.getD j (0, 0))) := by
                        intro j hj
                        by_cases e : j = i2
                        · rw [e, HZ.out]; unfold inE; simp; omega
                        · exact GG2.out j (by have := HK2.out; omega)
                      clear BAD OK GG GG2
                      go_wp2_with fail
                      go_roundw
                      case measure => simp [intOf]; have := HK2.out; omega
                      case rel => exact ⟨k2, by have := HK2.out; omega, rfl, G2, B2⟩
            · have kl2 : ¬ (i2 : Int) < (m : Int) := by omega
              have G2 : Hid (∀ j, j < k1 → cpt 3 (ls.getD j []) = 0) := by
                intro j hj
                by_cases e : j = i
                · rw [e, HL1.out]; exact OK.out (fun j hj => GG2.out j (by have := HM2.out; omega))
                · exact GG.out j (by have := HK.out; omega)
              clear BAD OK GG GG2
              go_wp2_with fail
              go_roundw
              case measure => simp [intOf]; have := HK.out; omega
              case rel => exact ⟨k1, by have := HK.out; omega, rfl, G2, BWW⟩
    · have kl : ¬ (i : Int) < (n : Int) := by omega
      have V := Lib.hid (fstE_ok (k := 3) (fun j hj => GG.out j (by have := HN.out; omega)))
      clear GG
      go_wp2_with fail
      go_ret
      exact ⟨by rw [V.out]; rfl, by first | exact BB.out.trans (BW.out.mono BB.out.size) | (rw [← hB0]; exact BB.out.trans (BW.out.mono BB.out.size))⟩
theorem checkr_any {w : World} {k : Int} {v : Value} {ls : List (List Pt)} (h : RowsAt w v ls) (hm : ls.length ≤ 1000000) : Calls Tryd.prog 12 #[gv k v] w fun e w' => e = .returned (.int .i64 (chk k ls)) ∧ Below w.heap.size w w' := by
  by_cases hk : vK k
  · by_cases h0 : ls = []
    · rw [chk_nil hk h0]
      subst h0
      obtain ⟨a, cap, rfl⟩ := h.form
      obtain ⟨W1, hW1⟩ : ∃ W1, w.alloc (.cells #[.int .i64 k, .slice a 0 cap] 24) = W1 := ⟨_, rfl⟩
      have r1 : Row W1 w.heap.size 24 [.int .i64 k, .slice a 0 cap] := by rw [← hW1]; exact Row.new _ _ _
      have q0 := r1.cell (i := 0) rfl; have q1 := r1.cell (i := 1) rfl
      have BB := Lib.hid (show Below w.heap.size w W1 by rw [← hW1]; exact (Below.refl _ _).alloc (Nat.le_refl _) _)
      unfold vK at hk
      have k1 : ¬ k < 1 := by omega
      have k3 : ¬ 3 < k := by omega
      clear r1 h hm hk
      go_enter Tryd.func12, Tryd.ntmps12
      go_wp2_with fail
      go_ret
      exact ⟨rfl, BB.out⟩
    · rw [chk_fst hk h0]
      have h3 : k = 1 ∨ k = 2 ∨ k = 3 := by unfold vK at hk; omega
      rcases h3 with rfl | rfl | rfl
      · exact checkr_1 h hm h0
      · exact checkr_2 h hm h0
      · exact checkr_3 h hm h0
  · rw [chk_kind hk]
    obtain ⟨a, cap, rfl⟩ := h.form
    obtain ⟨n, hn⟩ : ∃ n, ls.length = n := ⟨_, rfl⟩
    rw [hn]
    obtain ⟨W1, hW1⟩ : ∃ W1, w.alloc (.cells #[.int .i64 k, .slice a n cap] 24) = W1 := ⟨_, rfl⟩
    have r1 : Row W1 w.heap.size 24 [.int .i64 k, .slice a n cap] := by rw [← hW1]; exact Row.new _ _ _
    have q0 := r1.cell (i := 0) rfl; have q1 := r1.cell (i := 1) rfl
    have BB := Lib.hid (show Below w.heap.size w W1 by rw [← hW1]; exact (Below.refl _ _).alloc (Nat.le_refl _) _)
    by_cases k1 : k < 1
    · clear r1 h hm hk hn
      go_enter Tryd.func12, Tryd.ntmps12
      go_wp2_with fail
      go_ret
      exact ⟨rfl, BB.out⟩
    · have k3 : 3 < k := by unfold vK at hk; omega
      clear r1 h hm hk hn
      go_enter Tryd.func12, Tryd.ntmps12
      go_wp2_with fail
      go_ret
      exact ⟨rfl, BB.out⟩
end Go.Proofs.YthlbenldgnjgcaaDoor
