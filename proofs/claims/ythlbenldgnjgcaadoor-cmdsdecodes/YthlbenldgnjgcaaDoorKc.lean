/- cmds: the program's Check of a geometry. -/
import Derived.Test.YthlbenldgnjgcaaDoorKb
namespace Go.Proofs.YthlbenldgnjgcaaDoor
open Go.ChangeShapes Go.WideShapes Go.ChangeAt Go.RowKit Go.Joins Go.Deep

set_option maxRecDepth 100000 in
set_option maxHeartbeats 4000000 in
theorem check_any {w : World} {k : Int} {v : Value} {ls : List (List Pt)} (h : RowsAt w v ls) (hm : ls.length ≤ 1000000) : Calls Tryd.prog 11 #[gv k v] w fun e w' => e = .returned (.int .i64 (chk k ls)) ∧ Below w.heap.size w w' := by
  have A0 := h
  obtain ⟨a, cap, rfl⟩ := h.form
  obtain ⟨n, hn⟩ : ∃ n, ls.length = n := ⟨_, rfl⟩
  obtain ⟨B0, hB0⟩ : ∃ B0, w.heap.size = B0 := ⟨_, rfl⟩
  rw [hn]
  obtain ⟨W1, hW1⟩ : ∃ W1, w.alloc (.cells #[.int .i64 k, .slice a n cap] 24) = W1 := ⟨_, rfl⟩
  have r1 : Row W1 B0 24 [.int .i64 k, .slice a n cap] := by rw [← hW1, ← hB0]; exact Row.new _ _ _
  have q0 := r1.cell (i := 0) rfl; have q1 := r1.cell (i := 1) rfl
  have BB := Lib.hid (show Below w.heap.size w W1 by rw [← hW1]; exact (Below.refl _ _).alloc (Nat.le_refl _) _)
  have R1 := Lib.hid r1
  have Q := Lib.hid (validKind_any k W1)
  by_cases hk : vK k
  · rw [decide_eq_true hk] at Q
    by_cases h0 : ls = []
    · rw [chk_nil hk h0]
      have n0 : n = 0 := by rw [← hn, h0]; rfl
      subst n0
      clear A0 h r1 hk h0 hn hm
      go_enter Tryd.func11, Tryd.ntmps11
      go_wp2_with fail
      refine Q.out.mono ?_; rintro e w3 ⟨rfl, rfl⟩
      go_wp2_with fail
      go_ret
      exact ⟨rfl, BB.out⟩
    · rw [chk_fst hk h0]
      have n0 : ((n : Int) == 0) = false := by
        rw [beq_eq_false_iff_ne]; intro e
        exact h0 (List.eq_nil_of_length_eq_zero (by omega))
      have HN := Lib.hid hn
      have HM := Lib.hid (show n ≤ 1000000 by omega)
      have AA := Lib.hid (A0.below BB.out)
      have KK := Lib.hid hk
      rw [hn] at AA
      clear A0 h r1 hk h0 hn hm
      go_enter Tryd.func11, Tryd.ntmps11
      go_wp2_with fail
      refine Q.out.mono ?_; rintro e w3 ⟨rfl, rfl⟩
      clear Q
      go_wp2_with fail
      clear q0 q1 hW1 n0
      go_loopw [17] (fun s wr => ∃ i : Nat, i ≤ n ∧ s = .int .i64 (i : Int) ∧ Hid (∀ j, j < i → cpt k (ls.getD j []) = 0) ∧ Hid (Below w3.heap.size w3 wr)) (fun s _ => n - (intOf s).toNat)
      case atStart => exact ⟨0, Nat.zero_le _, rfl, fun j hj => absurd hj (by omega), Below.refl _ _⟩
      case round =>
        obtain ⟨i, hi, rfl, GG, BW⟩ := hrel
        have r2 := R1.out.below BW.out R1.out.lt
        have q0 := r2.cell (i := 0) rfl; have q1 := r2.cell (i := 1) rfl
        clear r2
        by_cases hin : i < n
        · obtain ⟨ob, off, u, rfl, bl, o0, pu⟩ := (AA.out.below BW.out).at_ (j := i) (by rw [HN.out]; exact hin)
          obtain ⟨au, cu, hu, _⟩ := pu.form
          have PU := Lib.hid pu
          have BD := Lib.hid (fun hb => fstE_at (k := k) (i := i) (by rw [HN.out]; exact hin) GG.out hb)
          obtain ⟨k1, hk1⟩ : ∃ k1, i + 1 = k1 := ⟨_, rfl⟩
          have HK := Lib.hid hk1
          have k0 : (0 : Int) ≤ (i : Int) := by omega
          have kl : (i : Int) < (n : Int) := by omega
          have e1 : (i : Int) + 1 = (k1 : Int) := by omega
          have e2 : IntKind.i64.wrap (k1 : Int) = (k1 : Int) := by rw [IntKind.wrap_i64]; have := HM.out; omega
          have Q := Lib.hid (checkPart_any pu KK.out)
          obtain ⟨c, hc⟩ : ∃ c, cpt k (ls.getD i []) = c := ⟨_, rfl⟩
          have HC := Lib.hid hc
          rw [hc] at Q BD
          clear hk1 bl pu hc hu
          go_wp2_with fail
          refine Q.out.mono ?_; rintro e w4 ⟨rfl, b3⟩
          have B3 := Lib.hid (BW.out.trans (b3.mono BW.out.size))
          clear b3 Q
          by_cases c0 : c = 0
          · subst c0
            have G2 : Hid (∀ j, j < k1 → cpt k (ls.getD j []) = 0) := by
              intro j hj
              by_cases e : j = i
              · rw [e]; exact HC.out
              · exact GG.out j (by have := HK.out; omega)
            clear BD GG
            go_wp2_with fail
            go_roundw
            case measure => simp [intOf]; have := HK.out; omega
            case rel => exact ⟨k1, by have := HK.out; omega, rfl, G2, B3⟩
          · have V := Lib.hid (BD.out c0)
            have cn : (c != 0) = true := by simpa using c0
            clear BD GG
            go_wp2_with fail
            go_ret
            exact ⟨by rw [V.out]; rfl, by first | exact BB.out.trans (B3.out.mono BB.out.size) | (rw [← hB0]; exact BB.out.trans (B3.out.mono BB.out.size))⟩
        · have kl : ¬ (i : Int) < (n : Int) := by omega
          have V := Lib.hid (fstE_ok (k := k) (fun j hj => GG.out j (by have := HN.out; omega)))
          clear GG
          go_wp2_with fail
          go_ret
          exact ⟨by rw [V.out]; rfl, by first | exact BB.out.trans (BW.out.mono BB.out.size) | (rw [← hB0]; exact BB.out.trans (BW.out.mono BB.out.size))⟩
  · rw [chk_kind hk]
    rw [decide_eq_false hk] at Q
    clear A0 h r1 hk hn hm
    go_enter Tryd.func11, Tryd.ntmps11
    go_wp2_with fail
    refine Q.out.mono ?_; rintro e w3 ⟨rfl, rfl⟩
    go_wp2_with fail
    go_ret
    exact ⟨rfl, BB.out⟩
end Go.Proofs.YthlbenldgnjgcaaDoor
