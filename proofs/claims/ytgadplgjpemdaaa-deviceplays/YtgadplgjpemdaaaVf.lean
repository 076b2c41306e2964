/- device: DeviceSizes. -/
import Derived.Test.YtgadplgjpemdaaaVe
set_option linter.unusedSimpArgs false
namespace Go.Proofs.Ytgadplgjpemdaaa
open Go.ChangeShapes Go.WideShapes Go.ChangeAt Go.RowKit Go.Joins Go.Deep

def sZero : ByteArray := ⟨zb.toArray⟩
theorem run_mk (w : World) : Sem.run Try.prog (Instr.makeSlice 46 (.int .i64 64) (.int .i64 64)) w = .ok (.slice (some ⟨w.heap.size, 0, none⟩) 64 64) (w.alloc (.cells (Lib.byteCells zb).toArray 5)) := by
  obtain ⟨i0, hi, hz0, hz1, hz2⟩ := info_parts (show (Try.prog.info? 5).map (fun i => (i.zero, i.size, i.bytes)) = some (some (.int .u8 0), 1, 1) by kernel_rfl)
  have h := run_make (P := Try.prog) w 46 5 i0 (.int .u8 0) Try.underlying46 hi hz0 .i64 .i64 64 64 (by decide) (by decide) (by rw [hz2]; decide) (by decide)
  rw [h, hz1]
  have e : madeCells (Value.int IntKind.u8 0).cells (Int.toNat 64 * 1) = (Lib.byteCells zb).toArray := by kernel_rfl
  rw [e]; rfl
theorem run_cz (w : World) (b : Nat) (h : w.heap[b]? = some (.cells (Lib.byteCells zb).toArray 5 (0, 0))) : Sem.run Try.prog (convert 46 9 (.slice (some ⟨b, 0, none⟩) 64 64)) w = .ok (.string sZero) w := by
  have k := run_conv w ⟨b, 0, none⟩ 64 zb (fun j hj => by
    rw [Addr.add_mid, Nat.zero_add, cell_of_row w b j _ 5 (0, 0) h]
    have := byteCells_at hj
    simpa using this)
  exact k
theorem rd_zero {n : Nat} {q : Nat} (h : q < n) : rd n (zbs n) (q : Int) = sZero := by
  unfold rd; rw [if_neg (by omega), Int.toNat_natCast]
  unfold zbs sZero
  rw [List.getD, List.getElem?_replicate, if_pos h]; rfl
set_option maxRecDepth 100000 in
set_option maxHeartbeats 4000000 in
theorem sizes_none (x i : Int) (w : World) (h : x < 1 ∨ 65536 < x) : Calls Try.prog 4 #[.int .i64 x, .int .i64 i] w fun e w' => e = .returned (.bool true) ∧ Below w.heap.size w w' := by
  have NN := Lib.hid (new_none w x h)
  have fin : ∀ (d1 : decide (1 ≤ x) = false ∨ (decide (1 ≤ x) = true ∧ decide (x ≤ 65536) = false)), Calls Try.prog 4 #[.int .i64 x, .int .i64 i] w fun e w' => e = .returned (.bool true) ∧ Below w.heap.size w w' := by
    intro d1
    rcases d1 with d1 | ⟨d1, d2⟩
    all_goals
      clear h
      go_enter Try.func4, Try.ntmps4
      go_wp2_with fail
      refine NN.out.mono ?_; rintro e w1 ⟨rfl, rfl⟩
      clear NN
      go_wp2_with fail
      refine (read_nil _ i).mono ?_; rintro e w2 ⟨rfl, rfl⟩
      go_wp2_with fail
      refine (limit_nil _ i).mono ?_; rintro e w3 ⟨rfl, rfl⟩
      go_wp2_with fail
      refine (blocks_nil _).mono ?_; rintro e w4 ⟨rfl, rfl⟩
      go_wp2_with fail
      refine (writes_nil _).mono ?_; rintro e w5 ⟨rfl, rfl⟩
      go_wp2_with fail
      refine (after_nil _ i).mono ?_; rintro e w6 ⟨rfl, rfl⟩
      go_wp2_with fail
      refine (write_nil _ i _).mono ?_; rintro e w7 ⟨rfl, rfl⟩
      go_wp2_with fail
      refine (lives_any _).mono ?_; rintro e w8 ⟨rfl, b⟩
      have BB := Lib.hid b
      clear b
      go_wp2_with fail
      go_ret
      exact ⟨rfl, BB.out⟩
  by_cases h1 : 1 ≤ x
  · exact fin (Or.inr ⟨by simpa using h1, by simp; omega⟩)
  · exact fin (Or.inl (by simp; omega))
set_option maxRecDepth 100000 in
set_option maxHeartbeats 4000000 in
theorem sizes_some (n : Nat) (i : Int) (w : World) (h1 : 1 ≤ n) (h2 : n ≤ 65536) : Calls Try.prog 4 #[.int .i64 (n : Int), .int .i64 i] w fun e w' => e = .returned (.bool true) ∧ Below w.heap.size w w' := by
  have NN := Lib.hid (new_any w n h1 h2)
  have d1 : decide ((1 : Int) ≤ (n : Int)) = true := by simp; omega
  have d1' : decide (1 ≤ n) = true := by simp; omega
  have d1'' : (1 : Int) ≤ (n : Int) := by omega
  have d2 : decide ((n : Int) ≤ 65536) = true := by simp; omega
  have d2' : decide (n ≤ 65536) = true := by simp; omega
  have d2'' : (n : Int) ≤ 65536 := by omega
  by_cases hb : i < 0 ∨ (n : Int) ≤ i
  · have V : Hid (rd n (zbs n) i = ByteArray.empty) := if_pos hb
    have E : Hid (cerr n i = 2) := if_pos hb
    have fin : ∀ (d3 : decide (i < 0) = true ∨ (decide (i < 0) = false ∧ decide ((n : Int) ≤ i) = true)), Calls Try.prog 4 #[.int .i64 (n : Int), .int .i64 i] w fun e w' => e = .returned (.bool true) ∧ Below w.heap.size w w' := by
      intro d3
      rcases d3 with d3 | ⟨d3, d4⟩
      all_goals
        clear h1 h2 hb
        go_enter Try.func4, Try.ntmps4
        go_wp2_with fail
        refine NN.out.mono ?_; rintro e w1 ⟨D, rfl, hd, b⟩
        have D1 := Lib.hid hd; have B1 := Lib.hid b
        clear NN hd b
        go_wp2_with fail
        refine (read_any D1.out i).mono ?_; rintro e w2 ⟨rfl, hw⟩
        subst hw
        rw [V.out, E.out]
        go_wp2_with fail
        refine (blocks_any D1.out).mono ?_; rintro e w4 ⟨rfl, hw⟩
        subst hw
        go_wp2_with fail
        refine (lives_any _).mono ?_; rintro e w8 ⟨rfl, b⟩
        have BB := Lib.hid (B1.out.trans (b.mono B1.out.size))
        clear b
        go_wp2_with fail
        go_ret
        exact ⟨rfl, BB.out⟩
    by_cases h3 : i < 0
    · exact fin (Or.inl (by simpa using h3))
    · exact fin (Or.inr ⟨by simpa using h3, by simp; omega⟩)
  · obtain ⟨q, rfl⟩ : ∃ q : Nat, i = (q : Int) := ⟨i.toNat, by omega⟩
    have hq : q < n := by omega
    have V := Lib.hid (rd_zero hq)
    have E : Hid (cerr n (q : Int) = 0) := if_neg hb
    have d3 : decide ((q : Int) < 0) = false := by simp
    have d3' : ¬ (q : Int) < 0 := by omega
    have d4 : decide ((n : Int) ≤ (q : Int)) = false := by simp; omega
    have d4' : decide (n ≤ q) = false := by simp; omega
    have d4'' : ¬ (n : Int) ≤ (q : Int) := by omega
    obtain ⟨zs, hzs⟩ : ∃ zs, sZero = zs := ⟨_, rfl⟩
    have MK := run_mk
    have CZ : ∀ w : World, Sem.run Try.prog (convert 46 9 (.slice (some ⟨w.heap.size, 0, none⟩) 64 64)) (w.alloc (.cells (Lib.byteCells zb).toArray 5)) = .ok (.string zs) (w.alloc (.cells (Lib.byteCells zb).toArray 5)) := fun w => by
      rw [← hzs]; exact run_cz _ _ (heap_alloc_last _ _)
    rw [hzs] at V
    clear h1 h2 hb hq hzs
    go_enter Try.func4, Try.ntmps4
    go_wp2_with fail
    refine NN.out.mono ?_; rintro e w1 ⟨D, rfl, hd, b⟩
    have D1 := Lib.hid hd; have B1 := Lib.hid b
    clear NN hd b
    go_wp2_with fail
    refine (read_any D1.out (q : Int)).mono ?_; rintro e w2 ⟨rfl, hw⟩
    subst hw
    rw [V.out, E.out]
    go_wp2_with fail
    have D2 := Lib.hid (D1.out.keep (below_al _ (.cells (Lib.byteCells zb).toArray 5)))
    refine (blocks_any D2.out).mono ?_; rintro e w4 ⟨rfl, hw⟩
    subst hw
    go_wp2_with fail
    refine (lives_any _).mono ?_; rintro e w8 ⟨rfl, b⟩
    have B2 := Lib.hid (B1.out.trans ((below_al _ (.cells (Lib.byteCells zb).toArray 5)).mono B1.out.size))
    have BB := Lib.hid (B2.out.trans (b.mono B2.out.size))
    clear b
    go_wp2_with fail
    go_ret
    exact ⟨rfl, BB.out⟩
theorem deviceSizes_walk (x i : Int) (w : World) (_ : (Lit.int .i64 x).wf = true) (_ : (Lit.int .i64 i).wf = true) : Calls Try.prog 4 #[.int .i64 x, .int .i64 i] w fun e w' => e = .returned (.bool true) ∧ Below w.heap.size w w' := by
  by_cases h : x < 1 ∨ 65536 < x
  · exact sizes_none x i w h
  · obtain ⟨n, rfl⟩ : ∃ n : Nat, x = (n : Int) := ⟨x.toNat, by omega⟩
    exact sizes_some n i w (by omega) (by omega)
end Go.Proofs.Ytgadplgjpemdaaa
