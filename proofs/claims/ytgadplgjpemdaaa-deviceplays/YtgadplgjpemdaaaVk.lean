/- device: the reference's Limit and New. -/
import Derived.Test.YtgadplgjpemdaaaVj
set_option linter.unusedSimpArgs false
namespace Go.Proofs.Ytgadplgjpemdaaa
open Go.ChangeShapes Go.WideShapes Go.ChangeAt Go.RowKit Go.Joins Go.Deep

abbrev nilS : Value := .slice none 0 0
theorem set6 {w : World} {b : Nat} {z0 z1 z2 z3 z4 z5 : Value} (h : Row w b 31 [z0, z1, z2, z3, z4, z5]) (c0 c1 c2 c3 c4 c5 : Value) :
    ∃ W, (((((w.setCell ⟨b, 0, none⟩ c0).setCell ⟨b, 1, none⟩ c1).setCell ⟨b, 2, none⟩ c2).setCell ⟨b, 3, none⟩ c3).setCell ⟨b, 4, none⟩ c4).setCell ⟨b, 5, none⟩ c5 = W ∧ Row W b 31 [c0, c1, c2, c3, c4, c5] ∧ (∀ B a, B ≤ b → Below B a w → Below B a W) := by
  refine ⟨_, rfl, ?_, fun B a hb k => ?_⟩
  · exact (((((h.set (i := 0) c0).set (i := 1) c1).set (i := 2) c2).set (i := 3) c3).set (i := 4) c4).set (i := 5) c5
  · exact (((((k.setCell (by exact hb) c0).setCell (by exact hb) c1).setCell (by exact hb) c2).setCell (by exact hb) c3).setCell (by exact hb) c4).setCell (by exact hb) c5
abbrev zcs : List Value := [.bool false, nilS, nilS, nilS, nilS, .int .i64 0]
set_option maxRecDepth 100000 in
set_option maxHeartbeats 2000000 in
theorem limitr_any (w : World) (aB aF aA aP : Option Addr) (nB nF nA nP kB kF kA kP : Nat) (left i : Int) :
    Calls Try.prog 16 #[rv false (.slice aB nB kB) (.slice aF nF kF) (.slice aA nA kA) (.slice aP nP kP) left, .int .i64 i] w fun e w' => e = .returned (rv false (.slice aB nB kB) (.slice aF nF kF) (.slice aA nA kA) (.slice aP nP kP) (mx0 i)) ∧ Below w.heap.size w w' := by
  obtain ⟨bx, hbx⟩ : ∃ bx, w.heap.size = bx := ⟨_, rfl⟩
  obtain ⟨W1, hW1⟩ : ∃ W1, w.alloc (.cells #[.bool false, (.slice aB nB kB), (.slice aF nF kF), (.slice aA nA kA), (.slice aP nP kP), .int .i64 left] 31) = W1 := ⟨_, rfl⟩
  have r1 : Row W1 bx 31 (rcs false (.slice aB nB kB) (.slice aF nF kF) (.slice aA nA kA) (.slice aP nP kP) left) := by rw [← hW1, ← hbx]; exact Row.new _ _ _
  obtain ⟨rb, hrb⟩ : ∃ rb, W1.heap.size = rb := ⟨_, rfl⟩
  obtain ⟨W2, hW2⟩ : ∃ W2, W1.alloc (.cells #[.bool false, .slice none 0 0, .slice none 0 0, .slice none 0 0, .slice none 0 0, .int .i64 0] 31) = W2 := ⟨_, rfl⟩
  have q2 : Row W2 rb 31 zcs := by rw [← hW2, ← hrb]; exact Row.new _ _ _
  have r2 : Row W2 bx 31 (rcs false (.slice aB nB kB) (.slice aF nF kF) (.slice aA nA kA) (.slice aP nP kP) left) := r1.same (by rw [← hW2]; exact Below.heap_alloc _ _ _ r1.lt)
  have b2 : Below bx w W2 := by rw [← hW2, ← hW1, ← hbx]; exact ((Below.refl _ _).alloc (Nat.le_refl _) _).alloc (by rw [size_al]; omega) _
  obtain ⟨L, hL⟩ : ∃ L, mx0 i = L := ⟨_, rfl⟩
  have hmx : (if i < 0 then 0 else i) = L := hL
  obtain ⟨W3, hW3⟩ : ∃ W3, W2.setCell ⟨bx, 5, none⟩ (.int .i64 L) = W3 := ⟨_, rfl⟩
  have r3 : Row W3 bx 31 (rcs false (.slice aB nB kB) (.slice aF nF kF) (.slice aA nA kA) (.slice aP nP kP) L) := by rw [← hW3]; exact r2.set (i := 5) _
  have hne : rb ≠ bx := by rw [← hrb, ← hW1, size_al, ← hbx]; omega
  have q3 : Row W3 rb 31 zcs := q2.same (by rw [← hW3]; exact Below.heap_setCell _ _ _ _ (by exact hne))
  have b3 : Below bx w W3 := by rw [← hW3]; exact b2.setCell (Nat.le_refl _) _
  obtain ⟨W4, hW4, q4, b4⟩ := set6 q3 (.bool false) (.slice aB nB kB) (.slice aF nF kF) (.slice aA nA kA) (.slice aP nP kP) (.int .i64 L)
  have hle : bx ≤ rb := by rw [← hrb, ← hW1, size_al, ← hbx]; omega
  have BF := Lib.hid (b4 bx w hle b3)
  have a0 := r2.cell (i := 0) rfl; have a5 := r2.cell (i := 5) rfl; have f5 := r2.fr (i := 5)
  have e0 := r3.cell (i := 0) rfl; have e1 := r3.cell (i := 1) rfl; have e2 := r3.cell (i := 2) rfl; have e3 := r3.cell (i := 3) rfl; have e4 := r3.cell (i := 4) rfl; have e5 := r3.cell (i := 5) rfl
  have c0 := q3.cell (i := 0) rfl; have c1 := q3.cell (i := 1) rfl; have c2 := q3.cell (i := 2) rfl; have c3 := q3.cell (i := 3) rfl; have c4 := q3.cell (i := 4) rfl; have c5 := q3.cell (i := 5) rfl
  have k0 := q3.fr (i := 0); have k1 := q3.fr (i := 1); have k2 := q3.fr (i := 2); have k3 := q3.fr (i := 3); have k4 := q3.fr (i := 4); have k5 := q3.fr (i := 5)
  have g0 := q4.cell (i := 0) rfl; have g1 := q4.cell (i := 1) rfl; have g2 := q4.cell (i := 2) rfl; have g3 := q4.cell (i := 3) rfl; have g4 := q4.cell (i := 4) rfl; have g5 := q4.cell (i := 5) rfl
  rw [hL]
  clear r1 r2 r3 q2 q3 q4 b2 b3 b4 hL hne hle
  go_enter Try.func16, Try.ntmps16
  go_wp2_with fail
  refine bodyPost_ret (by simp [results, Try.results16, go_sem, g0, g1, g2, g3, g4, g5]; rfl) rfl ⟨?_, by rw [hbx]; exact BF.out⟩
  rfl
set_option maxRecDepth 100000 in
set_option maxHeartbeats 2000000 in
theorem limitr_nil (w : World) (aB aF aA aP : Option Addr) (nB nF nA nP kB kF kA kP : Nat) (left i : Int) :
    Calls Try.prog 16 #[rv true (.slice aB nB kB) (.slice aF nF kF) (.slice aA nA kA) (.slice aP nP kP) left, .int .i64 i] w fun e w' => e = .returned (rv true (.slice aB nB kB) (.slice aF nF kF) (.slice aA nA kA) (.slice aP nP kP) left) ∧ Below w.heap.size w w' := by
  obtain ⟨bx, hbx⟩ : ∃ bx, w.heap.size = bx := ⟨_, rfl⟩
  obtain ⟨W1, hW1⟩ : ∃ W1, w.alloc (.cells #[.bool true, (.slice aB nB kB), (.slice aF nF kF), (.slice aA nA kA), (.slice aP nP kP), .int .i64 left] 31) = W1 := ⟨_, rfl⟩
  have r1 : Row W1 bx 31 (rcs true (.slice aB nB kB) (.slice aF nF kF) (.slice aA nA kA) (.slice aP nP kP) left) := by rw [← hW1, ← hbx]; exact Row.new _ _ _
  obtain ⟨rb, hrb⟩ : ∃ rb, W1.heap.size = rb := ⟨_, rfl⟩
  obtain ⟨W2, hW2⟩ : ∃ W2, W1.alloc (.cells #[.bool false, .slice none 0 0, .slice none 0 0, .slice none 0 0, .slice none 0 0, .int .i64 0] 31) = W2 := ⟨_, rfl⟩
  have q3 : Row W2 rb 31 zcs := by rw [← hW2, ← hrb]; exact Row.new _ _ _
  have r3 : Row W2 bx 31 (rcs true (.slice aB nB kB) (.slice aF nF kF) (.slice aA nA kA) (.slice aP nP kP) left) := r1.same (by rw [← hW2]; exact Below.heap_alloc _ _ _ r1.lt)
  have b3 : Below bx w W2 := by rw [← hW2, ← hW1, ← hbx]; exact ((Below.refl _ _).alloc (Nat.le_refl _) _).alloc (by rw [size_al]; omega) _
  obtain ⟨W4, hW4, q4, b4⟩ := set6 q3 (.bool true) (.slice aB nB kB) (.slice aF nF kF) (.slice aA nA kA) (.slice aP nP kP) (.int .i64 left)
  have hle : bx ≤ rb := by rw [← hrb, ← hW1, size_al, ← hbx]; omega
  have BF := Lib.hid (b4 bx w hle b3)
  have e0 := r3.cell (i := 0) rfl; have e1 := r3.cell (i := 1) rfl; have e2 := r3.cell (i := 2) rfl; have e3 := r3.cell (i := 3) rfl; have e4 := r3.cell (i := 4) rfl; have e5 := r3.cell (i := 5) rfl
  have c0 := q3.cell (i := 0) rfl; have c1 := q3.cell (i := 1) rfl; have c2 := q3.cell (i := 2) rfl; have c3 := q3.cell (i := 3) rfl; have c4 := q3.cell (i := 4) rfl; have c5 := q3.cell (i := 5) rfl
  have k0 := q3.fr (i := 0); have k1 := q3.fr (i := 1); have k2 := q3.fr (i := 2); have k3 := q3.fr (i := 3); have k4 := q3.fr (i := 4); have k5 := q3.fr (i := 5)
  have g0 := q4.cell (i := 0) rfl; have g1 := q4.cell (i := 1) rfl; have g2 := q4.cell (i := 2) rfl; have g3 := q4.cell (i := 3) rfl; have g4 := q4.cell (i := 4) rfl; have g5 := q4.cell (i := 5) rfl
  clear r1 r3 q3 q4 b3 b4 hle
  go_enter Try.func16, Try.ntmps16
  go_wp2_with fail
  refine bodyPost_ret (by simp [results, Try.results16, go_sem, g0, g1, g2, g3, g4, g5]; rfl) rfl ⟨?_, by rw [hbx]; exact BF.out⟩
  rfl
/- New -/
theorem sts_rep (j : Nat) (z : ByteArray) : sts (List.replicate (j + 1) z) = sts (List.replicate j z) ++ [.string z] := by
  unfold sts; rw [List.replicate_succ', List.map_append]; rfl
set_option maxRecDepth 100000 in
set_option maxHeartbeats 2000000 in
theorem newr_none (w : World) (x : Int) (h : x < 1 ∨ 65536 < x) : Calls Try.prog 9 #[.int .i64 x] w fun e w' => e = .returned (rv true nilS nilS nilS nilS 0) ∧ Below w.heap.size w w' := by
  obtain ⟨bx, hbx⟩ : ∃ bx, w.heap.size = bx := ⟨_, rfl⟩
  obtain ⟨W1, hW1⟩ : ∃ W1, w.alloc (.cells #[.bool false, .slice none 0 0, .slice none 0 0, .slice none 0 0, .slice none 0 0, .int .i64 0] 31) = W1 := ⟨_, rfl⟩
  have q3 : Row W1 bx 31 zcs := by rw [← hW1, ← hbx]; exact Row.new _ _ _
  have b3 : Below bx w W1 := by rw [← hW1, ← hbx]; exact below_al _ _
  obtain ⟨W4, hW4, q4, b4⟩ := set6 q3 (.bool true) nilS nilS nilS nilS (.int .i64 0)
  have BF := Lib.hid (b4 bx w (Nat.le_refl _) b3)
  have c0 := q3.cell (i := 0) rfl; have c1 := q3.cell (i := 1) rfl; have c2 := q3.cell (i := 2) rfl; have c3 := q3.cell (i := 3) rfl; have c4 := q3.cell (i := 4) rfl; have c5 := q3.cell (i := 5) rfl
  have k0 := q3.fr (i := 0); have k1 := q3.fr (i := 1); have k2 := q3.fr (i := 2); have k3 := q3.fr (i := 3); have k4 := q3.fr (i := 4); have k5 := q3.fr (i := 5)
  have g0 := q4.cell (i := 0) rfl; have g1 := q4.cell (i := 1) rfl; have g2 := q4.cell (i := 2) rfl; have g3 := q4.cell (i := 3) rfl; have g4 := q4.cell (i := 4) rfl; have g5 := q4.cell (i := 5) rfl
  have fin : ∀ d : decide (x < 1) = true ∨ (decide (x < 1) = false ∧ decide (65536 < x) = true), Calls Try.prog 9 #[.int .i64 x] w fun e w' => e = .returned (rv true nilS nilS nilS nilS 0) ∧ Below w.heap.size w w' := by
    intro d
    rcases d with d | ⟨d, d'⟩
    all_goals
      clear q3 q4 b3 b4 h
      go_enter Try.func9, Try.ntmps9
      go_wp2_with fail
      refine bodyPost_ret (by simp [results, Try.results9, go_sem, g0, g1, g2, g3, g4, g5]; rfl) rfl ⟨?_, by rw [hbx]; exact BF.out⟩
      rfl
  by_cases h1 : x < 1
  · exact fin (Or.inl (by simpa using h1))
  · exact fin (Or.inr ⟨by simpa using h1, by simp; omega⟩)
set_option maxRecDepth 100000 in
set_option maxHeartbeats 2000000 in
theorem newr_any (w : World) (n : Nat) (h1 : 1 ≤ n) (h2 : n ≤ 65536) : Calls Try.prog 9 #[.int .i64 (n : Int)] w fun e w' => ∃ v, e = .returned (rv false v v nilS nilS (-1)) ∧ w'.ownsRow w.heap.size 9 1 v n (sts (List.replicate n (padS ByteArray.empty))) ∧ Below w.heap.size w w' := by
  obtain ⟨bx, hbx⟩ : ∃ bx, w.heap.size = bx := ⟨_, rfl⟩
  obtain ⟨W1, hW1⟩ : ∃ W1, w.alloc (.cells #[.bool false, .slice none 0 0, .slice none 0 0, .slice none 0 0, .slice none 0 0, .int .i64 0] 31) = W1 := ⟨_, rfl⟩
  have r1 : Row W1 bx 31 zcs := by rw [← hW1, ← hbx]; exact Row.new _ _ _
  have b1 : Below bx w W1 := by rw [← hW1, ← hbx]; exact below_al _ _
  have R1 := Lib.hid r1; have B1 := Lib.hid b1; have HBX := Lib.hid hbx
  have LB : Hid (bx < W1.heap.size) := r1.lt
  obtain ⟨i9, hi9, hz90, hz91, hz92⟩ := info_parts (show (Try.prog.info? 9).map (fun i => (i.zero, i.size, i.bytes)) = some (some (.string ByteArray.empty), 1, 16) by kernel_rfl)
  have II9 := Lib.hid hi9; have Z90 := Lib.hid hz90; have Z91 := Lib.hid hz91; have Z92 := Lib.hid hz92
  obtain ⟨z, hz⟩ : ∃ z, padS ByteArray.empty = z := ⟨_, rfl⟩
  have ZA : Hid (∀ W, Calls Try.prog 22 #[] W fun e w' => e = .returned (.string z) ∧ Below W.heap.size W w') := fun W => by rw [← hz]; exact zero_any W
  have N1 : Hid (1 ≤ n ∧ n ≤ 65536) := ⟨h1, h2⟩
  have d0 : decide ((n : Int) < 1) = false := by simp; omega
  have d0' : decide (n < 1) = false := by simp; omega
  have d0'' : ¬ (n : Int) < 1 := by omega
  have d1 : decide (65536 < (n : Int)) = false := by simp; omega
  have d1' : decide (65536 < n) = false := by simp; omega
  have d1'' : ¬ 65536 < (n : Int) := by omega
  rw [hz]
  clear r1 b1 hi9 hz90 hz91 hz92 h1 h2 hz
  go_enter Try.func9, Try.ntmps9
  go_wp2_with fail
  clear d0 d0' d0'' d1 d1' d1''
  go_loopw [3, 4] (fun s3 s4 wr => ∃ (j : Nat) (v : Value), j ≤ n ∧ s4 = .int .i64 (j : Int) ∧ s3 = v ∧ Hid (wr.ownsRow W1.heap.size 9 1 v j (sts (List.replicate j z))) ∧ Hid (Below W1.heap.size W1 wr)) (fun _ s4 _ => n - (intOf s4).toNat)
  case atStart => exact ⟨0, _, Nat.zero_le _, rfl, rfl, World.ownsRow_nil _ _ _ _, Below.refl _ _⟩
  case round =>
    clear hW1 hbx
    obtain ⟨j, v, hj, rfl, rfl, OJ, BJ⟩ := hrel
    obtain ⟨a, c, hae⟩ := row_form1 OJ.out
    subst hae
    by_cases hjn : j < n
    · obtain ⟨j1, hj1⟩ : ∃ j1, j + 1 = j1 := ⟨_, rfl⟩
      have HJ := Lib.hid hj1; have HJN := Lib.hid hjn
      have jl : (j : Int) < (n : Int) := by omega
      have f1 : (j : Int) + 1 = (j1 : Int) := by omega
      have f2 : IntKind.i64.wrap (j1 : Int) = (j1 : Int) := by rw [IntKind.wrap_i64]; have := N1.out; omega
      clear hj hjn hj1
      go_wp2_with fail
      refine (ZA.out _).mono ?_; rintro e w3 ⟨rfl, b⟩
      have O3 := Lib.hid (own_below OJ.out b); have B3 := Lib.hid (BJ.out.trans (b.mono BJ.out.size))
      have SB : Hid (W1.heap.size ≤ w3.heap.size) := B3.out.size
      clear b
      go_wp2_with (at_builtin; refine wpList_append_own_at _ rfl _ _ 28 rfl W1.heap.size 9 i9 (.string ByteArray.empty) 1 16 Try.underlying28 II9.out Z90.out Z91.out Z92.out rfl (by decide) (.slice a j c) j (sts (List.replicate j z)) rfl (O3.out.alloc _) ⟨w3.heap.size, 0, none⟩ 1 1 [.string z] rfl rfl (cell_one_new _ _ _) (by simp [Value.oneCell']) (by have h1 := N1.out; have h2 := HJN.out; unfold maxLen; omega) (by have h1 := N1.out; have h2 := HJN.out; omega) (by have := SB.out; simp <;> omega) ?_; intro v' w7 hown' hgrow hnil hloc; have O7 := Lib.hid hown'; have G7 := Lib.hid hgrow; clear hown' hgrow hnil hloc)
      have O8 : Hid (w7.ownsRow W1.heap.size 9 1 v' j1 (sts (List.replicate j1 z))) := by
        show World.ownsRow _ _ _ _ _ _ _
        have e := HJ.out
        subst e
        rw [sts_rep]; exact O7.out
      have B8 : Hid (Below W1.heap.size W1 w7) := (B3.out.alloc SB.out _).grown G7.out (by have := SB.out; simp <;> omega) (fun q e => (O3.out.lt q e).1)
      go_roundw
      case measure => simp [intOf]; have := HJ.out; have := HJN.out; omega
      case rel => exact ⟨j1, v', by have := HJ.out; have := HJN.out; omega, rfl, rfl, O8, B8⟩
    · have jl : ¬ (j : Int) < (n : Int) := by omega
      obtain rfl : n = j := by omega
      have r3 := R1.out.below BJ.out LB.out
      have b3 := B1.out.trans (BJ.out.mono (Nat.le_of_lt LB.out))
      obtain ⟨W4, hW4, q4, b4⟩ := set6 r3 (.bool false) (.slice a n c) (.slice a n c) nilS nilS (.int .i64 (-1))
      have B4 : Below bx w W4 := b4 bx w (Nat.le_refl _) b3
      have BF := Lib.hid B4
      have OF : Hid (W4.ownsRow bx 9 1 (.slice a n c) n (sts (List.replicate n z))) := by
        have h : wr.ownsRow bx 9 1 (.slice a n c) n (sts (List.replicate n z)) := by
          refine ⟨OJ.out.1, ?_⟩
          rcases OJ.out.2 with h0 | ⟨g, cap', cur, e, hb, h⟩
          · exact Or.inl h0
          · exact Or.inr ⟨g, cap', cur, e, by have := LB.out; omega, h⟩
        refine own_same h (fun k hk => ?_)
        have hkb : k ≠ bx := by have h1 := (OJ.out.lt k hk).1; have := LB.out; omega
        rw [← hW4]
        simp only [Below.heap_setCell _ _ _ _ (show k ≠ (Addr.mk bx _ none).block from hkb)]
      have c0 := r3.cell (i := 0) rfl; have c1 := r3.cell (i := 1) rfl; have c2 := r3.cell (i := 2) rfl; have c3 := r3.cell (i := 3) rfl; have c4 := r3.cell (i := 4) rfl; have c5 := r3.cell (i := 5) rfl
      have k0 := r3.fr (i := 0); have k1 := r3.fr (i := 1); have k2 := r3.fr (i := 2); have k3 := r3.fr (i := 3); have k4 := r3.fr (i := 4); have k5 := r3.fr (i := 5)
      have g0 := q4.cell (i := 0) rfl; have g1 := q4.cell (i := 1) rfl; have g2 := q4.cell (i := 2) rfl; have g3 := q4.cell (i := 3) rfl; have g4 := q4.cell (i := 4) rfl; have g5 := q4.cell (i := 5) rfl
      clear hj hjn r3 b3 q4 b4 B4
      go_wp2_with fail
      refine bodyPost_ret (by simp [results, Try.results9, go_sem, g0, g1, g2, g3, g4, g5]; rfl) rfl ⟨.slice a n c, ?_, by rw [HBX.out]; exact OF.out, by rw [HBX.out]; exact BF.out⟩
      rfl
end Go.Proofs.Ytgadplgjpemdaaa
