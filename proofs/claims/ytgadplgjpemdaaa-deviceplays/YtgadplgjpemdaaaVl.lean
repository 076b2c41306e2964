/- device: the reference's Write. -/
import Derived.Test.YtgadplgjpemdaaaVk
set_option linter.unusedSimpArgs false
namespace Go.Proofs.Ytgadplgjpemdaaa
open Go.ChangeShapes Go.WideShapes Go.ChangeAt Go.RowKit Go.Joins Go.Deep

set_option maxRecDepth 100000 in
set_option maxHeartbeats 2000000 in
theorem writer_nil (w : World) (aB aF aA aP : Option Addr) (nB nF nA nP kB kF kA kP : Nat) (left : Int) (i : Int) (s : ByteArray)  :
    Calls Try.prog 12 #[rv true (.slice aB nB kB) (.slice aF nF kF) (.slice aA nA kA) (.slice aP nP kP) left, .int .i64 i, .string s] w fun e w' => e = .returned (.tuple #[rv true (.slice aB nB kB) (.slice aF nF kF) (.slice aA nA kA) (.slice aP nP kP) left, .int .i64 1]) ∧ Below w.heap.size w w' := by
  obtain ⟨bx, hbx⟩ : ∃ bx, w.heap.size = bx := ⟨_, rfl⟩
  obtain ⟨W1, hW1⟩ : ∃ W1, w.alloc (.cells #[.bool true, .slice aB nB kB, .slice aF nF kF, .slice aA nA kA, .slice aP nP kP, .int .i64 left] 31) = W1 := ⟨_, rfl⟩
  have r1 : Row W1 bx 31 (rcs true (.slice aB nB kB) (.slice aF nF kF) (.slice aA nA kA) (.slice aP nP kP) left) := by rw [← hW1, ← hbx]; exact Row.new _ _ _
  obtain ⟨rb, hrb⟩ : ∃ rb, W1.heap.size = rb := ⟨_, rfl⟩
  obtain ⟨W2, hW2⟩ : ∃ W2, W1.alloc (.cells #[.bool false, .slice none 0 0, .slice none 0 0, .slice none 0 0, .slice none 0 0, .int .i64 0] 31) = W2 := ⟨_, rfl⟩
  have q3 : Row W2 rb 31 zcs := by rw [← hW2, ← hrb]; exact Row.new _ _ _
  have r3 : Row W2 bx 31 (rcs true (.slice aB nB kB) (.slice aF nF kF) (.slice aA nA kA) (.slice aP nP kP) left) := r1.same (by rw [← hW2]; exact Below.heap_alloc _ _ _ r1.lt)
  have b3 : Below bx w W2 := by rw [← hW2, ← hW1, ← hbx]; exact ((Below.refl _ _).alloc (Nat.le_refl _) _).alloc (by rw [size_al]; omega) _
  have hlt : bx < rb := by rw [← hrb, ← hW1, size_al, ← hbx]; omega
  obtain ⟨W4, hW4, q4, b4⟩ := set6 q3 (.bool true) (.slice aB nB kB) (.slice aF nF kF) (.slice aA nA kA) (.slice aP nP kP) (.int .i64 left)
  have BF := Lib.hid (b4 bx w (Nat.le_of_lt hlt) b3)
  have e0 := r3.cell (i := 0) rfl; have e1 := r3.cell (i := 1) rfl; have e2 := r3.cell (i := 2) rfl; have e3 := r3.cell (i := 3) rfl; have e4 := r3.cell (i := 4) rfl; have e5 := r3.cell (i := 5) rfl
  have c0 := q3.cell (i := 0) rfl; have c1 := q3.cell (i := 1) rfl; have c2 := q3.cell (i := 2) rfl; have c3 := q3.cell (i := 3) rfl; have c4 := q3.cell (i := 4) rfl; have c5 := q3.cell (i := 5) rfl
  have k0 := q3.fr (i := 0); have k1 := q3.fr (i := 1); have k2 := q3.fr (i := 2); have k3 := q3.fr (i := 3); have k4 := q3.fr (i := 4); have k5 := q3.fr (i := 5)
  have g0 := q4.cell (i := 0) rfl; have g1 := q4.cell (i := 1) rfl; have g2 := q4.cell (i := 2) rfl; have g3 := q4.cell (i := 3) rfl; have g4 := q4.cell (i := 4) rfl; have g5 := q4.cell (i := 5) rfl
  clear r1 r3 q3 q4 b3 b4 hlt
  go_enter Try.func12, Try.ntmps12
  go_wp2_with fail
  refine bodyPost_ret (by simp [results, Try.results12, go_sem, g0, g1, g2, g3, g4, g5]; rfl) rfl ⟨?_, by first | exact BF.out | (rw [hbx]; exact BF.out)⟩
  rfl
set_option maxRecDepth 100000 in
set_option maxHeartbeats 2000000 in
theorem writer_lo (w : World) (aB aF aA aP : Option Addr) (nB nF nA nP kB kF kA kP : Nat) (left : Int) (i : Int) (s : ByteArray) (h : i < 0) :
    Calls Try.prog 12 #[rv false (.slice aB nB kB) (.slice aF nF kF) (.slice aA nA kA) (.slice aP nP kP) left, .int .i64 i, .string s] w fun e w' => e = .returned (.tuple #[rv false (.slice aB nB kB) (.slice aF nF kF) (.slice aA nA kA) (.slice aP nP kP) left, .int .i64 2]) ∧ Below w.heap.size w w' := by
  obtain ⟨bx, hbx⟩ : ∃ bx, w.heap.size = bx := ⟨_, rfl⟩
  obtain ⟨W1, hW1⟩ : ∃ W1, w.alloc (.cells #[.bool false, .slice aB nB kB, .slice aF nF kF, .slice aA nA kA, .slice aP nP kP, .int .i64 left] 31) = W1 := ⟨_, rfl⟩
  have r1 : Row W1 bx 31 (rcs false (.slice aB nB kB) (.slice aF nF kF) (.slice aA nA kA) (.slice aP nP kP) left) := by rw [← hW1, ← hbx]; exact Row.new _ _ _
  obtain ⟨rb, hrb⟩ : ∃ rb, W1.heap.size = rb := ⟨_, rfl⟩
  obtain ⟨W2, hW2⟩ : ∃ W2, W1.alloc (.cells #[.bool false, .slice none 0 0, .slice none 0 0, .slice none 0 0, .slice none 0 0, .int .i64 0] 31) = W2 := ⟨_, rfl⟩
  have q3 : Row W2 rb 31 zcs := by rw [← hW2, ← hrb]; exact Row.new _ _ _
  have r3 : Row W2 bx 31 (rcs false (.slice aB nB kB) (.slice aF nF kF) (.slice aA nA kA) (.slice aP nP kP) left) := r1.same (by rw [← hW2]; exact Below.heap_alloc _ _ _ r1.lt)
  have b3 : Below bx w W2 := by rw [← hW2, ← hW1, ← hbx]; exact ((Below.refl _ _).alloc (Nat.le_refl _) _).alloc (by rw [size_al]; omega) _
  have hlt : bx < rb := by rw [← hrb, ← hW1, size_al, ← hbx]; omega
  obtain ⟨W4, hW4, q4, b4⟩ := set6 q3 (.bool false) (.slice aB nB kB) (.slice aF nF kF) (.slice aA nA kA) (.slice aP nP kP) (.int .i64 left)
  have BF := Lib.hid (b4 bx w (Nat.le_of_lt hlt) b3)
  have e0 := r3.cell (i := 0) rfl; have e1 := r3.cell (i := 1) rfl; have e2 := r3.cell (i := 2) rfl; have e3 := r3.cell (i := 3) rfl; have e4 := r3.cell (i := 4) rfl; have e5 := r3.cell (i := 5) rfl
  have c0 := q3.cell (i := 0) rfl; have c1 := q3.cell (i := 1) rfl; have c2 := q3.cell (i := 2) rfl; have c3 := q3.cell (i := 3) rfl; have c4 := q3.cell (i := 4) rfl; have c5 := q3.cell (i := 5) rfl
  have k0 := q3.fr (i := 0); have k1 := q3.fr (i := 1); have k2 := q3.fr (i := 2); have k3 := q3.fr (i := 3); have k4 := q3.fr (i := 4); have k5 := q3.fr (i := 5)
  have g0 := q4.cell (i := 0) rfl; have g1 := q4.cell (i := 1) rfl; have g2 := q4.cell (i := 2) rfl; have g3 := q4.cell (i := 3) rfl; have g4 := q4.cell (i := 4) rfl; have g5 := q4.cell (i := 5) rfl
  clear r1 r3 q3 q4 b3 b4 hlt
  have d0 : decide (i < 0) = true := by simpa using h
  clear h
  go_enter Try.func12, Try.ntmps12
  go_wp2_with fail
  refine bodyPost_ret (by simp [results, Try.results12, go_sem, g0, g1, g2, g3, g4, g5]; rfl) rfl ⟨?_, by first | exact BF.out | (rw [hbx]; exact BF.out)⟩
  rfl
set_option maxRecDepth 100000 in
set_option maxHeartbeats 2000000 in
theorem writer_hi (w : World) (aB aF aA aP : Option Addr) (nB nF nA nP kB kF kA kP : Nat) (left : Int) (i : Int) (s : ByteArray) (h : ¬ i < 0) (h1 : (nB : Int) ≤ i) :
    Calls Try.prog 12 #[rv false (.slice aB nB kB) (.slice aF nF kF) (.slice aA nA kA) (.slice aP nP kP) left, .int .i64 i, .string s] w fun e w' => e = .returned (.tuple #[rv false (.slice aB nB kB) (.slice aF nF kF) (.slice aA nA kA) (.slice aP nP kP) left, .int .i64 2]) ∧ Below w.heap.size w w' := by
  obtain ⟨bx, hbx⟩ : ∃ bx, w.heap.size = bx := ⟨_, rfl⟩
  obtain ⟨W1, hW1⟩ : ∃ W1, w.alloc (.cells #[.bool false, .slice aB nB kB, .slice aF nF kF, .slice aA nA kA, .slice aP nP kP, .int .i64 left] 31) = W1 := ⟨_, rfl⟩
  have r1 : Row W1 bx 31 (rcs false (.slice aB nB kB) (.slice aF nF kF) (.slice aA nA kA) (.slice aP nP kP) left) := by rw [← hW1, ← hbx]; exact Row.new _ _ _
  obtain ⟨rb, hrb⟩ : ∃ rb, W1.heap.size = rb := ⟨_, rfl⟩
  obtain ⟨W2, hW2⟩ : ∃ W2, W1.alloc (.cells #[.bool false, .slice none 0 0, .slice none 0 0, .slice none 0 0, .slice none 0 0, .int .i64 0] 31) = W2 := ⟨_, rfl⟩
  have q3 : Row W2 rb 31 zcs := by rw [← hW2, ← hrb]; exact Row.new _ _ _
  have r3 : Row W2 bx 31 (rcs false (.slice aB nB kB) (.slice aF nF kF) (.slice aA nA kA) (.slice aP nP kP) left) := r1.same (by rw [← hW2]; exact Below.heap_alloc _ _ _ r1.lt)
  have b3 : Below bx w W2 := by rw [← hW2, ← hW1, ← hbx]; exact ((Below.refl _ _).alloc (Nat.le_refl _) _).alloc (by rw [size_al]; omega) _
  have hlt : bx < rb := by rw [← hrb, ← hW1, size_al, ← hbx]; omega
  obtain ⟨W4, hW4, q4, b4⟩ := set6 q3 (.bool false) (.slice aB nB kB) (.slice aF nF kF) (.slice aA nA kA) (.slice aP nP kP) (.int .i64 left)
  have BF := Lib.hid (b4 bx w (Nat.le_of_lt hlt) b3)
  have e0 := r3.cell (i := 0) rfl; have e1 := r3.cell (i := 1) rfl; have e2 := r3.cell (i := 2) rfl; have e3 := r3.cell (i := 3) rfl; have e4 := r3.cell (i := 4) rfl; have e5 := r3.cell (i := 5) rfl
  have c0 := q3.cell (i := 0) rfl; have c1 := q3.cell (i := 1) rfl; have c2 := q3.cell (i := 2) rfl; have c3 := q3.cell (i := 3) rfl; have c4 := q3.cell (i := 4) rfl; have c5 := q3.cell (i := 5) rfl
  have k0 := q3.fr (i := 0); have k1 := q3.fr (i := 1); have k2 := q3.fr (i := 2); have k3 := q3.fr (i := 3); have k4 := q3.fr (i := 4); have k5 := q3.fr (i := 5)
  have g0 := q4.cell (i := 0) rfl; have g1 := q4.cell (i := 1) rfl; have g2 := q4.cell (i := 2) rfl; have g3 := q4.cell (i := 3) rfl; have g4 := q4.cell (i := 4) rfl; have g5 := q4.cell (i := 5) rfl
  clear r1 r3 q3 q4 b3 b4 hlt
  have d0 : decide (i < 0) = false := by simpa using h
  have d1 : decide ((nB : Int) ≤ i) = true := by simpa using h1
  clear h h1
  go_enter Try.func12, Try.ntmps12
  go_wp2_with fail
  refine bodyPost_ret (by simp [results, Try.results12, go_sem, g0, g1, g2, g3, g4, g5]; rfl) rfl ⟨?_, by first | exact BF.out | (rw [hbx]; exact BF.out)⟩
  rfl
set_option maxRecDepth 100000 in
set_option maxHeartbeats 2000000 in
theorem writer_long (w : World) (aB aF aA aP : Option Addr) (nB nF nA nP kB kF kA kP : Nat) (left : Int) (i : Int) (s : ByteArray) (h : ¬ i < 0) (h1 : ¬ (nB : Int) ≤ i) (h2 : 64 < s.size) :
    Calls Try.prog 12 #[rv false (.slice aB nB kB) (.slice aF nF kF) (.slice aA nA kA) (.slice aP nP kP) left, .int .i64 i, .string s] w fun e w' => e = .returned (.tuple #[rv false (.slice aB nB kB) (.slice aF nF kF) (.slice aA nA kA) (.slice aP nP kP) left, .int .i64 5]) ∧ Below w.heap.size w w' := by
  obtain ⟨bx, hbx⟩ : ∃ bx, w.heap.size = bx := ⟨_, rfl⟩
  obtain ⟨W1, hW1⟩ : ∃ W1, w.alloc (.cells #[.bool false, .slice aB nB kB, .slice aF nF kF, .slice aA nA kA, .slice aP nP kP, .int .i64 left] 31) = W1 := ⟨_, rfl⟩
  have r1 : Row W1 bx 31 (rcs false (.slice aB nB kB) (.slice aF nF kF) (.slice aA nA kA) (.slice aP nP kP) left) := by rw [← hW1, ← hbx]; exact Row.new _ _ _
  obtain ⟨rb, hrb⟩ : ∃ rb, W1.heap.size = rb := ⟨_, rfl⟩
  obtain ⟨W2, hW2⟩ : ∃ W2, W1.alloc (.cells #[.bool false, .slice none 0 0, .slice none 0 0, .slice none 0 0, .slice none 0 0, .int .i64 0] 31) = W2 := ⟨_, rfl⟩
  have q3 : Row W2 rb 31 zcs := by rw [← hW2, ← hrb]; exact Row.new _ _ _
  have r3 : Row W2 bx 31 (rcs false (.slice aB nB kB) (.slice aF nF kF) (.slice aA nA kA) (.slice aP nP kP) left) := r1.same (by rw [← hW2]; exact Below.heap_alloc _ _ _ r1.lt)
  have b3 : Below bx w W2 := by rw [← hW2, ← hW1, ← hbx]; exact ((Below.refl _ _).alloc (Nat.le_refl _) _).alloc (by rw [size_al]; omega) _
  have hlt : bx < rb := by rw [← hrb, ← hW1, size_al, ← hbx]; omega
  obtain ⟨W4, hW4, q4, b4⟩ := set6 q3 (.bool false) (.slice aB nB kB) (.slice aF nF kF) (.slice aA nA kA) (.slice aP nP kP) (.int .i64 left)
  have BF := Lib.hid (b4 bx w (Nat.le_of_lt hlt) b3)
  have e0 := r3.cell (i := 0) rfl; have e1 := r3.cell (i := 1) rfl; have e2 := r3.cell (i := 2) rfl; have e3 := r3.cell (i := 3) rfl; have e4 := r3.cell (i := 4) rfl; have e5 := r3.cell (i := 5) rfl
  have c0 := q3.cell (i := 0) rfl; have c1 := q3.cell (i := 1) rfl; have c2 := q3.cell (i := 2) rfl; have c3 := q3.cell (i := 3) rfl; have c4 := q3.cell (i := 4) rfl; have c5 := q3.cell (i := 5) rfl
  have k0 := q3.fr (i := 0); have k1 := q3.fr (i := 1); have k2 := q3.fr (i := 2); have k3 := q3.fr (i := 3); have k4 := q3.fr (i := 4); have k5 := q3.fr (i := 5)
  have g0 := q4.cell (i := 0) rfl; have g1 := q4.cell (i := 1) rfl; have g2 := q4.cell (i := 2) rfl; have g3 := q4.cell (i := 3) rfl; have g4 := q4.cell (i := 4) rfl; have g5 := q4.cell (i := 5) rfl
  clear r1 r3 q3 q4 b3 b4 hlt
  have d0 : decide (i < 0) = false := by simpa using h
  have d1 : decide ((nB : Int) ≤ i) = false := by simpa using h1
  have d2 : decide ((64 : Int) < (s.size : Int)) = true := by simp; omega
  have d2a : decide (64 < s.size) = true := by simpa using h2
  have d2b : (64 : Int) < (s.size : Int) := by omega
  clear h h1 h2
  go_enter Try.func12, Try.ntmps12
  go_wp2_with fail
  refine bodyPost_ret (by simp [results, Try.results12, go_sem, g0, g1, g2, g3, g4, g5]; rfl) rfl ⟨?_, by first | exact BF.out | (rw [hbx]; exact BF.out)⟩
  rfl
set_option maxRecDepth 100000 in
set_option maxHeartbeats 2000000 in
theorem writer_full (w : World) (aB aF aA aP : Option Addr) (nB nF nA nP kB kF kA kP : Nat) (left : Int) (i : Int) (s : ByteArray) (h : ¬ i < 0) (h1 : ¬ (nB : Int) ≤ i) (h2 : ¬ 64 < s.size) (h3 : left = 0) :
    Calls Try.prog 12 #[rv false (.slice aB nB kB) (.slice aF nF kF) (.slice aA nA kA) (.slice aP nP kP) left, .int .i64 i, .string s] w fun e w' => e = .returned (.tuple #[rv false (.slice aB nB kB) (.slice aF nF kF) (.slice aA nA kA) (.slice aP nP kP) left, .int .i64 20]) ∧ Below w.heap.size w w' := by
  obtain ⟨bx, hbx⟩ : ∃ bx, w.heap.size = bx := ⟨_, rfl⟩
  obtain ⟨W1, hW1⟩ : ∃ W1, w.alloc (.cells #[.bool false, .slice aB nB kB, .slice aF nF kF, .slice aA nA kA, .slice aP nP kP, .int .i64 left] 31) = W1 := ⟨_, rfl⟩
  have r1 : Row W1 bx 31 (rcs false (.slice aB nB kB) (.slice aF nF kF) (.slice aA nA kA) (.slice aP nP kP) left) := by rw [← hW1, ← hbx]; exact Row.new _ _ _
  obtain ⟨rb, hrb⟩ : ∃ rb, W1.heap.size = rb := ⟨_, rfl⟩
  obtain ⟨W2, hW2⟩ : ∃ W2, W1.alloc (.cells #[.bool false, .slice none 0 0, .slice none 0 0, .slice none 0 0, .slice none 0 0, .int .i64 0] 31) = W2 := ⟨_, rfl⟩
  have q3 : Row W2 rb 31 zcs := by rw [← hW2, ← hrb]; exact Row.new _ _ _
  have r3 : Row W2 bx 31 (rcs false (.slice aB nB kB) (.slice aF nF kF) (.slice aA nA kA) (.slice aP nP kP) left) := r1.same (by rw [← hW2]; exact Below.heap_alloc _ _ _ r1.lt)
  have b3 : Below bx w W2 := by rw [← hW2, ← hW1, ← hbx]; exact ((Below.refl _ _).alloc (Nat.le_refl _) _).alloc (by rw [size_al]; omega) _
  have hlt : bx < rb := by rw [← hrb, ← hW1, size_al, ← hbx]; omega
  obtain ⟨W4, hW4, q4, b4⟩ := set6 q3 (.bool false) (.slice aB nB kB) (.slice aF nF kF) (.slice aA nA kA) (.slice aP nP kP) (.int .i64 left)
  have BF := Lib.hid (b4 bx w (Nat.le_of_lt hlt) b3)
  have e0 := r3.cell (i := 0) rfl; have e1 := r3.cell (i := 1) rfl; have e2 := r3.cell (i := 2) rfl; have e3 := r3.cell (i := 3) rfl; have e4 := r3.cell (i := 4) rfl; have e5 := r3.cell (i := 5) rfl
  have c0 := q3.cell (i := 0) rfl; have c1 := q3.cell (i := 1) rfl; have c2 := q3.cell (i := 2) rfl; have c3 := q3.cell (i := 3) rfl; have c4 := q3.cell (i := 4) rfl; have c5 := q3.cell (i := 5) rfl
  have k0 := q3.fr (i := 0); have k1 := q3.fr (i := 1); have k2 := q3.fr (i := 2); have k3 := q3.fr (i := 3); have k4 := q3.fr (i := 4); have k5 := q3.fr (i := 5)
  have g0 := q4.cell (i := 0) rfl; have g1 := q4.cell (i := 1) rfl; have g2 := q4.cell (i := 2) rfl; have g3 := q4.cell (i := 3) rfl; have g4 := q4.cell (i := 4) rfl; have g5 := q4.cell (i := 5) rfl
  clear r1 r3 q3 q4 b3 b4 hlt
  subst h3
  have d0 : decide (i < 0) = false := by simpa using h
  have d1 : decide ((nB : Int) ≤ i) = false := by simpa using h1
  have d2 : decide ((64 : Int) < (s.size : Int)) = false := by simp; omega
  have d2a : decide (64 < s.size) = false := by simpa using h2
  have d2b : ¬ (64 : Int) < (s.size : Int) := by omega
  clear h h1 h2
  go_enter Try.func12, Try.ntmps12
  go_wp2_with fail
  refine bodyPost_ret (by simp [results, Try.results12, go_sem, g0, g1, g2, g3, g4, g5]; rfl) rfl ⟨?_, by first | exact BF.out | (rw [hbx]; exact BF.out)⟩
  rfl
def ldec (left : Int) : Int := if 0 < left then left - 1 else left
theorem sts_set {l : List ByteArray} (q : Nat) (x : ByteArray) : sts (l.set q x) = (sts l).set q (.string x) := by unfold sts; rw [List.map_set]
theorem sts_one (l : List ByteArray) : ∀ v ∈ sts l, v.oneCell' = true := by
  intro v hv; obtain ⟨x, _, rfl⟩ := List.mem_map.1 hv; rfl
def its (l : List Nat) : List Value := l.map (fun q : Nat => Value.int .i64 (q : Int))
theorem its_one (l : List Nat) : ∀ v ∈ its l, v.oneCell' = true := by
  intro v hv; obtain ⟨x, _, rfl⟩ := List.mem_map.1 hv; rfl
theorem own_news {w W : World} {B e n cap : Nat} {ad : Addr} {xs : List Value} (h : w.ownsRow B e 1 (.slice (some ad) n cap) n xs) (b : Below w.heap.size w W) : ∀ j u, xs[j]? = some u → W.cell? (ad.add j) = some u := fun j u hu => by
  obtain ⟨g, hg, _, hc⟩ := own_at1 (own_below h b) hu
  injection hg with hg
  subst hg
  rw [Addr.add_mid, Nat.zero_add]; exact hc
theorem own_set1 {w : World} {B e n cap g q : Nat} {xs : List Value} (h : w.ownsRow B e 1 (.slice (some ⟨g, 0, none⟩) n cap) n xs) (x : Value) : (w.setCell ⟨g, q, none⟩ x).ownsRow B e 1 (.slice (some ⟨g, 0, none⟩) n cap) n (xs.set q x) := by
  refine ⟨by rw [List.length_set]; exact h.1, ?_⟩
  rcases h.2 with ⟨e, _⟩ | ⟨g', cap', cur, e, hb, hg, h1, h2, h3, h4⟩
  · cases e
  · injection e with e1 e2 e3
    injection e1 with e1
    injection e1 with e1
    subst e1 e3
    refine Or.inr ⟨g, cap, cur.setIfInBounds q x, rfl, hb, heap_setCell_same _ _ _ _ _ _ hg, h1, h2, by rw [Array.size_setIfInBounds]; exact h3, ?_⟩
    rw [Array.toList_setIfInBounds, List.take_set, h4]
end Go.Proofs.Ytgadplgjpemdaaa
