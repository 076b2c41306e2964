/- cmds: the reference's next. -/
import Derived.Test.YthlbenldgnjgcaaDoorLe
namespace Go.Proofs.YthlbenldgnjgcaaDoor
open Go.ChangeShapes Go.WideShapes Go.ChangeAt Go.RowKit Go.Joins Go.Deep

/- a reader of the reference -/
abbrev rv (v : Value) (p : Pt) (b : Bool) : Value := .agg #[v, .int .i64 p.1, .int .i64 p.2, .bool b]
abbrev rc (v : Value) (p : Pt) (b : Bool) : List Value := [v, .int .i64 p.1, .int .i64 p.2, .bool b]
def RnPost (w0 w : World) (s : RS) (e : Ending) (w' : World) : Prop :=
  ∃ (a : Option Addr) (n cap : Nat), e = .returned (.tuple #[rv (.slice a n cap) (rn s).1.2.1 (rn s).1.2.2, .int .i64 (rn s).2]) ∧ IntsAt w0 (.slice a n cap) (rn s).1.1 ∧ Below w.heap.size w w'
theorem rn_bad1 (p : Pt) (b : Bool) : rn ([], p, b) = (rbad, 0) := rfl
theorem rn_bad2 {x : Int} {t : List Int} {p : Pt} {b : Bool} (h : ¬ (0 ≤ x ∧ x ≤ 100000)) : rn (x :: t, p, b) = (rbad, 0) := if_neg h
set_option maxRecDepth 100000 in
set_option maxHeartbeats 4000000 in
theorem rnext_nil {w0 w : World} {v : Value} {p : Pt} {fl : Bool} (h : IntsAt w0 v []) : Calls Tryd.prog 28 #[rv v p fl] w (RnPost w0 w ([], p, fl)) := by
  obtain ⟨a, cap, rfl⟩ := h.form
  obtain ⟨px, py⟩ := p
  rw [List.length_nil]
  obtain ⟨A, hA⟩ : ∃ A, w.heap.size = A := ⟨_, rfl⟩
  obtain ⟨W1, hW1⟩ : ∃ W1, w.alloc (.cells #[.slice a 0 cap, .int .i64 px, .int .i64 py, .bool fl] 65) = W1 := ⟨_, rfl⟩
  have r1 : Row W1 A 65 [.slice a 0 cap, .int .i64 px, .int .i64 py, .bool fl] := by rw [← hW1, ← hA]; exact Row.new _ _ _
  have b1 : Below w.heap.size w W1 := by rw [← hW1]; exact (Below.refl _ _).alloc (Nat.le_refl _) _
  obtain ⟨B, hB⟩ : ∃ B, W1.heap.size = B := ⟨_, rfl⟩
  obtain ⟨W2, hW2⟩ : ∃ W2, W1.alloc (.cells #[.slice none 0 0, .int .i64 0, .int .i64 0, .bool false] 65) = W2 := ⟨_, rfl⟩
  have r2 : Row W2 B 65 [.slice none 0 0, .int .i64 0, .int .i64 0, .bool false] := by rw [← hW2, ← hB]; exact Row.new _ _ _
  have b2 : Below W1.heap.size W1 W2 := by rw [← hW2]; exact (Below.refl _ _).alloc (Nat.le_refl _) _
  have r12 := r1.below b2 r1.lt
  have q0 := r12.cell (i := 0) rfl; have q1 := r12.cell (i := 1) rfl; have q2 := r12.cell (i := 2) rfl; have q3 := r12.cell (i := 3) rfl
  have f0 := r2.fr (i := 0); have f1 := r2.fr (i := 1); have f2 := r2.fr (i := 2); have f3 := r2.fr (i := 3)
  have c0 := r2.cell (i := 0) rfl; have c1 := r2.cell (i := 1) rfl; have c2 := r2.cell (i := 2) rfl; have c3 := r2.cell (i := 3) rfl
  have BB := Lib.hid (b1.trans (b2.mono b1.size))
  have lowB : Hid (w.heap.size ≤ B) := by show _ ≤ _; rw [← hB]; exact b1.size
  obtain ⟨W3, hW3⟩ : ∃ W3, (((W2.setCell ⟨B, 0, none⟩ (.slice none 0 0)).setCell ⟨B, 1, none⟩ (.int .i64 0)).setCell ⟨B, 2, none⟩ (.int .i64 0)).setCell ⟨B, 3, none⟩ (.bool true) = W3 := ⟨_, rfl⟩
  have r3 : Row W3 B 65 [.slice none 0 0, .int .i64 0, .int .i64 0, .bool true] := by rw [← hW3]; exact (((r2.set (i := 0) _).set (i := 1) _).set (i := 2) _).set (i := 3) _
  have g0 := r3.cell (i := 0) rfl; have g1 := r3.cell (i := 1) rfl; have g2 := r3.cell (i := 2) rfl; have g3 := r3.cell (i := 3) rfl
  have B3 : Hid (Below w.heap.size w W3) := by show Below _ _ _; rw [← hW3]; exact (((BB.out.setCell lowB.out _).setCell lowB.out _).setCell lowB.out _).setCell lowB.out _
  clear r1 b1 r2 b2 r12 r3
  have NB := Lib.hid (rn_bad1 (px, py) fl)
  clear h
  go_enter Tryd.func28, Tryd.ntmps28
  go_wp2_with fail
  refine bodyPost_ret (by simp [results, Tryd.results28, go_sem, g0, g1, g2, g3]; rfl) rfl ?_
  exact ⟨none, 0, 0, by rw [NB.out]; rfl, by rw [NB.out]; exact ints_nil _, B3.out⟩
set_option maxRecDepth 100000 in
set_option maxHeartbeats 8000000 in
theorem rnext_cons {w0 w : World} {v : Value} {x : Int} {r : List Int} {p : Pt} {fl : Bool} (b0 : Below w0.heap.size w0 w) (h : IntsAt w0 v (x :: r)) (hl : (x :: r).length ≤ 1000000) : Calls Tryd.prog 28 #[rv v p fl] w (RnPost w0 w (x :: r, p, fl)) := by
  obtain ⟨a, cap, rfl⟩ := h.form
  obtain ⟨b, off, rfl, cx0⟩ := h.at (k := 0) (by simp)
  rw [List.getD_cons_zero, Nat.add_zero] at cx0
  obtain ⟨px, py⟩ := p
  obtain ⟨n, hn⟩ : ∃ n, (x :: r).length = n := ⟨_, rfl⟩
  rw [hn] at hl ⊢
  have HI := Lib.hid h
  rw [hn] at HI
  have NN1 : Hid (1 ≤ n) := by show _ ≤ _; rw [← hn]; simp
  have n0 : 0 < n := NN1.out
  have n0i : (0 : Int) < (n : Int) := by omega
  have n1i : (1 : Int) ≤ (n : Int) := by omega
  have nz : ((n : Int) == 0) = false := by simp; omega
  have CAP : Hid (n ≤ cap) := by
    obtain ⟨_, _, e, hq, _⟩ := HI.out
    injection e with _ e2 e3
    rw [hn] at hq; show _ ≤ _; omega
  obtain ⟨A, hA⟩ : ∃ A, w.heap.size = A := ⟨_, rfl⟩
  obtain ⟨W1, hW1⟩ : ∃ W1, w.alloc (.cells #[.slice (some ⟨b, off, none⟩) n cap, .int .i64 px, .int .i64 py, .bool fl] 65) = W1 := ⟨_, rfl⟩
  have r1 : Row W1 A 65 [.slice (some ⟨b, off, none⟩) n cap, .int .i64 px, .int .i64 py, .bool fl] := by rw [← hW1, ← hA]; exact Row.new _ _ _
  have b1 : Below w.heap.size w W1 := by rw [← hW1]; exact (Below.refl _ _).alloc (Nat.le_refl _) _
  obtain ⟨B, hB⟩ : ∃ B, W1.heap.size = B := ⟨_, rfl⟩
  obtain ⟨W2, hW2⟩ : ∃ W2, W1.alloc (.cells #[.slice none 0 0, .int .i64 0, .int .i64 0, .bool false] 65) = W2 := ⟨_, rfl⟩
  have r2 : Row W2 B 65 [.slice none 0 0, .int .i64 0, .int .i64 0, .bool false] := by rw [← hW2, ← hB]; exact Row.new _ _ _
  have b2 : Below W1.heap.size W1 W2 := by rw [← hW2]; exact (Below.refl _ _).alloc (Nat.le_refl _) _
  have r12 := r1.below b2 r1.lt
  have q0 := r12.cell (i := 0) rfl; have q1 := r12.cell (i := 1) rfl; have q2 := r12.cell (i := 2) rfl; have q3 := r12.cell (i := 3) rfl
  have f0 := r2.fr (i := 0); have f1 := r2.fr (i := 1); have f2 := r2.fr (i := 2); have f3 := r2.fr (i := 3)
  have c0 := r2.cell (i := 0) rfl; have c1 := r2.cell (i := 1) rfl; have c2 := r2.cell (i := 2) rfl; have c3 := r2.cell (i := 3) rfl
  have BB := Lib.hid (b1.trans (b2.mono b1.size))
  have lowB : Hid (w.heap.size ≤ B) := by show _ ≤ _; rw [← hB]; exact b1.size
  have cx : W2.cell? ⟨b, off, none⟩ = some (.int .i64 x) := by
    have hb := cell_lt cx0
    have bb : Below w0.heap.size w0 W2 := b0.trans (BB.out.mono b0.size)
    rw [bb.cell hb]; exact cx0
  have HBL : Hid (b < w.heap.size) := by have hb0 : b < w0.heap.size := cell_lt cx0; have := b0.size; show _ < _; omega
  clear h b0 cx0 hl hn
  by_cases hx : x < 0
  · have NB := Lib.hid (rn_bad2 (t := r) (p := (px, py)) (b := fl) (x := x) (by omega))
    obtain ⟨W3, hW3⟩ : ∃ W3, (((W2.setCell ⟨B, 0, none⟩ (.slice none 0 0)).setCell ⟨B, 1, none⟩ (.int .i64 0)).setCell ⟨B, 2, none⟩ (.int .i64 0)).setCell ⟨B, 3, none⟩ (.bool true) = W3 := ⟨_, rfl⟩
    have r3 : Row W3 B 65 [.slice none 0 0, .int .i64 0, .int .i64 0, .bool true] := by rw [← hW3]; exact (((r2.set (i := 0) _).set (i := 1) _).set (i := 2) _).set (i := 3) _
    have g0 := r3.cell (i := 0) rfl; have g1 := r3.cell (i := 1) rfl; have g2 := r3.cell (i := 2) rfl; have g3 := r3.cell (i := 3) rfl
    have B3 : Hid (Below w.heap.size w W3) := by show Below _ _ _; rw [← hW3]; exact (((BB.out.setCell lowB.out _).setCell lowB.out _).setCell lowB.out _).setCell lowB.out _
    clear r1 b1 r2 b2 r12 r3
    go_enter Tryd.func28, Tryd.ntmps28
    go_wp2_with fail
    refine bodyPost_ret (by simp [results, Tryd.results28, go_sem, g0, g1, g2, g3]; rfl) rfl ?_
    exact ⟨none, 0, 0, by rw [NB.out]; rfl, by rw [NB.out]; exact ints_nil _, B3.out⟩
  by_cases hx2 : 100000 < x
  · have NB := Lib.hid (rn_bad2 (t := r) (p := (px, py)) (b := fl) (x := x) (by omega))
    obtain ⟨W3, hW3⟩ : ∃ W3, (((W2.setCell ⟨B, 0, none⟩ (.slice none 0 0)).setCell ⟨B, 1, none⟩ (.int .i64 0)).setCell ⟨B, 2, none⟩ (.int .i64 0)).setCell ⟨B, 3, none⟩ (.bool true) = W3 := ⟨_, rfl⟩
    have r3 : Row W3 B 65 [.slice none 0 0, .int .i64 0, .int .i64 0, .bool true] := by rw [← hW3]; exact (((r2.set (i := 0) _).set (i := 1) _).set (i := 2) _).set (i := 3) _
    have g0 := r3.cell (i := 0) rfl; have g1 := r3.cell (i := 1) rfl; have g2 := r3.cell (i := 2) rfl; have g3 := r3.cell (i := 3) rfl
    have B3 : Hid (Below w.heap.size w W3) := by show Below _ _ _; rw [← hW3]; exact (((BB.out.setCell lowB.out _).setCell lowB.out _).setCell lowB.out _).setCell lowB.out _
    clear r1 b1 r2 b2 r12 r3
    go_enter Tryd.func28, Tryd.ntmps28
    go_wp2_with fail
    refine bodyPost_ret (by simp [results, Tryd.results28, go_sem, g0, g1, g2, g3]; rfl) rfl ?_
    exact ⟨none, 0, 0, by rw [NB.out]; rfl, by rw [NB.out]; exact ints_nil _, B3.out⟩
  have NB := Lib.hid (rn_good (t := r) (p := (px, py)) (b := fl) (x := x) ⟨by omega, by omega⟩)
  by_cases hcap : cap = 1
  · have n1 : n = 1 := by have := CAP.out; omega
    subst n1; subst hcap
    obtain ⟨W3, hW3⟩ : ∃ W3, (((W2.setCell ⟨B, 0, none⟩ (.slice (some ⟨b, off, none⟩) 0 0)).setCell ⟨B, 1, none⟩ (.int .i64 px)).setCell ⟨B, 2, none⟩ (.int .i64 py)).setCell ⟨B, 3, none⟩ (.bool fl) = W3 := ⟨_, rfl⟩
    have r3 : Row W3 B 65 [.slice (some ⟨b, off, none⟩) 0 0, .int .i64 px, .int .i64 py, .bool fl] := by rw [← hW3]; exact (((r2.set (i := 0) _).set (i := 1) _).set (i := 2) _).set (i := 3) _
    have g0 := r3.cell (i := 0) rfl; have g1 := r3.cell (i := 1) rfl; have g2 := r3.cell (i := 2) rfl; have g3 := r3.cell (i := 3) rfl
    have B3 : Hid (Below w.heap.size w W3) := by show Below _ _ _; rw [← hW3]; exact (((BB.out.setCell lowB.out _).setCell lowB.out _).setCell lowB.out _).setCell lowB.out _
    have ra3 : Row W3 A 65 [.slice (some ⟨b, off, none⟩) 1 1, .int .i64 px, .int .i64 py, .bool fl] := by
      have hne : A ≠ B := by have := r1.lt; omega
      rw [← hW3]; exact (((r12.other (by exact hne)).other (by exact hne)).other (by exact hne)).other (by exact hne)
    have p0 := ra3.cell (i := 0) rfl; have p1 := ra3.cell (i := 1) rfl; have p2 := ra3.cell (i := 2) rfl; have p3 := ra3.cell (i := 3) rfl
    have cx3 : W3.cell? ⟨b, off, none⟩ = some (.int .i64 x) := by
      have hne : b ≠ B := by have := HBL.out; have := lowB.out; omega
      rw [← hW3, World.cell?_of_block (Below.heap_setCell _ _ _ _ (by exact hne)), World.cell?_of_block (Below.heap_setCell _ _ _ _ (by exact hne)), World.cell?_of_block (Below.heap_setCell _ _ _ _ (by exact hne)), World.cell?_of_block (Below.heap_setCell _ _ _ _ (by exact hne))]; exact cx
    clear r1 b1 r2 b2 r12 r3 ra3
    go_enter Tryd.func28, Tryd.ntmps28
    go_wp2_with fail
    refine wp_region_held_drew (S := fun W => W.cell? ⟨A, 0, none⟩ = some (.slice (some ⟨b, off, none⟩) 1 1) ∧ W.cell? ⟨A, 1, none⟩ = some (.int .i64 px) ∧ W.cell? ⟨A, 2, none⟩ = some (.int .i64 py) ∧ W.cell? ⟨A, 3, none⟩ = some (.bool fl) ∧ W.cell? ⟨b, off, none⟩ = some (.int .i64 x)) (by kernel_rfl) ⟨q0, q1, q2, q3, cx⟩ (fun hHeld => ?_)
    refine wpAnyH_take (i := 0) (v := ?_) rfl (by kernel_rfl) (by kernel_rfl) (by kernel_rfl) (fun _ _ _ h => h) (Or.inl ⟨by rfl, ?_⟩) (by assumption) ?_
    rotate_left 1
    · (intro w hSw; (try dsimp only at hSw); first | (go_simp; done) | (go_simp; with_reducible rfl))
    simp only [Act.put, List.getElem_toArray, List.getElem_cons_zero, List.setIfInBounds_toArray, List.set_cons_zero, List.set_cons_succ]
    refine wpAnyH_take (i := 1) (v := ?_) rfl (by kernel_rfl) (by kernel_rfl) (by kernel_rfl) (fun _ _ _ h => h) (Or.inl ⟨by rfl, ?_⟩) (by assumption) ?_
    rotate_left 1
    · (intro w hSw; (try dsimp only at hSw); first | (go_simp; done) | (go_simp; with_reducible rfl))
    simp only [Act.put, List.getElem_toArray, List.getElem_cons_zero, List.getElem_cons_succ, List.setIfInBounds_toArray, List.set_cons_zero, List.set_cons_succ]
    refine wpAnyH_take (i := 2) (v := ?_) rfl (by kernel_rfl) (by kernel_rfl) (by kernel_rfl) (fun _ _ _ h => h) (Or.inl ⟨by rfl, ?_⟩) (by assumption) ?_
    rotate_left 1
    · (intro w hSw; (try dsimp only at hSw); first | (go_simp; done) | (go_simp; with_reducible rfl))
    simp only [Act.put, List.getElem_toArray, List.getElem_cons_zero, List.getElem_cons_succ, List.setIfInBounds_toArray, List.set_cons_zero, List.set_cons_succ]
    refine wpAnyH_take (i := 3) (v := ?_) rfl (by kernel_rfl) (by kernel_rfl) (by kernel_rfl) (fun _ _ _ h => h) (Or.inl ⟨by rfl, ?_⟩) (by assumption) ?_
    rotate_left 1
    · (intro w hSw; (try dsimp only at hSw); first | (go_simp; done) | (go_simp; with_reducible rfl))
    simp only [Act.put, List.getElem_toArray, List.getElem_cons_zero, List.getElem_cons_succ, List.setIfInBounds_toArray, List.set_cons_zero, List.set_cons_succ]
    refine wpAnyH_take (i := 4) (v := ?_) rfl (by kernel_rfl) (by kernel_rfl) (by kernel_rfl) (fun _ _ _ h => h) (Or.inl ⟨by rfl, ?_⟩) (by assumption) ?_
    rotate_left 1
    · (intro w hSw; (try dsimp only at hSw); first | (go_simp; done) | (go_simp; with_reducible rfl))
    simp only [Act.put, List.getElem_toArray, List.getElem_cons_zero, List.getElem_cons_succ, List.setIfInBounds_toArray, List.set_cons_zero, List.set_cons_succ]
    refine wpAnyH_take (i := 5) (v := ?_) rfl (by kernel_rfl) (by kernel_rfl) (by kernel_rfl) (fun _ _ _ h => h) (Or.inl ⟨by rfl, ?_⟩) (by assumption) ?_
    rotate_left 1
    · (intro w hSw; (try dsimp only at hSw); first | (go_simp; done) | (go_simp; with_reducible rfl))
    simp only [Act.put, List.getElem_toArray, List.getElem_cons_zero, List.getElem_cons_succ, List.setIfInBounds_toArray, List.set_cons_zero, List.set_cons_succ]
    refine wpAnyH_take (i := 6) (v := ?_) rfl (by kernel_rfl) (by kernel_rfl) (by kernel_rfl) (fun _ _ _ h => h) (Or.inl ⟨by rfl, ?_⟩) (by assumption) ?_
    rotate_left 1
    · (intro w hSw; (try dsimp only at hSw); first | (go_simp; done) | (go_simp; with_reducible rfl))
    simp only [Act.put, List.getElem_toArray, List.getElem_cons_zero, List.getElem_cons_succ, List.setIfInBounds_toArray, List.set_cons_zero, List.set_cons_succ]
    refine wpAnyH_take (i := 7) (v := ?_) rfl (by kernel_rfl) (by kernel_rfl) (by kernel_rfl) (fun _ _ _ h => h) (Or.inl ⟨by rfl, ?_⟩) (by assumption) ?_
    rotate_left 1
    · (intro w hSw; (try dsimp only at hSw); first | (go_simp; done) | (go_simp; with_reducible rfl))
    simp only [Act.put, List.getElem_toArray, List.getElem_cons_zero, List.getElem_cons_succ, List.setIfInBounds_toArray, List.set_cons_zero, List.set_cons_succ]
    refine wpAnyH_take (i := 8) (v := ?_) rfl (by kernel_rfl) (by kernel_rfl) (by kernel_rfl) (fun _ _ _ h => h) (Or.inl ⟨by rfl, ?_⟩) (by assumption) ?_
    rotate_left 1
    · (intro w hSw; (try dsimp only at hSw); first | (go_simp; done) | (go_simp; with_reducible rfl))
    simp only [Act.put, List.getElem_toArray, List.getElem_cons_zero, List.getElem_cons_succ, List.setIfInBounds_toArray, List.set_cons_zero, List.set_cons_succ]
    refine wpAnyH_take (i := 9) (v := ?_) rfl (by kernel_rfl) (by kernel_rfl) (by kernel_rfl) (fun _ _ _ h => h) (Or.inl ⟨by rfl, ?_⟩) (by assumption) ?_
    rotate_left 1
    · (intro w hSw; (try dsimp only at hSw); first | (go_simp; done) | (go_simp; with_reducible rfl))
    simp only [Act.put, List.getElem_toArray, List.getElem_cons_zero, List.getElem_cons_succ, List.setIfInBounds_toArray, List.set_cons_zero, List.set_cons_succ]
    refine wpAnyH_take (i := 10) (v := ?_) rfl (by kernel_rfl) (by kernel_rfl) (by kernel_rfl) (fun _ _ _ h => h) (Or.inl ⟨by rfl, ?_⟩) (by assumption) ?_
    rotate_left 1
    · (intro w hSw; (try dsimp only at hSw); first | (go_simp; done) | (go_simp; with_reducible rfl))
    simp only [Act.put, List.getElem_toArray, List.getElem_cons_zero, List.getElem_cons_succ, List.setIfInBounds_toArray, List.set_cons_zero, List.set_cons_succ]
    refine wpAnyH_take (i := 11) (v := ?_) rfl (by kernel_rfl) (by kernel_rfl) (by kernel_rfl) (fun _ _ _ h => h) (Or.inl ⟨by rfl, ?_⟩) (by assumption) ?_
    rotate_left 1
    · (intro w hSw; (try dsimp only at hSw); first | (go_simp; done) | (go_simp; with_reducible rfl))
    simp only [Act.put, List.getElem_toArray, List.getElem_cons_zero, List.getElem_cons_succ, List.setIfInBounds_toArray, List.set_cons_zero, List.set_cons_succ]
    refine wpAnyH_ready (rs := [12]) (by decide +kernel) (by simp) ?_
    refine AllReadyH.cons rfl (fun K hK => ?_) AllReadyH.nil
    go_simp
    refine hK.out _ _ ⟨p0, p1, p2, p3, cx3⟩ (fun hHeld2 => ?_)
    clear hK K hHeld; have hHeld := hHeld2; clear hHeld2
    refine wpAnyH_take (i := 13) (v := ?_) rfl (by kernel_rfl) (by kernel_rfl) (by kernel_rfl) (fun _ _ _ h => h) (Or.inl ⟨by rfl, ?_⟩) (by assumption) ?_
    rotate_left 1
    · (intro w hSw; (try dsimp only at hSw); first | (go_simp; done) | (go_simp; with_reducible rfl))
    simp only [Act.put, List.getElem_toArray, List.getElem_cons_zero, List.getElem_cons_succ, List.setIfInBounds_toArray, List.set_cons_zero, List.set_cons_succ]
    refine wpAnyH_done (by kernel_rfl) ?_ _
    go_wp2_with fail
    refine bodyPost_ret (by simp [results, Tryd.results28, go_sem, g0, g1, g2, g3]; rfl) rfl ?_
    exact ⟨_, _, _, by rw [NB.out], by rw [NB.out]; exact (by have := HI.out.cut (c := 1) (Nat.le_refl 1); unfold cutV at this; rw [if_pos rfl] at this; exact this), Below.drew B3.out⟩
  · have HCP := Lib.hid hcap
    obtain ⟨W3, hW3⟩ : ∃ W3, (((W2.setCell ⟨B, 0, none⟩ (.slice (some ⟨b, off + 1, none⟩) (n - 1) (cap - 1))).setCell ⟨B, 1, none⟩ (.int .i64 px)).setCell ⟨B, 2, none⟩ (.int .i64 py)).setCell ⟨B, 3, none⟩ (.bool fl) = W3 := ⟨_, rfl⟩
    have r3 : Row W3 B 65 [.slice (some ⟨b, off + 1, none⟩) (n - 1) (cap - 1), .int .i64 px, .int .i64 py, .bool fl] := by rw [← hW3]; exact (((r2.set (i := 0) _).set (i := 1) _).set (i := 2) _).set (i := 3) _
    have g0 := r3.cell (i := 0) rfl; have g1 := r3.cell (i := 1) rfl; have g2 := r3.cell (i := 2) rfl; have g3 := r3.cell (i := 3) rfl
    have B3 : Hid (Below w.heap.size w W3) := by show Below _ _ _; rw [← hW3]; exact (((BB.out.setCell lowB.out _).setCell lowB.out _).setCell lowB.out _).setCell lowB.out _
    have ra3 : Row W3 A 65 [.slice (some ⟨b, off, none⟩) n cap, .int .i64 px, .int .i64 py, .bool fl] := by
      have hne : A ≠ B := by have := r1.lt; omega
      rw [← hW3]; exact (((r12.other (by exact hne)).other (by exact hne)).other (by exact hne)).other (by exact hne)
    have p0 := ra3.cell (i := 0) rfl; have p1 := ra3.cell (i := 1) rfl; have p2 := ra3.cell (i := 2) rfl; have p3 := ra3.cell (i := 3) rfl
    have cx3 : W3.cell? ⟨b, off, none⟩ = some (.int .i64 x) := by
      have hne : b ≠ B := by have := HBL.out; have := lowB.out; omega
      rw [← hW3, World.cell?_of_block (Below.heap_setCell _ _ _ _ (by exact hne)), World.cell?_of_block (Below.heap_setCell _ _ _ _ (by exact hne)), World.cell?_of_block (Below.heap_setCell _ _ _ _ (by exact hne)), World.cell?_of_block (Below.heap_setCell _ _ _ _ (by exact hne))]; exact cx
    clear r1 b1 r2 b2 r12 r3 ra3
    go_enter Tryd.func28, Tryd.ntmps28
    go_wp2_with fail
    refine wp_region_held_drew (S := fun W => W.cell? ⟨A, 0, none⟩ = some (.slice (some ⟨b, off, none⟩) n cap) ∧ W.cell? ⟨A, 1, none⟩ = some (.int .i64 px) ∧ W.cell? ⟨A, 2, none⟩ = some (.int .i64 py) ∧ W.cell? ⟨A, 3, none⟩ = some (.bool fl) ∧ W.cell? ⟨b, off, none⟩ = some (.int .i64 x)) (by kernel_rfl) ⟨q0, q1, q2, q3, cx⟩ (fun hHeld => ?_)
    refine wpAnyH_take (i := 0) (v := ?_) rfl (by kernel_rfl) (by kernel_rfl) (by kernel_rfl) (fun _ _ _ h => h) (Or.inl ⟨by rfl, ?_⟩) (by assumption) ?_
    rotate_left 1
    · (intro w hSw; (try dsimp only at hSw); first | (go_simp; done) | (go_simp; with_reducible rfl))
    simp only [Act.put, List.getElem_toArray, List.getElem_cons_zero, List.setIfInBounds_toArray, List.set_cons_zero, List.set_cons_succ]
    refine wpAnyH_take (i := 1) (v := ?_) rfl (by kernel_rfl) (by kernel_rfl) (by kernel_rfl) (fun _ _ _ h => h) (Or.inl ⟨by rfl, ?_⟩) (by assumption) ?_
    rotate_left 1
    · (intro w hSw; (try dsimp only at hSw); first | (go_simp; done) | (go_simp; with_reducible rfl))
    simp only [Act.put, List.getElem_toArray, List.getElem_cons_zero, List.getElem_cons_succ, List.setIfInBounds_toArray, List.set_cons_zero, List.set_cons_succ]
    refine wpAnyH_take (i := 2) (v := ?_) rfl (by kernel_rfl) (by kernel_rfl) (by kernel_rfl) (fun _ _ _ h => h) (Or.inl ⟨by rfl, ?_⟩) (by assumption) ?_
    rotate_left 1
    · (intro w hSw; (try dsimp only at hSw); first | (go_simp; done) | (go_simp; with_reducible rfl))
    simp only [Act.put, List.getElem_toArray, List.getElem_cons_zero, List.getElem_cons_succ, List.setIfInBounds_toArray, List.set_cons_zero, List.set_cons_succ]
    refine wpAnyH_take (i := 3) (v := ?_) rfl (by kernel_rfl) (by kernel_rfl) (by kernel_rfl) (fun _ _ _ h => h) (Or.inl ⟨by rfl, ?_⟩) (by assumption) ?_
    rotate_left 1
    · (intro w hSw; (try dsimp only at hSw); first | (go_simp; done) | (go_simp; with_reducible rfl))
    simp only [Act.put, List.getElem_toArray, List.getElem_cons_zero, List.getElem_cons_succ, List.setIfInBounds_toArray, List.set_cons_zero, List.set_cons_succ]
    refine wpAnyH_take (i := 4) (v := ?_) rfl (by kernel_rfl) (by kernel_rfl) (by kernel_rfl) (fun _ _ _ h => h) (Or.inl ⟨by rfl, ?_⟩) (by assumption) ?_
    rotate_left 1
    · (intro w hSw; (try dsimp only at hSw); first | (go_simp; done) | (go_simp; with_reducible rfl))
    simp only [Act.put, List.getElem_toArray, List.getElem_cons_zero, List.getElem_cons_succ, List.setIfInBounds_toArray, List.set_cons_zero, List.set_cons_succ]
    refine wpAnyH_take (i := 5) (v := ?_) rfl (by kernel_rfl) (by kernel_rfl) (by kernel_rfl) (fun _ _ _ h => h) (Or.inl ⟨by rfl, ?_⟩) (by assumption) ?_
    rotate_left 1
    · (intro w hSw; (try dsimp only at hSw); first | (go_simp; done) | (go_simp; with_reducible rfl))
    simp only [Act.put, List.getElem_toArray, List.getElem_cons_zero, List.getElem_cons_succ, List.setIfInBounds_toArray, List.set_cons_zero, List.set_cons_succ]
    refine wpAnyH_take (i := 6) (v := ?_) rfl (by kernel_rfl) (by kernel_rfl) (by kernel_rfl) (fun _ _ _ h => h) (Or.inl ⟨by rfl, ?_⟩) (by assumption) ?_
    rotate_left 1
    · (intro w hSw; (try dsimp only at hSw); first | (go_simp; done) | (go_simp; with_reducible rfl))
    simp only [Act.put, List.getElem_toArray, List.getElem_cons_zero, List.getElem_cons_succ, List.setIfInBounds_toArray, List.set_cons_zero, List.set_cons_succ]
    refine wpAnyH_take (i := 7) (v := ?_) rfl (by kernel_rfl) (by kernel_rfl) (by kernel_rfl) (fun _ _ _ h => h) (Or.inl ⟨by rfl, ?_⟩) (by assumption) ?_
    rotate_left 1
    · (intro w hSw; (try dsimp only at hSw); first | (go_simp; done) | (go_simp; with_reducible rfl))
    simp only [Act.put, List.getElem_toArray, List.getElem_cons_zero, List.getElem_cons_succ, List.setIfInBounds_toArray, List.set_cons_zero, List.set_cons_succ]
    refine wpAnyH_take (i := 8) (v := ?_) rfl (by kernel_rfl) (by kernel_rfl) (by kernel_rfl) (fun _ _ _ h => h) (Or.inl ⟨by rfl, ?_⟩) (by assumption) ?_
    rotate_left 1
    · (intro w hSw; (try dsimp only at hSw); first | (go_simp; done) | (go_simp; with_reducible rfl))
    simp only [Act.put, List.getElem_toArray, List.getElem_cons_zero, List.getElem_cons_succ, List.setIfInBounds_toArray, List.set_cons_zero, List.set_cons_succ]
    refine wpAnyH_take (i := 9) (v := ?_) rfl (by kernel_rfl) (by kernel_rfl) (by kernel_rfl) (fun _ _ _ h => h) (Or.inl ⟨by rfl, ?_⟩) (by assumption) ?_
    rotate_left 1
    · (intro w hSw; (try dsimp only at hSw); first | (go_simp; done) | (go_simp; with_reducible rfl))
    simp only [Act.put, List.getElem_toArray, List.getElem_cons_zero, List.getElem_cons_succ, List.setIfInBounds_toArray, List.set_cons_zero, List.set_cons_succ]
    refine wpAnyH_take (i := 10) (v := ?_) rfl (by kernel_rfl) (by kernel_rfl) (by kernel_rfl) (fun _ _ _ h => h) (Or.inl ⟨by rfl, ?_⟩) (by assumption) ?_
    rotate_left 1
    · (intro w hSw; (try dsimp only at hSw); first | (go_simp; done) | (go_simp; with_reducible rfl))
    simp only [Act.put, List.getElem_toArray, List.getElem_cons_zero, List.getElem_cons_succ, List.setIfInBounds_toArray, List.set_cons_zero, List.set_cons_succ]
    refine wpAnyH_take (i := 11) (v := ?_) rfl (by kernel_rfl) (by kernel_rfl) (by kernel_rfl) (fun _ _ _ h => h) (Or.inl ⟨by rfl, ?_⟩) (by assumption) ?_
    rotate_left 1
    · (intro w hSw; (try dsimp only at hSw); first | (go_simp; done) | (go_simp; with_reducible rfl))
    simp only [Act.put, List.getElem_toArray, List.getElem_cons_zero, List.getElem_cons_succ, List.setIfInBounds_toArray, List.set_cons_zero, List.set_cons_succ]
    refine wpAnyH_ready (rs := [12]) (by decide +kernel) (by simp) ?_
    refine AllReadyH.cons rfl (fun K hK => ?_) AllReadyH.nil
    go_simp
    refine hK.out _ _ ⟨p0, p1, p2, p3, cx3⟩ (fun hHeld2 => ?_)
    clear hK K hHeld; have hHeld := hHeld2; clear hHeld2
    refine wpAnyH_take (i := 13) (v := ?_) rfl (by kernel_rfl) (by kernel_rfl) (by kernel_rfl) (fun _ _ _ h => h) (Or.inl ⟨by rfl, ?_⟩) (by assumption) ?_
    rotate_left 1
    · (intro w hSw; (try dsimp only at hSw); first | (go_simp; done) | (go_simp; with_reducible rfl))
    simp only [Act.put, List.getElem_toArray, List.getElem_cons_zero, List.getElem_cons_succ, List.setIfInBounds_toArray, List.set_cons_zero, List.set_cons_succ]
    refine wpAnyH_done (by kernel_rfl) ?_ _
    go_wp2_with fail
    refine bodyPost_ret (by simp [results, Tryd.results28, go_sem, g0, g1, g2, g3]; rfl) rfl ?_
    exact ⟨_, _, _, by rw [NB.out], by rw [NB.out]; exact (by have := HI.out.cut (c := 1) NN1.out; unfold cutV at this; rw [if_neg HCP.out] at this; exact this), Below.drew B3.out⟩
theorem rnext_any {w0 w : World} {v : Value} {s : RS} (b0 : Below w0.heap.size w0 w) (h : IntsAt w0 v s.1) (hl : s.1.length ≤ 1000000) : Calls Tryd.prog 28 #[rv v s.2.1 s.2.2] w (RnPost w0 w s) := by
  obtain ⟨r, p, fl⟩ := s
  cases r with
  | nil => exact rnext_nil h
  | cons x r => exact rnext_cons b0 h hl
end Go.Proofs.YthlbenldgnjgcaaDoor
