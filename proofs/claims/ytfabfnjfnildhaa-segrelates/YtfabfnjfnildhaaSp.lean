/- seg: shareMore of any segments. -/
import Derived.Test.YtfabfnjfnildhaaSk
import Derived.Test.YtfabfnjfnildhaaDr
namespace Go.Proofs.Ytfabfnjfnildhaa
open Go.ChangeShapes Go.WideShapes Go.ChangeAt Go.RowKit Go.Joins Go.Deep

def G4 (w : World) (k : Nat) (a b c d : Int) : Prop := w.heap[k]? = some (.cells #[.int .i64 a, .int .i64 b, .int .i64 c, .int .i64 d] 25)
theorem G4.c0 {w : World} {k : Nat} {a b c d : Int} (h : G4 w k a b c d) : w.cell? ⟨k, 0, none⟩ = some (.int .i64 a) := by unfold G4 at h; simp [World.cell?, h]
theorem G4.c1 {w : World} {k : Nat} {a b c d : Int} (h : G4 w k a b c d) : w.cell? ⟨k, 1, none⟩ = some (.int .i64 b) := by unfold G4 at h; simp [World.cell?, h]
theorem G4.c2 {w : World} {k : Nat} {a b c d : Int} (h : G4 w k a b c d) : w.cell? ⟨k, 2, none⟩ = some (.int .i64 c) := by unfold G4 at h; simp [World.cell?, h]
theorem G4.c3 {w : World} {k : Nat} {a b c d : Int} (h : G4 w k a b c d) : w.cell? ⟨k, 3, none⟩ = some (.int .i64 d) := by unfold G4 at h; simp [World.cell?, h]
theorem G4.fr {w : World} {k i : Nat} {a b c d : Int} (h : G4 w k a b c d) : w.frozen? ⟨k, i, none⟩ = false := by unfold G4 at h; simp [World.frozen?, h]
theorem G4.below {w w' : World} {k B : Nat} {a b c d : Int} (h : G4 w k a b c d) (hb : Below B w w') (hn : k < B) : G4 w' k a b c d := by
  unfold G4; rw [hb.block _ hn]; exact h
theorem G4.lt {w : World} {k : Nat} {a b c d : Int} (h : G4 w k a b c d) : k < w.heap.size := cell_lt h.c0
theorem G4.new (w : World) (a b c d : Int) : G4 (w.alloc (.cells #[.int .i64 a, .int .i64 b, .int .i64 c, .int .i64 d] 25)) w.heap.size a b c d := by
  show (w.heap.push _)[w.heap.size]? = _
  rw [Array.getElem?_push, if_pos rfl]
theorem G4.other {w : World} {k : Nat} {a b c d : Int} {u : Value} {p : Addr} (h : G4 w k a b c d) (hn : k ≠ p.block) : G4 (w.setCell p u) k a b c d := by
  unfold G4; rw [Below.heap_setCell _ _ _ _ hn]; exact h
theorem g4_fold {W : World} {k : Nat} {a b c d : Int} (a' b' c' d' : Int) (h : G4 W k a b c d) :
    ∃ W9, (((W.setCell ⟨k, 0, none⟩ (.int .i64 a')).setCell ⟨k, 1, none⟩ (.int .i64 b')).setCell ⟨k, 2, none⟩ (.int .i64 c')).setCell ⟨k, 3, none⟩ (.int .i64 d') = W9 ∧ G4 W9 k a' b' c' d' ∧ (∀ B, B ≤ k → Below B W W9) ∧
      ∀ k' x y z u, k' ≠ k → G4 W k' x y z u → G4 W9 k' x y z u := by
  refine ⟨_, rfl, ?_, fun _ h => ((((Below.refl _ _).setCell h _).setCell h _).setCell h _).setCell h _, fun k' x y z u hn g => (((g.other hn).other hn).other hn).other hn⟩
  have h0 : (W.setCell ⟨k, 0, none⟩ (.int .i64 a')).heap[k]? = some (.cells #[.int .i64 a', .int .i64 b, .int .i64 c, .int .i64 d] 25) := by rw [set_blk h]; rfl
  have h1 : ((W.setCell ⟨k, 0, none⟩ (.int .i64 a')).setCell ⟨k, 1, none⟩ (.int .i64 b')).heap[k]? = some (.cells #[.int .i64 a', .int .i64 b', .int .i64 c, .int .i64 d] 25) := by rw [set_blk h0]; rfl
  have h2 : (((W.setCell ⟨k, 0, none⟩ (.int .i64 a')).setCell ⟨k, 1, none⟩ (.int .i64 b')).setCell ⟨k, 2, none⟩ (.int .i64 c')).heap[k]? = some (.cells #[.int .i64 a', .int .i64 b', .int .i64 c', .int .i64 d] 25) := by rw [set_blk h1]; rfl
  unfold G4; rw [set_blk h2]; rfl
theorem s4_keep {w w1 w' : World} {a b c d e f g h : Int} (k : Below w1.heap.size w1 w') (x : Below w.heap.size w w1 ∧ G4 w1 w.heap.size a b c d ∧ G4 w1 (w.heap.size + 1) e f g h ∧ w1.cell? ⟨w.heap.size, 0, none⟩ = some (.int .i64 a) ∧ w1.cell? ⟨w.heap.size, 1, none⟩ = some (.int .i64 b) ∧ w1.cell? ⟨w.heap.size, 2, none⟩ = some (.int .i64 c) ∧ w1.cell? ⟨w.heap.size, 3, none⟩ = some (.int .i64 d) ∧ w1.cell? ⟨w.heap.size + 1, 0, none⟩ = some (.int .i64 e) ∧ w1.cell? ⟨w.heap.size + 1, 1, none⟩ = some (.int .i64 f) ∧ w1.cell? ⟨w.heap.size + 1, 2, none⟩ = some (.int .i64 g) ∧ w1.cell? ⟨w.heap.size + 1, 3, none⟩ = some (.int .i64 h)) : Below w.heap.size w w' ∧ G4 w' w.heap.size a b c d ∧ G4 w' (w.heap.size + 1) e f g h ∧ w'.cell? ⟨w.heap.size, 0, none⟩ = some (.int .i64 a) ∧ w'.cell? ⟨w.heap.size, 1, none⟩ = some (.int .i64 b) ∧ w'.cell? ⟨w.heap.size, 2, none⟩ = some (.int .i64 c) ∧ w'.cell? ⟨w.heap.size, 3, none⟩ = some (.int .i64 d) ∧ w'.cell? ⟨w.heap.size + 1, 0, none⟩ = some (.int .i64 e) ∧ w'.cell? ⟨w.heap.size + 1, 1, none⟩ = some (.int .i64 f) ∧ w'.cell? ⟨w.heap.size + 1, 2, none⟩ = some (.int .i64 g) ∧ w'.cell? ⟨w.heap.size + 1, 3, none⟩ = some (.int .i64 h) := by
  obtain ⟨h1, h2, h3, _⟩ := x
  have y := h2.below k h2.lt
  have z := h3.below k h3.lt
  exact ⟨h1.trans (k.mono h1.size), y, z, y.c0, y.c1, y.c2, y.c3, z.c0, z.c1, z.c2, z.c3⟩
set_option maxRecDepth 100000 in
set_option maxHeartbeats 4000000 in
theorem share_of (a b c d e f g h p q r s p' q' r' s' : Int) (w : World) (COa : Hid (∀ W : World, Calls Try.prog 14 #[pt a b, pt c d] W fun e' w' => e' = .returned (sg p q r s) ∧ Below W.heap.size W w')) (COb : Hid (∀ W : World, Calls Try.prog 14 #[pt e f, pt g h] W fun e' w' => e' = .returned (sg p' q' r' s') ∧ Below W.heap.size W w')) :
    Calls Try.prog 46 #[sg a b c d, sg e f g h] w fun e' w' => e' = .returned (.bool (lsB p q r' s' && lsB p' q' r s)) ∧ Below w.heap.size w w' := by
  obtain ⟨W1, hW1⟩ : ∃ W1, w.alloc (Obj.cells #[.int .i64 a, .int .i64 b, .int .i64 c, .int .i64 d] 25) = W1 := ⟨_, rfl⟩
  obtain ⟨W2, hW2⟩ : ∃ W2, W1.alloc (Obj.cells #[.int .i64 e, .int .i64 f, .int .i64 g, .int .i64 h] 25) = W2 := ⟨_, rfl⟩
  have z1 : W1.heap.size = w.heap.size + 1 := by rw [← hW1, World.size_alloc]
  have g1 := G4.new w a b c d
  have g2 := G4.new W1 e f g h
  have b1 : Below w.heap.size w W1 := by rw [← hW1]; exact (Below.refl _ _).alloc (Nat.le_refl _) _
  have b2 : Below W1.heap.size W1 W2 := by rw [← hW2]; exact (Below.refl _ _).alloc (Nat.le_refl _) _
  rw [hW1] at g1; rw [hW2, z1] at g2
  have g1' := g1.below b2 g1.lt
  have S0 : Hid (∀ W, W = W2.drew → Below w.heap.size w W ∧ G4 W w.heap.size a b c d ∧ G4 W (w.heap.size + 1) e f g h ∧ W.cell? ⟨w.heap.size, 0, none⟩ = some (.int .i64 a) ∧ W.cell? ⟨w.heap.size, 1, none⟩ = some (.int .i64 b) ∧ W.cell? ⟨w.heap.size, 2, none⟩ = some (.int .i64 c) ∧ W.cell? ⟨w.heap.size, 3, none⟩ = some (.int .i64 d) ∧ W.cell? ⟨w.heap.size + 1, 0, none⟩ = some (.int .i64 e) ∧ W.cell? ⟨w.heap.size + 1, 1, none⟩ = some (.int .i64 f) ∧ W.cell? ⟨w.heap.size + 1, 2, none⟩ = some (.int .i64 g) ∧ W.cell? ⟨w.heap.size + 1, 3, none⟩ = some (.int .i64 h)) := by
    intro W e0; subst e0
    exact ⟨(b1.trans (b2.mono (by omega))).drew, g1', g2, g1'.c0, g1'.c1, g1'.c2, g1'.c3, g2.c0, g2.c1, g2.c2, g2.c3⟩
  clear g1 g2 b1 b2 g1'
  go_enter Try.func46, Try.ntmps46
  go_wp2_with fail
  refine wp_region_drop (fun w' => Below w.heap.size w w' ∧ G4 w' w.heap.size a b c d ∧ G4 w' (w.heap.size + 1) e f g h ∧ w'.cell? ⟨w.heap.size, 0, none⟩ = some (.int .i64 a) ∧ w'.cell? ⟨w.heap.size, 1, none⟩ = some (.int .i64 b) ∧ w'.cell? ⟨w.heap.size, 2, none⟩ = some (.int .i64 c) ∧ w'.cell? ⟨w.heap.size, 3, none⟩ = some (.int .i64 d) ∧ w'.cell? ⟨w.heap.size + 1, 0, none⟩ = some (.int .i64 e) ∧ w'.cell? ⟨w.heap.size + 1, 1, none⟩ = some (.int .i64 f) ∧ w'.cell? ⟨w.heap.size + 1, 2, none⟩ = some (.int .i64 g) ∧ w'.cell? ⟨w.heap.size + 1, 3, none⟩ = some (.int .i64 h)) 10 (by kernel_rfl) (S0.out _ rfl) (fun hHeld => ?_)
  clear S0
  refine wpAnyD_take (i := 0) (v := ?_) rfl (by kernel_rfl) (by kernel_rfl) (by kernel_rfl) (by kernel_rfl) (fun _ _ _ h => h) (Or.inl ⟨by rfl, ?_⟩) (by assumption) ?_
  rotate_left 1
  · (intro w hSw; (try dsimp only at hSw); first | (go_simp; done) | (go_simp; with_reducible rfl))
  simp only [Act.put, List.getElem_toArray, List.getElem_cons_zero, List.setIfInBounds_toArray, List.set_cons_zero, List.set_cons_succ]
  refine wpAnyD_take (i := 1) (v := ?_) rfl (by kernel_rfl) (by kernel_rfl) (by kernel_rfl) (by kernel_rfl) (fun _ _ _ h => h) (Or.inl ⟨by rfl, ?_⟩) (by assumption) ?_
  rotate_left 1
  · (intro w hSw; (try dsimp only at hSw); first | (go_simp; done) | (go_simp; with_reducible rfl))
  simp only [Act.put, List.getElem_toArray, List.getElem_cons_zero, List.getElem_cons_succ, List.setIfInBounds_toArray, List.set_cons_zero, List.set_cons_succ]
  refine wpAnyD_take (i := 2) (v := ?_) rfl (by kernel_rfl) (by kernel_rfl) (by kernel_rfl) (by kernel_rfl) (fun _ _ _ h => h) (Or.inl ⟨by rfl, ?_⟩) (by assumption) ?_
  rotate_left 1
  · (intro w hSw; (try dsimp only at hSw); first | (go_simp; done) | (go_simp; with_reducible rfl))
  simp only [Act.put, List.getElem_toArray, List.getElem_cons_zero, List.getElem_cons_succ, List.setIfInBounds_toArray, List.set_cons_zero, List.set_cons_succ]
  refine wpAnyD_take (i := 3) (v := ?_) rfl (by kernel_rfl) (by kernel_rfl) (by kernel_rfl) (by kernel_rfl) (fun _ _ _ h => h) (Or.inl ⟨by rfl, ?_⟩) (by assumption) ?_
  rotate_left 1
  · (intro w hSw; (try dsimp only at hSw); first | (go_simp; done) | (go_simp; with_reducible rfl))
  simp only [Act.put, List.getElem_toArray, List.getElem_cons_zero, List.getElem_cons_succ, List.setIfInBounds_toArray, List.set_cons_zero, List.set_cons_succ]
  refine wpAnyD_take (i := 5) (v := ?_) rfl (by kernel_rfl) (by kernel_rfl) (by kernel_rfl) (by kernel_rfl) (fun _ _ _ h => h) (Or.inl ⟨by rfl, ?_⟩) (by assumption) ?_
  rotate_left 1
  · (intro w hSw; (try dsimp only at hSw); first | (go_simp; done) | (go_simp; with_reducible rfl))
  simp only [Act.put, List.getElem_toArray, List.getElem_cons_zero, List.getElem_cons_succ, List.setIfInBounds_toArray, List.set_cons_zero, List.set_cons_succ]
  refine wpAnyD_take (i := 6) (v := ?_) rfl (by kernel_rfl) (by kernel_rfl) (by kernel_rfl) (by kernel_rfl) (fun _ _ _ h => h) (Or.inl ⟨by rfl, ?_⟩) (by assumption) ?_
  rotate_left 1
  · (intro w hSw; (try dsimp only at hSw); first | (go_simp; done) | (go_simp; with_reducible rfl))
  simp only [Act.put, List.getElem_toArray, List.getElem_cons_zero, List.getElem_cons_succ, List.setIfInBounds_toArray, List.set_cons_zero, List.set_cons_succ]
  refine wpAnyD_take (i := 7) (v := ?_) rfl (by kernel_rfl) (by kernel_rfl) (by kernel_rfl) (by kernel_rfl) (fun _ _ _ h => h) (Or.inl ⟨by rfl, ?_⟩) (by assumption) ?_
  rotate_left 1
  · (intro w hSw; (try dsimp only at hSw); first | (go_simp; done) | (go_simp; with_reducible rfl))
  simp only [Act.put, List.getElem_toArray, List.getElem_cons_zero, List.getElem_cons_succ, List.setIfInBounds_toArray, List.set_cons_zero, List.set_cons_succ]
  refine wpAnyD_take (i := 8) (v := ?_) rfl (by kernel_rfl) (by kernel_rfl) (by kernel_rfl) (by kernel_rfl) (fun _ _ _ h => h) (Or.inl ⟨by rfl, ?_⟩) (by assumption) ?_
  rotate_left 1
  · (intro w hSw; (try dsimp only at hSw); first | (go_simp; done) | (go_simp; with_reducible rfl))
  simp only [Act.put, List.getElem_toArray, List.getElem_cons_zero, List.getElem_cons_succ, List.setIfInBounds_toArray, List.set_cons_zero, List.set_cons_succ]
  refine wpAnyD_one (i := 4) (by kernel_rfl) (by rfl) rfl (fun K hK => ?_)
  have hS1 := Lib.hid hHeld
  go_simp
  go_wp2_with (go_at_call 14; (with_reducible refine (COa.out _).mono ?_); rintro en w8 ⟨rfl, b8⟩)
  have hS2 := Lib.hid (s4_keep b8 hS1.out)
  refine hK.out _ _ hS2.out (fun hHeld2 => ?_)
  clear hK K hHeld hS1 b8; have hHeld := hHeld2; clear hHeld2
  refine wpAnyD_one (i := 9) (by kernel_rfl) (by rfl) rfl (fun K hK => ?_)
  go_simp
  go_wp2_with (go_at_call 14; (with_reducible refine (COb.out _).mono ?_); rintro en w9 ⟨rfl, b9⟩)
  have hS3 := Lib.hid (s4_keep b9 hS2.out)
  refine hK.out _ _ hS3.out (fun hHeld2 => ?_)
  clear hK K hHeld hS2 b9; have hHeld := hHeld2; clear hHeld2
  obtain ⟨hb9, y1, y2, k0, k1, k2, k3, l0, l1, l2, l3⟩ := hS3.out
  obtain ⟨W5, hW5, x5, b5, o5⟩ := g4_fold p q r s y1
  have y2' := o5 (w.heap.size + 1) e f g h (by omega) y2
  obtain ⟨W6, hW6, x6, b6, o6⟩ := g4_fold p' q' r' s' y2'
  have x5' := o6 w.heap.size p q r s (by omega) x5
  have f0 := y1.fr (i := 0); have f1 := y1.fr (i := 1); have f2 := y1.fr (i := 2); have f3 := y1.fr (i := 3)
  have j0 := y2'.fr (i := 0); have j1 := y2'.fr (i := 1); have j2 := y2'.fr (i := 2); have j3 := y2'.fr (i := 3)
  have m0 := y2'.c0; have m1 := y2'.c1; have m2 := y2'.c2; have m3 := y2'.c3
  have n0 := x5'.c0; have n1 := x5'.c1; have n2 := x5'.c2; have n3 := x5'.c3
  have p0 := x6.c0; have p1 := x6.c1; have p2 := x6.c2; have p3 := x6.c3
  have B6 := Lib.hid ((hb9.trans (b5 _ (Nat.le_refl _))).trans (b6 w.heap.size (by omega)))
  have X5 := Lib.hid x5'; have X6 := Lib.hid x6
  clear hb9 y1 y2 x5 x5' y2' b5 b6 o5 o6 x6 hHeld hS3
  refine wpAnyD_drop (by kernel_rfl) rfl (fun K hK => ?_)
  go_simp
  refine hK.out _ _ ?_
  clear hK K
  refine wpAny_one (i := 11) (by kernel_rfl) rfl (fun K hK => ?_)
  go_simp
  refine hK.out _ _ ?_
  clear hK K
  refine wpAny_done (by kernel_rfl) ?_ _
  clear k0 k1 k2 k3 l0 l1 l2 l3 f0 f1 f2 f3 j0 j1 j2 j3 m0 m1 m2 m3
  go_wp2_with fail
  refine (less_any p q r' s' _).mono ?_; rintro e0 w10 ⟨rfl, b10⟩
  have q0 := old b10 n2; have q1 := old b10 n3; have q2 := old b10 p0; have q3 := old b10 p1
  have B10 := Lib.hid (B6.out.trans (b10.mono B6.out.size))
  clear b10
  by_cases t1 : lsB p q r' s' = true
  · rw [t1]
    go_wp2_with fail
    refine (less_any p' q' r s _).mono ?_; rintro e0 w11 ⟨rfl, b11⟩
    have B11 := Lib.hid (B10.out.trans (b11.mono B10.out.size))
    clear b11
    go_wp2_with fail
    go_ret
    exact ⟨by simp [t1], B11.out⟩
  · have t1' : lsB p q r' s' = false := by simpa using t1
    rw [t1']
    go_wp2_with fail
    go_ret
    exact ⟨by simp [t1'], B10.out⟩
end Go.Proofs.Ytfabfnjfnildhaa
