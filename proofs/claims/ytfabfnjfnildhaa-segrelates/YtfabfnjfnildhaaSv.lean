/- seg: the walk of SegRelates. -/
import Derived.Test.YtfabfnjfnildhaaSu
import Derived.Test.YtfabfnjfnildhaaSo
namespace Go.Proofs.Ytfabfnjfnildhaa
open Go.ChangeShapes Go.WideShapes Go.ChangeAt Go.RowKit Go.Joins Go.Deep
attribute [local go_sem ↓] Go.wp_at_zero Go.wp_at_succ

set_option maxRecDepth 100000 in
set_option maxHeartbeats 8000000 in
theorem segRelates_walk (vs vt : Value) (w : World) (hs : IsSg vs) (ht : IsSg vt) : Calls Try.prog 4 #[vs, vt] w fun e w' => e = .returned (.bool true) ∧ Below w.heap.size w w' := by
  obtain ⟨a, b, c, d, rfl, _, _, _, _⟩ := hs
  obtain ⟨e, f, g, h, rfl, _, _, _, _⟩ := ht
  obtain ⟨R, hR⟩ : ∃ R, relF a b c d e f g h = R := ⟨_, rfl⟩
  have C1 : Hid (∀ W : World, Calls Try.prog 25 #[sg a b c d, sg e f g h] W fun e' w' => e' = .returned (.int .i64 R) ∧ Below W.heap.size W w') := by rw [← hR]; exact fun W => relate_any a b c d e f g h W
  have C2 : Hid (∀ W : World, Calls Try.prog 26 #[sg a b c d, sg e f g h] W fun e' w' => e' = .returned (.int .i64 R) ∧ Below W.heap.size W w') := by rw [← hR]; exact fun W => relr_any a b c d e f g h W
  clear hR
  obtain ⟨W1, hW1⟩ : ∃ W1, w.alloc (Obj.cells #[.int .i64 a, .int .i64 b, .int .i64 c, .int .i64 d] 25) = W1 := ⟨_, rfl⟩
  obtain ⟨W2, hW2⟩ : ∃ W2, W1.alloc (Obj.cells #[.int .i64 e, .int .i64 f, .int .i64 g, .int .i64 h] 25) = W2 := ⟨_, rfl⟩
  have z1 : W1.heap.size = w.heap.size + 1 := by rw [← hW1, World.size_alloc]
  have g1 := G4.new w a b c d
  have g2 := G4.new W1 e f g h
  have b1 : Below w.heap.size w W1 := by rw [← hW1]; exact (Below.refl _ _).alloc (Nat.le_refl _) _
  have b2 : Below W1.heap.size W1 W2 := by rw [← hW2]; exact (Below.refl _ _).alloc (Nat.le_refl _) _
  rw [hW1] at g1; rw [hW2, z1] at g2
  have g1' := g1.below b2 g1.lt
  have HS := Lib.hid (show Below w.heap.size w W2 ∧ G4 W2 w.heap.size a b c d ∧ G4 W2 (w.heap.size + 1) e f g h ∧ W2.cell? ⟨w.heap.size, 0, none⟩ = some (.int .i64 a) ∧ W2.cell? ⟨w.heap.size, 1, none⟩ = some (.int .i64 b) ∧ W2.cell? ⟨w.heap.size, 2, none⟩ = some (.int .i64 c) ∧ W2.cell? ⟨w.heap.size, 3, none⟩ = some (.int .i64 d) ∧ W2.cell? ⟨w.heap.size + 1, 0, none⟩ = some (.int .i64 e) ∧ W2.cell? ⟨w.heap.size + 1, 1, none⟩ = some (.int .i64 f) ∧ W2.cell? ⟨w.heap.size + 1, 2, none⟩ = some (.int .i64 g) ∧ W2.cell? ⟨w.heap.size + 1, 3, none⟩ = some (.int .i64 h) from ⟨b1.trans (b2.mono (by omega)), g1', g2, g1'.c0, g1'.c1, g1'.c2, g1'.c3, g2.c0, g2.c1, g2.c2, g2.c3⟩)
  clear g1 g2 b1 b2 g1'
  go_enter Try.func4, Try.ntmps4
  go_wp2_with fail
  have S0 : Hid (∀ W, W = W2.drew → Below w.heap.size w W ∧ G4 W w.heap.size a b c d ∧ G4 W (w.heap.size + 1) e f g h ∧ W.cell? ⟨w.heap.size, 0, none⟩ = some (.int .i64 a) ∧ W.cell? ⟨w.heap.size, 1, none⟩ = some (.int .i64 b) ∧ W.cell? ⟨w.heap.size, 2, none⟩ = some (.int .i64 c) ∧ W.cell? ⟨w.heap.size, 3, none⟩ = some (.int .i64 d) ∧ W.cell? ⟨w.heap.size + 1, 0, none⟩ = some (.int .i64 e) ∧ W.cell? ⟨w.heap.size + 1, 1, none⟩ = some (.int .i64 f) ∧ W.cell? ⟨w.heap.size + 1, 2, none⟩ = some (.int .i64 g) ∧ W.cell? ⟨w.heap.size + 1, 3, none⟩ = some (.int .i64 h)) := by
    intro W e0; subst e0
    exact ⟨HS.out.1.drew, HS.out.2⟩
  refine wp_region_held_drew (S := fun w' => Below w.heap.size w w' ∧ G4 w' w.heap.size a b c d ∧ G4 w' (w.heap.size + 1) e f g h ∧ w'.cell? ⟨w.heap.size, 0, none⟩ = some (.int .i64 a) ∧ w'.cell? ⟨w.heap.size, 1, none⟩ = some (.int .i64 b) ∧ w'.cell? ⟨w.heap.size, 2, none⟩ = some (.int .i64 c) ∧ w'.cell? ⟨w.heap.size, 3, none⟩ = some (.int .i64 d) ∧ w'.cell? ⟨w.heap.size + 1, 0, none⟩ = some (.int .i64 e) ∧ w'.cell? ⟨w.heap.size + 1, 1, none⟩ = some (.int .i64 f) ∧ w'.cell? ⟨w.heap.size + 1, 2, none⟩ = some (.int .i64 g) ∧ w'.cell? ⟨w.heap.size + 1, 3, none⟩ = some (.int .i64 h)) (by kernel_rfl) (S0.out _ rfl) (fun hHeld => ?_)
  clear S0
  refine wpAnyH_take (i := 0) (v := ?_) rfl (by kernel_rfl) (by kernel_rfl) (by kernel_rfl) (fun _ _ _ h => h) (Or.inl ⟨by rfl, ?_⟩) (by assumption) ?_
  rotate_left 1
  · (intro w hSw; (try dsimp only at hSw); first | (go_simp; done) | (go_simp; with_reducible rfl))
  simp only [Act.put, List.getElem_toArray, List.getElem_cons_zero, List.setIfInBounds_toArray, List.set_cons_zero, List.set_cons_succ]
  refine wpAnyH_take (i := 1) (v := ?_) rfl (by kernel_rfl) (by kernel_rfl) (by kernel_rfl) (fun _ _ _ h => h) (Or.inl ⟨by rfl, ?_⟩) (by assumption) ?_
  rotate_left 1
  · (intro w hSw; (try dsimp only at hSw); first | (go_simp; done) | (go_simp; with_reducible rfl))
  simp only [Act.put, List.getElem_toArray, List.getElem_cons_zero, List.getElem_cons_succ, List.setIfInBounds_toArray, List.set_cons_zero, List.set_cons_succ]
  refine wpAnyH_take (i := 3) (v := ?_) rfl (by kernel_rfl) (by kernel_rfl) (by kernel_rfl) (fun _ _ _ h => h) (Or.inl ⟨by rfl, ?_⟩) (by assumption) ?_
  rotate_left 1
  · (intro w hSw; (try dsimp only at hSw); first | (go_simp; done) | (go_simp; with_reducible rfl))
  simp only [Act.put, List.getElem_toArray, List.getElem_cons_zero, List.getElem_cons_succ, List.setIfInBounds_toArray, List.set_cons_zero, List.set_cons_succ]
  refine wpAnyH_take (i := 4) (v := ?_) rfl (by kernel_rfl) (by kernel_rfl) (by kernel_rfl) (fun _ _ _ h => h) (Or.inl ⟨by rfl, ?_⟩) (by assumption) ?_
  rotate_left 1
  · (intro w hSw; (try dsimp only at hSw); first | (go_simp; done) | (go_simp; with_reducible rfl))
  simp only [Act.put, List.getElem_toArray, List.getElem_cons_zero, List.getElem_cons_succ, List.setIfInBounds_toArray, List.set_cons_zero, List.set_cons_succ]
  refine wpAnyH_ready (rs := [2]) (by kernel_rfl) (by simp) ?_
  refine AllReadyH.cons rfl (fun K hK => ?_) AllReadyH.nil
  have hS1 := Lib.hid hHeld
  go_simp
  go_wp2_with (go_at_call 25; (with_reducible refine (C1.out _).mono ?_); rintro en w8 ⟨rfl, b8⟩)
  have hS2 := Lib.hid (s4_keep b8 hS1.out)
  refine hK.out _ _ hS2.out (fun hHeld2 => ?_)
  clear hK K hHeld hS1 hS2 b8; have hHeld := hHeld2; clear hHeld2
  refine wpAnyH_ready (rs := [5]) (by kernel_rfl) (by simp) ?_
  refine AllReadyH.cons rfl (fun K hK => ?_) AllReadyH.nil
  have hS1 := Lib.hid hHeld
  go_simp
  go_wp2_with (go_at_call 26; (with_reducible refine (C2.out _).mono ?_); rintro en w8 ⟨rfl, b8⟩)
  have hS2 := Lib.hid (s4_keep b8 hS1.out)
  refine hK.out _ _ hS2.out (fun hHeld2 => ?_)
  clear hK K hHeld hS1 hS2 b8; have hHeld := hHeld2; clear hHeld2
  refine wpAnyH_take (i := 6) (v := ?_) rfl (by kernel_rfl) (by kernel_rfl) (by kernel_rfl) (fun _ _ _ h => h) (Or.inl ⟨by rfl, ?_⟩) (by assumption) ?_
  rotate_left 1
  · (intro w hSw; (try dsimp only at hSw); first | (go_simp; done) | (go_simp; with_reducible rfl))
  simp only [Act.put, List.getElem_toArray, List.getElem_cons_zero, List.getElem_cons_succ, List.setIfInBounds_toArray, List.set_cons_zero, List.set_cons_succ]
  refine wpAnyH_take (i := 7) (v := ?_) rfl (by kernel_rfl) (by kernel_rfl) (by kernel_rfl) (fun _ _ _ h => h) (Or.inl ⟨by rfl, ?_⟩) (by assumption) ?_
  rotate_left 1
  · (intro w hSw; (try dsimp only at hSw); first | (go_simp; done) | (go_simp; with_reducible rfl))
  simp only [Act.put, List.getElem_toArray, List.getElem_cons_zero, List.getElem_cons_succ, List.setIfInBounds_toArray, List.set_cons_zero, List.set_cons_succ]
  refine wpAnyH_ready (rs := [8]) (by kernel_rfl) (by simp) ?_
  refine AllReadyH.cons rfl (fun K hK => ?_) AllReadyH.nil
  have hS1 := Lib.hid hHeld
  go_simp
  go_wp2_with (go_at_call 24; (with_reducible refine (lives_any _).mono ?_); rintro en w8 ⟨rfl, b8⟩)
  have hS2 := Lib.hid (s4_keep b8 hS1.out)
  refine hK.out _ _ hS2.out (fun hHeld2 => ?_)
  clear hK K hHeld hS1 hS2 b8; have hHeld := hHeld2; clear hHeld2
  refine wpAnyH_take (i := 9) (v := ?_) rfl (by kernel_rfl) (by kernel_rfl) (by kernel_rfl) (fun _ _ _ h => h) (Or.inl ⟨by rfl, ?_⟩) (by assumption) ?_
  rotate_left 1
  · (intro w hSw; (try dsimp only at hSw); first | (go_simp; done) | (go_simp; with_reducible rfl))
  simp only [Act.put, List.getElem_toArray, List.getElem_cons_zero, List.getElem_cons_succ, List.setIfInBounds_toArray, List.set_cons_zero, List.set_cons_succ]
  refine wpAnyH_take (i := 10) (v := ?_) rfl (by kernel_rfl) (by kernel_rfl) (by kernel_rfl) (fun _ _ _ h => h) (Or.inl ⟨by rfl, ?_⟩) (by assumption) ?_
  rotate_left 1
  · (intro w hSw; (try dsimp only at hSw); first | (go_simp; done) | (go_simp; with_reducible rfl))
  simp only [Act.put, List.getElem_toArray, List.getElem_cons_zero, List.getElem_cons_succ, List.setIfInBounds_toArray, List.set_cons_zero, List.set_cons_succ]
  refine wpAnyH_done (by kernel_rfl) ?_ _
  have b9 := hHeld.1
  clear hHeld HS
  go_wp2_with fail
  go_ret
  exact ⟨rfl, b9⟩
end Go.Proofs.Ytfabfnjfnildhaa
