/- graph: GraphChecks. -/
import Derived.Test.YthfecllgkldgfaaGl
import Derived.ChangeSame
import Derived.Deep.Slices
import Derived.Deep.SlicePairs
namespace Go.Proofs.Ythfecllgkldgfaa
open Go.ChangeShapes Go.WideShapes Go.ChangeAt Go.RowKit Go.Joins Go.Deep

theorem same_t {w : World} {N : Int} {v u : Value} {l : List (Int × Int)} (hv : ArcsAt w v l) (hu : ArcsAt w u l) (hl : l.length ≤ 4194304) : Calls Try.prog 34 #[gv N v, gv N u] w fun e w' => e = .returned (.bool true) ∧ Below w.heap.size w w' := by
  have h := same_any (N := N) (M := N) hv hu hl
  have e : sameA N N l l = true := by unfold sameA; simp
  rw [e] at h
  exact h
theorem arcs_nil (w : World) : ArcsAt w nilV [] := ⟨none, 0, rfl, fun _ => ⟨rfl, rfl⟩, Or.inl rfl⟩
theorem s_keep3 {W1 W W' : World} {B0 : Nat} {u v : Value} (hb : B0 < W1.heap.size) (b : Below W.heap.size W W') (h : Below W1.heap.size W1 W ∧ W.cell? ⟨B0, 0, none⟩ = some u ∧ W.cell? ⟨B0, 1, none⟩ = some v) : Below W1.heap.size W1 W' ∧ W'.cell? ⟨B0, 0, none⟩ = some u ∧ W'.cell? ⟨B0, 1, none⟩ = some v :=
  ⟨h.1.trans (b.mono h.1.size), by rw [b.cell (by have := h.1.size; show B0 < _; omega)]; exact h.2.1, by rw [b.cell (by have := h.1.size; show B0 < _; omega)]; exact h.2.2⟩
set_option maxRecDepth 100000 in
set_option maxHeartbeats 8000000 in
theorem graphChecks_few {w : World} {N : Int} {v : Value} {ars : List (Int × Int)} (h : ArcsAt w v ars) (hf : fewB N ars.length = true) : Calls Try.prog 8 #[gv N v] w fun e w' => e = .returned (.bool true) ∧ Below w.heap.size w w' := by
  have hl : ars.length ≤ 60 := by unfold fewB at hf; simp at hf; omega
  have A0 := h
  obtain ⟨a, cap, rfl, _⟩ := h
  obtain ⟨W1, hW1⟩ : ∃ W1, w.alloc (.cells #[.int .i64 N, .slice a ars.length cap] 33) = W1 := ⟨_, rfl⟩
  obtain ⟨B0, hB0⟩ : ∃ B0, w.heap.size = B0 := ⟨_, rfl⟩
  have r1 : Row W1 B0 33 [.int .i64 N, .slice a ars.length cap] := by rw [← hW1, ← hB0]; exact Row.new _ _ _
  have b1 : Below w.heap.size w W1 := by rw [← hW1]; exact below_al _ _
  have CK := Lib.hid (fun W (b : Below W1.heap.size W1 W) => check_any (N := N) ((A0.below b1).below b))
  have CR := Lib.hid (fun W (b : Below W1.heap.size W1 W) => checkr_any (N := N) ((A0.below b1).below b))
  have FW := few37_any N ars.length cap a
  rw [hf] at FW
  have FF := Lib.hid FW
  by_cases hc : chk N ars = 0
  · have RV := Lib.hid (fun W (b : Below W1.heap.size W1 W) => rev_any (N := N) ((A0.below b1).below b) hc (by omega))
    have RW := Lib.hid (fun W (b : Below W1.heap.size W1 W) => revr_any (N := N) ((A0.below b1).below b) hc (by omega))
    obtain ⟨n, hn⟩ : ∃ n, ars.length = n := ⟨_, rfl⟩
    rw [hn] at hW1 r1 CK CR FF RV RW ⊢
    rw [hc] at CK CR
    have HN := Lib.hid hn; have HL := Lib.hid hl
    have BB := Lib.hid b1; have R1 := Lib.hid r1
    have q0 := r1.cell (i := 0) rfl; have q1 := r1.cell (i := 1) rfl
    clear A0 b1 r1 FW hn hl hc hf
    go_enter Try.func8, Try.ntmps8
    go_wp2_with fail
    refine (FF.out _).mono ?_; rintro e w3 ⟨rfl, b⟩
    have B3 := Lib.hid b
    have r3 := R1.out.below b R1.out.lt
    clear b q0 q1 hW1
    have q0 := r3.cell (i := 0) rfl; have q1 := r3.cell (i := 1) rfl
    clear r3
    go_wp2_with fail
    have S0 : Hid (∀ W, W = w3.drew → Below W1.heap.size W1 W ∧ W.cell? ⟨B0, 0, none⟩ = some (.int .i64 N) ∧ W.cell? ⟨B0, 1, none⟩ = some (.slice a n cap)) := by
      intro W e0; subst e0
      exact ⟨B3.out.drew, q0, q1⟩
    refine wp_region_held_drew (S := fun W => Below W1.heap.size W1 W ∧ W.cell? ⟨B0, 0, none⟩ = some (.int .i64 N) ∧ W.cell? ⟨B0, 1, none⟩ = some (.slice a n cap)) (by kernel_rfl) (S0.out _ rfl) (fun hHeld => ?_)
    clear S0
    refine wpAnyH_take (i := 0) (v := ?_) rfl (by kernel_rfl) (by kernel_rfl) (by kernel_rfl) (fun _ _ _ h => h) (Or.inl ⟨by rfl, ?_⟩) (by assumption) ?_
    rotate_left 1
    · (intro w hSw; (try dsimp only at hSw); first | (go_simp; done) | (go_simp; with_reducible rfl))
    simp only [Act.put, List.getElem_toArray, List.getElem_cons_zero, List.setIfInBounds_toArray, List.set_cons_zero, List.set_cons_succ]
    refine wpAnyH_take (i := 2) (v := ?_) rfl (by kernel_rfl) (by kernel_rfl) (by kernel_rfl) (fun _ _ _ h => h) (Or.inl ⟨by rfl, ?_⟩) (by assumption) ?_
    rotate_left 1
    · (intro w hSw; (try dsimp only at hSw); first | (go_simp; done) | (go_simp; with_reducible rfl))
    simp only [Act.put, List.getElem_toArray, List.getElem_cons_zero, List.getElem_cons_succ, List.setIfInBounds_toArray, List.set_cons_zero, List.set_cons_succ]
    refine wpAnyH_ready (rs := [1]) (by kernel_rfl) (by simp) ?_
    refine AllReadyH.cons rfl (fun K hK => ?_) AllReadyH.nil
    have hS1 := Lib.hid hHeld
    go_simp
    go_wp2_with (go_at_call 32; (with_reducible refine (CK.out _ hS1.out.1).mono ?_); rintro en w4 ⟨rfl, b4⟩)
    refine hK.out _ _ (s_keep3 R1.out.lt b4 hS1.out) (fun hHeld2 => ?_)
    clear b4
    clear hK K hHeld hS1; have hHeld := hHeld2; clear hHeld2
    refine wpAnyH_ready (rs := [3]) (by kernel_rfl) (by simp) ?_
    refine AllReadyH.cons rfl (fun K hK => ?_) AllReadyH.nil
    have hS1 := Lib.hid hHeld
    go_simp
    go_wp2_with (go_at_call 33; (with_reducible refine (CR.out _ hS1.out.1).mono ?_); rintro en w5 ⟨rfl, b5⟩)
    refine hK.out _ _ (s_keep3 R1.out.lt b5 hS1.out) (fun hHeld2 => ?_)
    clear b5
    clear hK K hHeld hS1; have hHeld := hHeld2; clear hHeld2
    refine wpAnyH_take (i := 4) (v := ?_) rfl (by kernel_rfl) (by kernel_rfl) (by kernel_rfl) (fun _ _ _ h => h) (Or.inl ⟨by rfl, ?_⟩) (by assumption) ?_
    rotate_left 1
    · (intro w hSw; (try dsimp only at hSw); first | (go_simp; done) | (go_simp; with_reducible rfl))
    simp only [Act.put, List.getElem_toArray, List.getElem_cons_zero, List.getElem_cons_succ, List.setIfInBounds_toArray, List.set_cons_zero, List.set_cons_succ]
    refine wpAnyH_take (i := 5) (v := ?_) rfl (by kernel_rfl) (by kernel_rfl) (by kernel_rfl) (fun _ _ _ h => h) (Or.inl ⟨by rfl, ?_⟩) (by assumption) ?_
    rotate_left 1
    · (intro w hSw; (try dsimp only at hSw); first | (go_simp; done) | (go_simp; with_reducible rfl))
    simp only [Act.put, List.getElem_toArray, List.getElem_cons_zero, List.getElem_cons_succ, List.setIfInBounds_toArray, List.set_cons_zero, List.set_cons_succ]
    refine wpAnyH_take (i := 6) (v := ?_) rfl (by kernel_rfl) (by kernel_rfl) (by kernel_rfl) (fun _ _ _ h => h) (Or.inl ⟨by rfl, ?_⟩) (by assumption) ?_
    rotate_left 1
    · (intro w hSw; (try dsimp only at hSw); first | (go_simp; done) | (go_simp; with_reducible rfl))
    simp only [Act.put, List.getElem_toArray, List.getElem_cons_zero, List.getElem_cons_succ, List.setIfInBounds_toArray, List.set_cons_zero, List.set_cons_succ]
    refine wpAnyH_take (i := 8) (v := ?_) rfl (by kernel_rfl) (by kernel_rfl) (by kernel_rfl) (fun _ _ _ h => h) (Or.inl ⟨by rfl, ?_⟩) (by assumption) ?_
    rotate_left 1
    · (intro w hSw; (try dsimp only at hSw); first | (go_simp; done) | (go_simp; with_reducible rfl))
    simp only [Act.put, List.getElem_toArray, List.getElem_cons_zero, List.getElem_cons_succ, List.setIfInBounds_toArray, List.set_cons_zero, List.set_cons_succ]
    refine wpAnyH_ready (rs := [7]) (by kernel_rfl) (by simp) ?_
    refine AllReadyH.cons rfl (fun K hK => ?_) AllReadyH.nil
    have hS1 := Lib.hid hHeld
    go_simp
    go_wp2_with (go_at_call 35; (with_reducible refine (RV.out _ hS1.out.1).mono ?_); rintro en w6 ⟨u1, rfl, a6, b6⟩)
    have A6 := Lib.hid a6
    clear a6
    obtain ⟨au1, cu1, hu1⟩ : ∃ au1 cu1, u1 = .slice au1 n cu1 := by obtain ⟨x, y, h, _⟩ := A6.out; rw [List.length_map, HN.out] at h; exact ⟨x, y, h⟩
    subst hu1
    refine hK.out _ _ (s_keep3 R1.out.lt b6 hS1.out) (fun hHeld2 => ?_)
    clear b6
    clear hK K hHeld hS1; have hHeld := hHeld2; clear hHeld2
    refine wpAnyH_ready (rs := [9]) (by kernel_rfl) (by simp) ?_
    refine AllReadyH.cons rfl (fun K hK => ?_) AllReadyH.nil
    have hS1 := Lib.hid hHeld
    go_simp
    go_wp2_with (go_at_call 36; (with_reducible refine (RW.out _ hS1.out.1).mono ?_); rintro en w7 ⟨u2, rfl, a7, b7⟩)
    have A7 := Lib.hid a7
    have A6b := Lib.hid (A6.out.below b7)
    clear a7
    obtain ⟨au2, cu2, hu2⟩ : ∃ au2 cu2, u2 = .slice au2 n cu2 := by obtain ⟨x, y, h, _⟩ := A7.out; rw [List.length_map, HN.out] at h; exact ⟨x, y, h⟩
    subst hu2
    refine hK.out _ _ (s_keep3 R1.out.lt b7 hS1.out) (fun hHeld2 => ?_)
    clear b7
    clear hK K hHeld hS1; have hHeld := hHeld2; clear hHeld2
    refine wpAnyH_ready (rs := [10]) (by kernel_rfl) (by simp) ?_
    refine AllReadyH.cons rfl (fun K hK => ?_) AllReadyH.nil
    have hS1 := Lib.hid hHeld
    go_simp
    go_wp2_with (go_at_call 34; (with_reducible refine (same_t A6b.out A7.out (by rw [List.length_map]; have := HL.out; omega)).mono ?_); rintro en w8 ⟨rfl, b8⟩)
    refine hK.out _ _ (s_keep3 R1.out.lt b8 hS1.out) (fun hHeld2 => ?_)
    clear b8
    clear hK K hHeld hS1; have hHeld := hHeld2; clear hHeld2
    refine wpAnyH_take (i := 11) (v := ?_) rfl (by kernel_rfl) (by kernel_rfl) (by kernel_rfl) (fun _ _ _ h => h) (Or.inl ⟨by rfl, ?_⟩) (by assumption) ?_
    rotate_left 1
    · (intro w hSw; (try dsimp only at hSw); first | (go_simp; done) | (go_simp; with_reducible rfl))
    simp only [Act.put, List.getElem_toArray, List.getElem_cons_zero, List.getElem_cons_succ, List.setIfInBounds_toArray, List.set_cons_zero, List.set_cons_succ]
    refine wpAnyH_take (i := 12) (v := ?_) rfl (by kernel_rfl) (by kernel_rfl) (by kernel_rfl) (fun _ _ _ h => h) (Or.inl ⟨by rfl, ?_⟩) (by assumption) ?_
    rotate_left 1
    · (intro w hSw; (try dsimp only at hSw); first | (go_simp; done) | (go_simp; with_reducible rfl))
    simp only [Act.put, List.getElem_toArray, List.getElem_cons_zero, List.getElem_cons_succ, List.setIfInBounds_toArray, List.set_cons_zero, List.set_cons_succ]
    refine wpAnyH_ready (rs := [13]) (by kernel_rfl) (by simp) ?_
    refine AllReadyH.cons rfl (fun K hK => ?_) AllReadyH.nil
    have hS1 := Lib.hid hHeld
    go_simp
    go_wp2_with (go_at_call 31; (with_reducible refine (lives37_any _).mono ?_); rintro en w9 ⟨rfl, b9⟩)
    refine hK.out _ _ (s_keep3 R1.out.lt b9 hS1.out) (fun hHeld2 => ?_)
    clear b9
    clear hK K hHeld hS1; have hHeld := hHeld2; clear hHeld2
    refine wpAnyH_take (i := 14) (v := ?_) rfl (by kernel_rfl) (by kernel_rfl) (by kernel_rfl) (fun _ _ _ h => h) (Or.inl ⟨by rfl, ?_⟩) (by assumption) ?_
    rotate_left 1
    · (intro w hSw; (try dsimp only at hSw); first | (go_simp; done) | (go_simp; with_reducible rfl))
    simp only [Act.put, List.getElem_toArray, List.getElem_cons_zero, List.getElem_cons_succ, List.setIfInBounds_toArray, List.set_cons_zero, List.set_cons_succ]
    refine wpAnyH_take (i := 15) (v := ?_) rfl (by kernel_rfl) (by kernel_rfl) (by kernel_rfl) (fun _ _ _ h => h) (Or.inl ⟨by rfl, ?_⟩) (by assumption) ?_
    rotate_left 1
    · (intro w hSw; (try dsimp only at hSw); first | (go_simp; done) | (go_simp; with_reducible rfl))
    simp only [Act.put, List.getElem_toArray, List.getElem_cons_zero, List.getElem_cons_succ, List.setIfInBounds_toArray, List.set_cons_zero, List.set_cons_succ]
    have FB := Lib.hid (BB.out.trans (hHeld.1.mono BB.out.size))
    refine wpAnyH_done (by kernel_rfl) ?_ _
    clear hHeld
    go_wp2_with fail
    go_ret
    exact ⟨rfl, FB.out⟩
  · have RV := Lib.hid (fun W (b : Below W1.heap.size W1 W) => rev_bad (N := N) ((A0.below b1).below b) hc)
    have RW := Lib.hid (fun W (b : Below W1.heap.size W1 W) => revr_bad (N := N) ((A0.below b1).below b) hc)
    obtain ⟨n, hn⟩ : ∃ n, ars.length = n := ⟨_, rfl⟩
    obtain ⟨c, hcc⟩ : ∃ c, chk N ars = c := ⟨_, rfl⟩
    rw [hn] at hW1 r1 CK CR FF RV RW ⊢
    rw [hcc] at CK CR
    have BB := Lib.hid b1; have R1 := Lib.hid r1
    have q0 := r1.cell (i := 0) rfl; have q1 := r1.cell (i := 1) rfl
    clear A0 b1 r1 FW hn hl hc hf hcc
    go_enter Try.func8, Try.ntmps8
    go_wp2_with fail
    refine (FF.out _).mono ?_; rintro e w3 ⟨rfl, b⟩
    have B3 := Lib.hid b
    have r3 := R1.out.below b R1.out.lt
    clear b q0 q1 hW1
    have q0 := r3.cell (i := 0) rfl; have q1 := r3.cell (i := 1) rfl
    clear r3
    go_wp2_with fail
    have S0 : Hid (∀ W, W = w3.drew → Below W1.heap.size W1 W ∧ W.cell? ⟨B0, 0, none⟩ = some (.int .i64 N) ∧ W.cell? ⟨B0, 1, none⟩ = some (.slice a n cap)) := by
      intro W e0; subst e0
      exact ⟨B3.out.drew, q0, q1⟩
    refine wp_region_held_drew (S := fun W => Below W1.heap.size W1 W ∧ W.cell? ⟨B0, 0, none⟩ = some (.int .i64 N) ∧ W.cell? ⟨B0, 1, none⟩ = some (.slice a n cap)) (by kernel_rfl) (S0.out _ rfl) (fun hHeld => ?_)
    clear S0
    refine wpAnyH_take (i := 0) (v := ?_) rfl (by kernel_rfl) (by kernel_rfl) (by kernel_rfl) (fun _ _ _ h => h) (Or.inl ⟨by rfl, ?_⟩) (by assumption) ?_
    rotate_left 1
    · (intro w hSw; (try dsimp only at hSw); first | (go_simp; done) | (go_simp; with_reducible rfl))
    simp only [Act.put, List.getElem_toArray, List.getElem_cons_zero, List.setIfInBounds_toArray, List.set_cons_zero, List.set_cons_succ]
    refine wpAnyH_take (i := 2) (v := ?_) rfl (by kernel_rfl) (by kernel_rfl) (by kernel_rfl) (fun _ _ _ h => h) (Or.inl ⟨by rfl, ?_⟩) (by assumption) ?_
    rotate_left 1
    · (intro w hSw; (try dsimp only at hSw); first | (go_simp; done) | (go_simp; with_reducible rfl))
    simp only [Act.put, List.getElem_toArray, List.getElem_cons_zero, List.getElem_cons_succ, List.setIfInBounds_toArray, List.set_cons_zero, List.set_cons_succ]
    refine wpAnyH_ready (rs := [1]) (by kernel_rfl) (by simp) ?_
    refine AllReadyH.cons rfl (fun K hK => ?_) AllReadyH.nil
    have hS1 := Lib.hid hHeld
    go_simp
    go_wp2_with (go_at_call 32; (with_reducible refine (CK.out _ hS1.out.1).mono ?_); rintro en w4 ⟨rfl, b4⟩)
    refine hK.out _ _ (s_keep3 R1.out.lt b4 hS1.out) (fun hHeld2 => ?_)
    clear b4
    clear hK K hHeld hS1; have hHeld := hHeld2; clear hHeld2
    refine wpAnyH_ready (rs := [3]) (by kernel_rfl) (by simp) ?_
    refine AllReadyH.cons rfl (fun K hK => ?_) AllReadyH.nil
    have hS1 := Lib.hid hHeld
    go_simp
    go_wp2_with (go_at_call 33; (with_reducible refine (CR.out _ hS1.out.1).mono ?_); rintro en w5 ⟨rfl, b5⟩)
    refine hK.out _ _ (s_keep3 R1.out.lt b5 hS1.out) (fun hHeld2 => ?_)
    clear b5
    clear hK K hHeld hS1; have hHeld := hHeld2; clear hHeld2
    refine wpAnyH_take (i := 4) (v := ?_) rfl (by kernel_rfl) (by kernel_rfl) (by kernel_rfl) (fun _ _ _ h => h) (Or.inl ⟨by rfl, ?_⟩) (by assumption) ?_
    rotate_left 1
    · (intro w hSw; (try dsimp only at hSw); first | (go_simp; done) | (go_simp; with_reducible rfl))
    simp only [Act.put, List.getElem_toArray, List.getElem_cons_zero, List.getElem_cons_succ, List.setIfInBounds_toArray, List.set_cons_zero, List.set_cons_succ]
    refine wpAnyH_take (i := 5) (v := ?_) rfl (by kernel_rfl) (by kernel_rfl) (by kernel_rfl) (fun _ _ _ h => h) (Or.inl ⟨by rfl, ?_⟩) (by assumption) ?_
    rotate_left 1
    · (intro w hSw; (try dsimp only at hSw); first | (go_simp; done) | (go_simp; with_reducible rfl))
    simp only [Act.put, List.getElem_toArray, List.getElem_cons_zero, List.getElem_cons_succ, List.setIfInBounds_toArray, List.set_cons_zero, List.set_cons_succ]
    refine wpAnyH_take (i := 6) (v := ?_) rfl (by kernel_rfl) (by kernel_rfl) (by kernel_rfl) (fun _ _ _ h => h) (Or.inl ⟨by rfl, ?_⟩) (by assumption) ?_
    rotate_left 1
    · (intro w hSw; (try dsimp only at hSw); first | (go_simp; done) | (go_simp; with_reducible rfl))
    simp only [Act.put, List.getElem_toArray, List.getElem_cons_zero, List.getElem_cons_succ, List.setIfInBounds_toArray, List.set_cons_zero, List.set_cons_succ]
    refine wpAnyH_take (i := 8) (v := ?_) rfl (by kernel_rfl) (by kernel_rfl) (by kernel_rfl) (fun _ _ _ h => h) (Or.inl ⟨by rfl, ?_⟩) (by assumption) ?_
    rotate_left 1
    · (intro w hSw; (try dsimp only at hSw); first | (go_simp; done) | (go_simp; with_reducible rfl))
    simp only [Act.put, List.getElem_toArray, List.getElem_cons_zero, List.getElem_cons_succ, List.setIfInBounds_toArray, List.set_cons_zero, List.set_cons_succ]
    refine wpAnyH_ready (rs := [7]) (by kernel_rfl) (by simp) ?_
    refine AllReadyH.cons rfl (fun K hK => ?_) AllReadyH.nil
    have hS1 := Lib.hid hHeld
    go_simp
    go_wp2_with (go_at_call 35; (with_reducible refine (RV.out _ hS1.out.1).mono ?_); rintro en w6 ⟨rfl, b6⟩)
    refine hK.out _ _ (s_keep3 R1.out.lt b6 hS1.out) (fun hHeld2 => ?_)
    clear b6
    clear hK K hHeld hS1; have hHeld := hHeld2; clear hHeld2
    refine wpAnyH_ready (rs := [9]) (by kernel_rfl) (by simp) ?_
    refine AllReadyH.cons rfl (fun K hK => ?_) AllReadyH.nil
    have hS1 := Lib.hid hHeld
    go_simp
    go_wp2_with (go_at_call 36; (with_reducible refine (RW.out _ hS1.out.1).mono ?_); rintro en w7 ⟨rfl, b7⟩)
    refine hK.out _ _ (s_keep3 R1.out.lt b7 hS1.out) (fun hHeld2 => ?_)
    clear b7
    clear hK K hHeld hS1; have hHeld := hHeld2; clear hHeld2
    refine wpAnyH_ready (rs := [10]) (by kernel_rfl) (by simp) ?_
    refine AllReadyH.cons rfl (fun K hK => ?_) AllReadyH.nil
    have hS1 := Lib.hid hHeld
    go_simp
    go_wp2_with (go_at_call 34; (with_reducible refine (same_t (N := 0) (arcs_nil _) (arcs_nil _) (by simp)).mono ?_); rintro en w8 ⟨rfl, b8⟩)
    refine hK.out _ _ (s_keep3 R1.out.lt b8 hS1.out) (fun hHeld2 => ?_)
    clear b8
    clear hK K hHeld hS1; have hHeld := hHeld2; clear hHeld2
    refine wpAnyH_take (i := 11) (v := ?_) rfl (by kernel_rfl) (by kernel_rfl) (by kernel_rfl) (fun _ _ _ h => h) (Or.inl ⟨by rfl, ?_⟩) (by assumption) ?_
    rotate_left 1
    · (intro w hSw; (try dsimp only at hSw); first | (go_simp; done) | (go_simp; with_reducible rfl))
    simp only [Act.put, List.getElem_toArray, List.getElem_cons_zero, List.getElem_cons_succ, List.setIfInBounds_toArray, List.set_cons_zero, List.set_cons_succ]
    refine wpAnyH_take (i := 12) (v := ?_) rfl (by kernel_rfl) (by kernel_rfl) (by kernel_rfl) (fun _ _ _ h => h) (Or.inl ⟨by rfl, ?_⟩) (by assumption) ?_
    rotate_left 1
    · (intro w hSw; (try dsimp only at hSw); first | (go_simp; done) | (go_simp; with_reducible rfl))
    simp only [Act.put, List.getElem_toArray, List.getElem_cons_zero, List.getElem_cons_succ, List.setIfInBounds_toArray, List.set_cons_zero, List.set_cons_succ]
    refine wpAnyH_ready (rs := [13]) (by kernel_rfl) (by simp) ?_
    refine AllReadyH.cons rfl (fun K hK => ?_) AllReadyH.nil
    have hS1 := Lib.hid hHeld
    go_simp
    go_wp2_with (go_at_call 31; (with_reducible refine (lives37_any _).mono ?_); rintro en w9 ⟨rfl, b9⟩)
    refine hK.out _ _ (s_keep3 R1.out.lt b9 hS1.out) (fun hHeld2 => ?_)
    clear b9
    clear hK K hHeld hS1; have hHeld := hHeld2; clear hHeld2
    refine wpAnyH_take (i := 14) (v := ?_) rfl (by kernel_rfl) (by kernel_rfl) (by kernel_rfl) (fun _ _ _ h => h) (Or.inl ⟨by rfl, ?_⟩) (by assumption) ?_
    rotate_left 1
    · (intro w hSw; (try dsimp only at hSw); first | (go_simp; done) | (go_simp; with_reducible rfl))
    simp only [Act.put, List.getElem_toArray, List.getElem_cons_zero, List.getElem_cons_succ, List.setIfInBounds_toArray, List.set_cons_zero, List.set_cons_succ]
    refine wpAnyH_take (i := 15) (v := ?_) rfl (by kernel_rfl) (by kernel_rfl) (by kernel_rfl) (fun _ _ _ h => h) (Or.inl ⟨by rfl, ?_⟩) (by assumption) ?_
    rotate_left 1
    · (intro w hSw; (try dsimp only at hSw); first | (go_simp; done) | (go_simp; with_reducible rfl))
    simp only [Act.put, List.getElem_toArray, List.getElem_cons_zero, List.getElem_cons_succ, List.setIfInBounds_toArray, List.set_cons_zero, List.set_cons_succ]
    have FB := Lib.hid (BB.out.trans (hHeld.1.mono BB.out.size))
    refine wpAnyH_done (by kernel_rfl) ?_ _
    clear hHeld
    go_wp2_with fail
    go_ret
    exact ⟨rfl, FB.out⟩
theorem graphChecks_many {w : World} {N : Int} {a : Option Addr} {n cap : Nat} (hf : fewB N n = false) : Calls Try.prog 8 #[gv N (.slice a n cap)] w fun e w' => e = .returned (.bool true) ∧ Below w.heap.size w w' := by
  obtain ⟨W1, hW1⟩ : ∃ W1, w.alloc (.cells #[.int .i64 N, .slice a n cap] 33) = W1 := ⟨_, rfl⟩
  have r1 : Row W1 w.heap.size 33 [.int .i64 N, .slice a n cap] := by rw [← hW1]; exact Row.new _ _ _
  have b1 : Below w.heap.size w W1 := by rw [← hW1]; exact below_al _ _
  have FW := few37_any N n cap a
  rw [hf] at FW
  have FF := Lib.hid FW; have BB := Lib.hid b1
  have q0 := r1.cell (i := 0) rfl; have q1 := r1.cell (i := 1) rfl
  clear FW b1 r1 hf
  go_enter Try.func8, Try.ntmps8
  go_wp2_with fail
  refine (FF.out _).mono ?_; rintro e w3 ⟨rfl, b⟩
  have B3 := Lib.hid (BB.out.trans (b.mono BB.out.size))
  clear b
  go_wp2_with fail
  refine (lives37_any _).mono ?_; rintro e w4 ⟨rfl, b⟩
  have B4 := Lib.hid (B3.out.trans (b.mono B3.out.size))
  clear b
  go_wp2_with fail
  go_ret
  exact ⟨rfl, B4.out⟩
theorem gc3 : Try.prog.cellsOf 3 = 1 := by kernel_rfl
theorem gc31 : Try.prog.cellsOf 31 = 1 := by kernel_rfl
theorem gc33 : Try.prog.cellsOf 33 = 2 := by kernel_rfl
theorem gc45 : Try.prog.cellsOf 45 = 2 := by kernel_rfl
def IsG (w : World) (v : Value) : Prop := ∃ N u ars, v = gv N u ∧ ArcsAt w u ars
theorem array2 {α : Type} {cs : Array α} (h : cs.size = 2) : ∃ a b, cs = #[a, b] := by
  obtain ⟨l⟩ := cs
  match l, h with
  | [a, b], _ => exact ⟨a, b, rfl⟩
theorem graph_open {H : Type} {enc : TypeId × Value → H} {W : World} {base b0 : Nat} {spare : Nat → Bool} {held : Bool} {r : Reach} {v : Value} {d : DataW H} {p : List MemPlace}
    (hv : Value.okWide Try.prog W r b0 33 v) (h : DataW.Trod enc Try.prog W base spare held 33 v d p) : IsG W v := by
  obtain ⟨cs, rfl, hsz⟩ := okWide_struct Try.underlying33 hv
  obtain ⟨c0, c1, rfl⟩ := array2 (hsz.trans gc33)
  obtain ⟨fuel, hf⟩ := h
  obtain ⟨y0, y1, n, _, _, h0, h1⟩ := trod_struct2 Try.underlying33 hf
  rw [gc3] at h0
  rw [gc31] at h1
  obtain ⟨x0, e0, _, k0⟩ := DataW.trod_int Try.underlying3 h0
  simp [Value.cells] at e0
  subst e0
  rcases Deep.open_slice Try.underlying31 h1 with ⟨hcs, _⟩ | ⟨a, len, cap, m, n', D, Pl, hcs, _, hl, hm, hmm, _, hi⟩
  · simp [Value.cells] at hcs
    subst hcs
    exact ⟨x0, _, [], rfl, arcs_nil W⟩
  · simp [Value.cells] at hcs
    subst hcs
    have hlm : len ≤ m := by rw [hmm]; split <;> omega
    have key : ∀ j, j < len → ∃ z : Int × Int, W.cell? (a.add (j * 2)) = some (.int .i64 z.1) ∧ W.cell? (a.add (j * 2 + 1)) = some (.int .i64 z.2) := by
      intro j hj
      obtain ⟨cs', hc, ht⟩ := hi j (by omega)
      rw [gc45] at hc
      obtain ⟨_, hcl, hat⟩ := World.cells?_some hc
      obtain ⟨z0, z1, n2, _, _, t0, t1⟩ := trod_struct2 Try.underlying45 ht
      obtain ⟨x, ex, _, wx⟩ := DataW.trod_int Try.underlying3 t0
      obtain ⟨y, ey, _, wy⟩ := DataW.trod_int Try.underlying3 t1
      rw [gc3] at ex ey
      match cs', hcl with
      | [q0, q1], _ =>
        simp at ex ey
        subst ex ey
        refine ⟨(x, y), ?_, ?_⟩
        · have := hat 0 (by omega); simpa [Addr.add] using this
        · have := hat 1 (by omega); rw [Deep.add_add] at this; simpa using this
    obtain ⟨g, hg⟩ := choose_lt key
    refine ⟨x0, _, (List.range len).map g, rfl, some a, cap, by simp, fun e => (by cases e), ?_⟩
    by_cases hz : len = 0
    · left; subst hz; rfl
    · right
      obtain ⟨b, off, spot⟩ := a
      have c0 := (hg 0 (by omega)).1
      have hspot : spot = none := by simpa [Addr.add] using World.cell?_spot c0
      subst hspot
      refine ⟨b, off, rfl, ?_, fun i hi' => ?_⟩
      · rw [Addr.add_lit] at c0; exact cell_lt c0
      · have hi2 : i < len := by simpa using hi'
        obtain ⟨h1, h2⟩ := hg i hi2
        rw [Addr.add_lit] at h1 h2
        rw [h1]
        have e3 : ((List.range len).map g).getD i (0, 0) = g i := by simp [List.getD, hi2]
        rw [e3]
        exact ⟨rfl, h2⟩
abbrev graphChecks_zero0 : Value := gv 0 nilV
theorem graphChecks_open0 {H : Type} {enc : TypeId × Value → H} {W : World} {base b0 : Nat} {spare : Nat → Bool} {held : Bool} {r : Reach} {v : Value} {d : DataW H} {p : List MemPlace}
    (hv : Value.okWide Try.prog W r b0 33 v) (h : DataW.Trod enc Try.prog W base spare held 33 v d p) : IsG W v := graph_open hv h
theorem graphChecks_walk (v : Value) (w : World) (h : IsG w v) : Calls Try.prog 8 #[v] w fun e w' => e = .returned (.bool true) ∧ Below w.heap.size w w' := by
  obtain ⟨N, u, ars, rfl, ha⟩ := h
  by_cases hf : fewB N ars.length = true
  · exact graphChecks_few ha hf
  · obtain ⟨a, cap, rfl, _⟩ := ha
    exact graphChecks_many (by simpa using hf)
end Go.Proofs.Ythfecllgkldgfaa
