/- cmds: CmdsEncodes. -/
import Derived.Test.YthlbenldgnjgcaaDoorLb
namespace Go.Proofs.YthlbenldgnjgcaaDoor
open Go.ChangeShapes Go.WideShapes Go.ChangeAt Go.RowKit Go.Joins Go.Deep

theorem keepE {W1 W W' : World} {A : Nat} {u v : Value} (hb : A < W1.heap.size) (b : Below W.heap.size W W') (h : Below W1.heap.size W1 W ∧ W.cell? ⟨A, 0, none⟩ = some u ∧ W.cell? ⟨A, 1, none⟩ = some v) : Below W1.heap.size W1 W' ∧ W'.cell? ⟨A, 0, none⟩ = some u ∧ W'.cell? ⟨A, 1, none⟩ = some v :=
  ⟨h.1.trans (b.mono h.1.size), by rw [b.cell (by have := h.1.size; show A < _; omega)]; exact h.2.1, by rw [b.cell (by have := h.1.size; show A < _; omega)]; exact h.2.2⟩
set_option maxRecDepth 100000 in
set_option maxHeartbeats 8000000 in
theorem cmdsEncodes_walk (v : Value) (w : World) (hg : IsG w v) (gv0 : GV w) : Calls Tryd.prog 3 #[v] w fun e w' => e = .returned (.bool true) ∧ Below w.heap.size w w' := by
  obtain ⟨k, u, ls, rfl, hr, hl1, hl2, _, _⟩ := hg
  obtain ⟨a, cap, rfl⟩ := hr.form
  obtain ⟨n, hn⟩ : ∃ n, ls.length = n := ⟨_, rfl⟩
  obtain ⟨A, hA⟩ : ∃ A, w.heap.size = A := ⟨_, rfl⟩
  obtain ⟨W1, hW1⟩ : ∃ W1, w.alloc (.cells #[.int .i64 k, .slice a n cap] 24) = W1 := ⟨_, rfl⟩
  have r1 : Row W1 A 24 [.int .i64 k, .slice a n cap] := by rw [← hW1, ← hA]; exact Row.new _ _ _
  have b1 : Below w.heap.size w W1 := by rw [← hW1]; exact (Below.refl _ _).alloc (Nat.le_refl _) _
  have R1 := Lib.hid r1; have B1 := Lib.hid b1
  have RW := Lib.hid (hr.below b1); have GG := Lib.hid (gv0.below b1)
  have x0 := r1.cell (i := 0) rfl; have x1 := r1.cell (i := 1) rfl
  have FW := few_any (k := k) RW.out (by omega) (fun l hl => by have := hl2 l hl; omega)
  rw [hn] at RW FW
  rw [hn]
  have HN := Lib.hid hn
  obtain ⟨fw, hfw⟩ : ∃ fw, fewB ls = fw := ⟨_, rfl⟩
  rw [hfw] at FW
  have FF := Lib.hid FW; have HF := Lib.hid hfw
  clear hr hl1 hl2 r1 b1 FW hn gv0 hfw
  go_enter Tryd.func3, Tryd.ntmps3
  go_wp2_with fail
  refine FF.out.mono ?_; rintro e w3 ⟨rfl, b3⟩
  have B3 := Lib.hid b3
  have r3 := R1.out.below b3 R1.out.lt
  have x0 := r3.cell (i := 0) rfl; have x1 := r3.cell (i := 1) rfl
  clear b3 r3
  cases fw with
  | false =>
    have LV := Lib.hid (lives_any (GG.out.below B3.out))
    go_wp2_with fail
    refine LV.out.mono ?_; rintro e w4 ⟨rfl, b4⟩
    have B4 := Lib.hid (B1.out.trans ((B3.out.trans (b4.mono B3.out.size)).mono B1.out.size))
    clear b4
    go_wp2_with fail
    go_ret
    exact ⟨rfl, B4.out⟩
  | true =>
    have HFW : Hid (ls.length + tot ls ≤ 9000) := by have := HF.out; unfold fewB at this; show _ ≤ _; simpa using this
    obtain ⟨c, hc⟩ : ∃ c, chk k ls = c := ⟨_, rfl⟩
    have CK0 := fun W (b : Below W1.heap.size W1 W) => check_any (k := k) (RW.out.below b) (by have := HFW.out; omega)
    have CR0 := fun W (b : Below W1.heap.size W1 W) => checkr_any (k := k) (RW.out.below b) (by have := HFW.out; omega)
    have EN0 := fun W (b : Below W1.heap.size W1 W) => encode_any (k := k) (RW.out.below b) HFW.out
    have ER0 := fun W (b : Below W1.heap.size W1 W) => encr_any (k := k) (RW.out.below b) HFW.out
    rw [hc] at CK0 CR0 EN0 ER0
    have CK := Lib.hid CK0; have CR := Lib.hid CR0; have EN := Lib.hid EN0; have ER := Lib.hid ER0
    have HC := Lib.hid hc
    have LE : Hid ((encR k ls).length ≤ 1000000) := by
      show _ ≤ _
      unfold encR
      split
      · have := enc_len (k := k) HFW.out; omega
      · simp
    clear CK0 CR0 EN0 ER0 hc
    go_wp2_with fail
    refine (EN.out _ B3.out).mono ?_; rintro e w4 ⟨u1, rfl, h1, b4⟩
    have B4 : Hid (Below W1.heap.size W1 w4) := B3.out.trans (b4.mono B3.out.size)
    obtain ⟨a1, c1, rfl⟩ := h1.form
    obtain ⟨ne, hne⟩ : ∃ ne, (encR k ls).length = ne := ⟨_, rfl⟩
    have H1 := Lib.hid h1
    have r4 := R1.out.below B4.out R1.out.lt
    have x0 := r4.cell (i := 0) rfl; have x1 := r4.cell (i := 1) rfl
    rw [hne] at H1
    rw [hne]
    clear b4 r4 h1
    go_wp2_with fail
    refine (ER.out _ B4.out).mono ?_; rintro e w5 ⟨u2, rfl, h2, b5⟩
    have B5 : Hid (Below W1.heap.size W1 w5) := B4.out.trans (b5.mono B4.out.size)
    have B45 := Lib.hid b5
    obtain ⟨a2, c2, rfl⟩ := h2.form
    have H2 := Lib.hid h2
    have r5 := R1.out.below B5.out R1.out.lt
    have x0 := r5.cell (i := 0) rfl; have x1 := r5.cell (i := 1) rfl
    rw [hne] at H2
    rw [hne]
    have H15 := Lib.hid (H1.out.below B45.out)
    have EQ : Hid (∀ W, Below w5.heap.size w5 W → Calls Tryd.prog 13 #[.slice a1 ne c1, .slice a2 ne c2] W fun e w' => e = .returned (.bool true) ∧ ∃ q, w' = W.drewN q) := by
      intro W b
      have := equal_any (H15.out.below b) (H2.out.below b) LE.out LE.out
      rw [show decide (encR k ls = encR k ls) = true from decide_eq_true rfl] at this
      exact this
    have CK5 : Hid (∀ W, Below w5.heap.size w5 W → Calls Tryd.prog 11 #[gv k (.slice a n cap)] W fun e w' => e = .returned (.int .i64 c) ∧ Below W.heap.size W w') := fun W b => CK.out W (B5.out.trans (b.mono B5.out.size))
    have CR5 : Hid (∀ W, Below w5.heap.size w5 W → Calls Tryd.prog 12 #[gv k (.slice a n cap)] W fun e w' => e = .returned (.int .i64 c) ∧ Below W.heap.size W w') := fun W b => CR.out W (B5.out.trans (b.mono B5.out.size))
    have LV : Hid (∀ W, Below w5.heap.size w5 W → Calls Tryd.prog 8 #[] W fun e w' => e = .returned (.bool true) ∧ Below W.heap.size W w') := fun W b => lives_any (GG.out.below (B5.out.trans (b.mono B5.out.size)))
    have LA : Hid (A < w5.heap.size) := r5.lt
    clear b5 r5 h2 hne
    go_wp2_with fail
    have S0 : Hid (∀ W, W = w5.drew → Below w5.heap.size w5 W ∧ W.cell? ⟨A, 0, none⟩ = some (.int .i64 k) ∧ W.cell? ⟨A, 1, none⟩ = some (.slice a n cap)) := by
      intro W e0; subst e0
      exact ⟨(Below.refl _ _).drew, x0, x1⟩
    refine wp_region_held_drew (S := fun W => Below w5.heap.size w5 W ∧ W.cell? ⟨A, 0, none⟩ = some (.int .i64 k) ∧ W.cell? ⟨A, 1, none⟩ = some (.slice a n cap)) (by kernel_rfl) (S0.out _ rfl) (fun hHeld => ?_)
    clear S0
    refine wpAnyH_take (i := 0) (v := ?_) rfl (by kernel_rfl) (by kernel_rfl) (by kernel_rfl) (fun _ _ _ h => h) (Or.inl ⟨by rfl, ?_⟩) (by assumption) ?_
    rotate_left 1
    · (intro w hSw; (try dsimp only at hSw); first | (go_simp; done) | (go_simp; with_reducible rfl))
    simp only [Act.put, List.getElem_toArray, List.getElem_cons_zero, List.setIfInBounds_toArray, List.set_cons_zero, List.set_cons_succ]
    refine wpAnyH_take (i := 2) (v := ?_) rfl (by kernel_rfl) (by kernel_rfl) (by kernel_rfl) (fun _ _ _ h => h) (Or.inl ⟨by rfl, ?_⟩) (by assumption) ?_
    rotate_left 1
    · (intro w hSw; (try dsimp only at hSw); first | (go_simp; done) | (go_simp; with_reducible rfl))
    simp only [Act.put, List.getElem_toArray, List.getElem_cons_zero, List.getElem_cons_succ, List.setIfInBounds_toArray, List.set_cons_zero, List.set_cons_succ]
    refine wpAnyH_ready (rs := [1]) (by decide +kernel) (by simp) ?_
    refine AllReadyH.cons rfl (fun K hK => ?_) AllReadyH.nil
    have hS1 := Lib.hid hHeld
    go_simp
    go_wp2_with (go_at_call 11; (with_reducible refine (CK5.out _ hS1.out.1).mono ?_); rintro en w9 ⟨rfl, b9⟩)
    refine hK.out _ _ (keepE LA.out b9 hS1.out) (fun hHeld2 => ?_)
    clear b9
    clear hK K hHeld hS1; have hHeld := hHeld2; clear hHeld2
    refine wpAnyH_ready (rs := [3]) (by decide +kernel) (by simp) ?_
    refine AllReadyH.cons rfl (fun K hK => ?_) AllReadyH.nil
    have hS1 := Lib.hid hHeld
    go_simp
    go_wp2_with (go_at_call 12; (with_reducible refine (CR5.out _ hS1.out.1).mono ?_); rintro en w9 ⟨rfl, b9⟩)
    refine hK.out _ _ (keepE LA.out b9 hS1.out) (fun hHeld2 => ?_)
    clear b9
    clear hK K hHeld hS1; have hHeld := hHeld2; clear hHeld2
    refine wpAnyH_take (i := 4) (v := ?_) rfl (by kernel_rfl) (by kernel_rfl) (by kernel_rfl) (fun _ _ _ h => h) (Or.inl ⟨by rfl, ?_⟩) (by assumption) ?_
    rotate_left 1
    · (intro w hSw; (try dsimp only at hSw); first | (go_simp; done) | (go_simp; with_reducible rfl))
    simp only [Act.put, List.getElem_toArray, List.getElem_cons_zero, List.getElem_cons_succ, List.setIfInBounds_toArray, List.set_cons_zero, List.set_cons_succ]
    refine wpAnyH_take (i := 5) (v := ?_) rfl (by kernel_rfl) (by kernel_rfl) (by kernel_rfl) (fun _ _ _ h => h) (Or.inl ⟨by rfl, ?_⟩) (by assumption) ?_
    rotate_left 1
    · (intro w hSw; (try dsimp only at hSw); first | (go_simp; done) | (go_simp; with_reducible rfl))
    simp only [Act.put, List.getElem_toArray, List.getElem_cons_zero, List.getElem_cons_succ, List.setIfInBounds_toArray, List.set_cons_zero, List.set_cons_succ]
    refine wpAnyH_take (i := 6) (v := ?_) rfl (by kernel_rfl) (by kernel_rfl) (by kernel_rfl) (fun _ _ _ h => h) (Or.inl ⟨by rfl, ?_⟩) (by assumption) ?_
    rotate_left 1
    · (intro w hSw; (try dsimp only at hSw); first | (go_simp; done) | (go_simp; with_reducible rfl))
    simp only [Act.put, List.getElem_toArray, List.getElem_cons_zero, List.getElem_cons_succ, List.setIfInBounds_toArray, List.set_cons_zero, List.set_cons_succ]
    refine wpAnyH_take (i := 7) (v := ?_) rfl (by kernel_rfl) (by kernel_rfl) (by kernel_rfl) (fun _ _ _ h => h) (Or.inl ⟨by rfl, ?_⟩) (by assumption) ?_
    rotate_left 1
    · (intro w hSw; (try dsimp only at hSw); first | (go_simp; done) | (go_simp; with_reducible rfl))
    simp only [Act.put, List.getElem_toArray, List.getElem_cons_zero, List.getElem_cons_succ, List.setIfInBounds_toArray, List.set_cons_zero, List.set_cons_succ]
    refine wpAnyH_ready (rs := [8]) (by decide +kernel) (by simp) ?_
    refine AllReadyH.cons rfl (fun K hK => ?_) AllReadyH.nil
    have hS1 := Lib.hid hHeld
    go_simp
    go_wp2_with (go_at_call 13; (with_reducible refine (EQ.out _ hS1.out.1).mono ?_); rintro en w9 ⟨rfl, qn, rfl⟩)
    have b9 : ∀ W : World, Below W.heap.size W (W.drewN qn) := fun W => below_drewN (Below.refl _ _) qn
    refine hK.out _ _ (keepE LA.out (b9 _) hS1.out) (fun hHeld2 => ?_)
    clear b9
    clear hK K hHeld hS1; have hHeld := hHeld2; clear hHeld2
    refine wpAnyH_take (i := 9) (v := ?_) rfl (by kernel_rfl) (by kernel_rfl) (by kernel_rfl) (fun _ _ _ h => h) (Or.inl ⟨by rfl, ?_⟩) (by assumption) ?_
    rotate_left 1
    · (intro w hSw; (try dsimp only at hSw); first | (go_simp; done) | (go_simp; with_reducible rfl))
    simp only [Act.put, List.getElem_toArray, List.getElem_cons_zero, List.getElem_cons_succ, List.setIfInBounds_toArray, List.set_cons_zero, List.set_cons_succ]
    refine wpAnyH_take (i := 10) (v := ?_) rfl (by kernel_rfl) (by kernel_rfl) (by kernel_rfl) (fun _ _ _ h => h) (Or.inl ⟨by rfl, ?_⟩) (by assumption) ?_
    rotate_left 1
    · (intro w hSw; (try dsimp only at hSw); first | (go_simp; done) | (go_simp; with_reducible rfl))
    simp only [Act.put, List.getElem_toArray, List.getElem_cons_zero, List.getElem_cons_succ, List.setIfInBounds_toArray, List.set_cons_zero, List.set_cons_succ]
    refine wpAnyH_take (i := 11) (v := ?_) rfl (by kernel_rfl) (by kernel_rfl) (by kernel_rfl) (fun _ _ _ h => h) (Or.inl ⟨by rfl, ?_⟩) (by assumption) ?_
    rotate_left 1
    · (intro w hSw; (try dsimp only at hSw); first | (go_simp; done) | (go_simp; with_reducible rfl))
    simp only [Act.put, List.getElem_toArray, List.getElem_cons_zero, List.getElem_cons_succ, List.setIfInBounds_toArray, List.set_cons_zero, List.set_cons_succ]
    refine wpAnyH_take (i := 12) (v := ?_) rfl (by kernel_rfl) (by kernel_rfl) (by kernel_rfl) (fun _ _ _ h => h) (Or.inl ⟨by rfl, ?_⟩) (by assumption) ?_
    rotate_left 1
    · (intro w hSw; (try dsimp only at hSw); first | (go_simp; done) | (go_simp; with_reducible rfl))
    simp only [Act.put, List.getElem_toArray, List.getElem_cons_zero, List.getElem_cons_succ, List.setIfInBounds_toArray, List.set_cons_zero, List.set_cons_succ]
    refine wpAnyH_take (i := 13) (v := ?_) rfl (by kernel_rfl) (by kernel_rfl) (by kernel_rfl) (fun _ _ _ h => h) (Or.inl ⟨by rfl, ?_⟩) (by assumption) ?_
    rotate_left 1
    · (intro w hSw; (try dsimp only at hSw); first | (go_simp; done) | (go_simp; with_reducible rfl))
    simp only [Act.put, List.getElem_toArray, List.getElem_cons_zero, List.getElem_cons_succ, List.setIfInBounds_toArray, List.set_cons_zero, List.set_cons_succ]
    refine wpAnyH_take (i := 14) (v := ?_) rfl (by kernel_rfl) (by kernel_rfl) (by kernel_rfl) (fun _ _ _ h => h) (Or.inl ⟨by rfl, ?_⟩) (by assumption) ?_
    rotate_left 1
    · (intro w hSw; (try dsimp only at hSw); first | (go_simp; done) | (go_simp; with_reducible rfl))
    simp only [Act.put, List.getElem_toArray, List.getElem_cons_zero, List.getElem_cons_succ, List.setIfInBounds_toArray, List.set_cons_zero, List.set_cons_succ]
    refine wpAnyH_take (i := 15) (v := ?_) rfl (by kernel_rfl) (by kernel_rfl) (by kernel_rfl) (fun _ _ _ h => h) (Or.inl ⟨by rfl, ?_⟩) (by assumption) ?_
    rotate_left 1
    · (intro w hSw; (try dsimp only at hSw); first | (go_simp; done) | (go_simp; with_reducible rfl))
    simp only [Act.put, List.getElem_toArray, List.getElem_cons_zero, List.getElem_cons_succ, List.setIfInBounds_toArray, List.set_cons_zero, List.set_cons_succ]
    refine wpAnyH_ready (rs := [16]) (by decide +kernel) (by simp) ?_
    refine AllReadyH.cons rfl (fun K hK => ?_) AllReadyH.nil
    have hS1 := Lib.hid hHeld
    go_simp
    go_wp2_with (go_at_call 8; (with_reducible refine (LV.out _ hS1.out.1).mono ?_); rintro en w9 ⟨rfl, b9⟩)
    refine hK.out _ _ (keepE LA.out b9 hS1.out) (fun hHeld2 => ?_)
    clear b9
    clear hK K hHeld hS1; have hHeld := hHeld2; clear hHeld2
    refine wpAnyH_take (i := 17) (v := ?_) rfl (by kernel_rfl) (by kernel_rfl) (by kernel_rfl) (fun _ _ _ h => h) (Or.inl ⟨by rfl, ?_⟩) (by assumption) ?_
    rotate_left 1
    · (intro w hSw; (try dsimp only at hSw); first | (go_simp; done) | (go_simp; with_reducible rfl))
    simp only [Act.put, List.getElem_toArray, List.getElem_cons_zero, List.getElem_cons_succ, List.setIfInBounds_toArray, List.set_cons_zero, List.set_cons_succ]
    refine wpAnyH_take (i := 18) (v := ?_) rfl (by kernel_rfl) (by kernel_rfl) (by kernel_rfl) (fun _ _ _ h => h) (Or.inl ⟨by rfl, ?_⟩) (by assumption) ?_
    rotate_left 1
    · (intro w hSw; (try dsimp only at hSw); first | (go_simp; done) | (go_simp; with_reducible rfl))
    simp only [Act.put, List.getElem_toArray, List.getElem_cons_zero, List.getElem_cons_succ, List.setIfInBounds_toArray, List.set_cons_zero, List.set_cons_succ]
    refine wpAnyH_done (by kernel_rfl) ?_ _
    have BF := Lib.hid hHeld.1
    clear hHeld
    go_wp2_with fail
    go_ret
    exact ⟨rfl, B1.out.trans ((B5.out.trans (BF.out.mono B5.out.size)).mono B1.out.size)⟩
end Go.Proofs.YthlbenldgnjgcaaDoor
