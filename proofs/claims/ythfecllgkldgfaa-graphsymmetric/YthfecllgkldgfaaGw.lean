/- graph: GraphVertices. -/
import Derived.Test.YthfecllgkldgfaaGv
namespace Go.Proofs.Ythfecllgkldgfaa
open Go.ChangeShapes Go.WideShapes Go.ChangeAt Go.RowKit Go.Joins Go.Deep

def NbIs (N : Int) (ars : List (Int × Int)) (ss : List (List Int)) : Prop := (chk N ars ≠ 0 ∧ ss = []) ∨ (chk N ars = 0 ∧ ss.length = N.toNat ∧ ∀ j, j < N.toNat → IsSet ((nbs ars ars.length N.toNat).getD j []) (ss.getD j []) ∧ (ss.getD j []).length ≤ 1000000)
theorem NbIs.unique {N : Int} {ars : List (Int × Int)} {s t : List (List Int)} (h : NbIs N ars s) (k : NbIs N ars t) : s = t := by
  rcases h with ⟨h0, rfl⟩ | ⟨h0, hl, hs⟩
  · rcases k with ⟨_, rfl⟩ | ⟨k0, _⟩
    · rfl
    · exact absurd k0 h0
  · rcases k with ⟨k0, _⟩ | ⟨k0, kl, ks⟩
    · exact absurd h0 k0
    · apply List.ext_getElem (hl.trans kl.symm)
      intro j p q
      have e := IsSet.unique (hs j (by omega)).1 (ks j (by omega)).1
      rw [List.getD, List.getElem?_eq_getElem p, List.getD, List.getElem?_eq_getElem q] at e
      exact e
theorem NbIs.small {N : Int} {ars : List (Int × Int)} {s : List (List Int)} (h : NbIs N ars s) (hm : chk N ars = 0 → N ≤ 1048576) : Small s := by
  rcases h with ⟨h0, rfl⟩ | ⟨h0, hl, hs⟩
  · exact ⟨by simp, fun j hj => absurd hj (by simp)⟩
  · have := hm h0
    exact small_of hl (by omega) (fun j hj => (hs j hj).2)
def NbAll (N : Int) (ars : List (Int × Int)) (w : World) (e : Ending) (w' : World) : Prop := ∃ u ss, e = .returned u ∧ RowsAt w' u ss ∧ NbIs N ars ss ∧ Below w.heap.size w w'
theorem nb_bad {w : World} {N : Int} {v : Value} {ars : List (Int × Int)} (h : ArcsAt w v ars) (hc : chk N ars ≠ 0) : Calls Try.prog 42 #[gv N v] w fun e w' => e = .returned nilV ∧ Below w.heap.size w w' := by
  have A0 := h
  obtain ⟨a, cap, rfl, _⟩ := h
  have CK := Lib.hid (fun W (b : Below w.heap.size w W) => check_any (N := N) (A0.below b))
  obtain ⟨n, hn⟩ : ∃ n, ars.length = n := ⟨_, rfl⟩
  obtain ⟨c, hcc⟩ : ∃ c, chk N ars = c := ⟨_, rfl⟩
  rw [hn] at CK ⊢
  rw [hcc] at CK hc
  have c1 : (c == 0) = false := by simpa using hc
  obtain ⟨W1, hW1⟩ : ∃ W1, w.alloc (.cells #[.int .i64 N, .slice a n cap] 33) = W1 := ⟨_, rfl⟩
  have r1 : Row W1 w.heap.size 33 [.int .i64 N, .slice a n cap] := by rw [← hW1]; exact Row.new _ _ _
  have q0 := r1.cell (i := 0) rfl; have q1 := r1.cell (i := 1) rfl
  have BB := Lib.hid (show Below w.heap.size w W1 by rw [← hW1]; exact (Below.refl _ _).alloc (Nat.le_refl _) _)
  clear r1 A0 hn hcc hc
  go_enter Try.func42, Try.ntmps42
  go_wp2_with fail
  refine (CK.out _ BB.out).mono ?_; rintro e w3 ⟨rfl, b⟩
  have FB := Lib.hid (BB.out.trans (b.mono BB.out.size))
  clear b
  go_wp2_with fail
  go_ret
  exact ⟨rfl, FB.out⟩
theorem nb_all {w : World} {N : Int} {v : Value} {ars : List (Int × Int)} (h : ArcsAt w v ars) (hl : ars.length ≤ 60) : Calls Try.prog 42 #[gv N v] w (NbAll N ars w) := by
  by_cases hc : chk N ars = 0
  · obtain ⟨m, rfl⟩ := chk_nat hc
    refine (nb_any h hc (by omega)).mono ?_
    rintro e w' ⟨u, ss, rfl, hr, hl2, hs, b⟩
    exact ⟨u, ss, rfl, hr, Or.inr ⟨hc, by rw [Int.toNat_natCast]; exact hl2, by rw [Int.toNat_natCast]; exact hs⟩, b⟩
  · refine (nb_bad h hc).mono ?_
    rintro e w' ⟨rfl, b⟩
    exact ⟨_, [], rfl, rows_nil _, Or.inl ⟨hc, rfl⟩, b⟩
theorem nbr_all {w : World} {N : Int} {v : Value} {ars : List (Int × Int)} (h : ArcsAt w v ars) (hl : ars.length ≤ 60) : Calls Try.prog 43 #[gv N v] w (NbAll N ars w) := by
  by_cases hc : chk N ars = 0
  · obtain ⟨m, rfl⟩ := chk_nat hc
    refine (nbr_any h hc (by omega)).mono ?_
    rintro e w' ⟨u, ss, rfl, hr, hl2, hs, b⟩
    exact ⟨u, ss, rfl, hr, Or.inr ⟨hc, by rw [Int.toNat_natCast]; exact hl2, by rw [Int.toNat_natCast]; exact hs⟩, b⟩
  · refine (nbr_bad h hc).mono ?_
    rintro e w' ⟨rfl, b⟩
    exact ⟨_, [], rfl, rows_nil _, Or.inl ⟨hc, rfl⟩, b⟩
def pOf (N : Int) (ars : List (Int × Int)) : List Int := if chk N ars = 0 then partsL ars N.toNat else []
def PAll (N : Int) (ars : List (Int × Int)) (w : World) (e : Ending) (w' : World) : Prop := ∃ u, e = .returned u ∧ IntsAt w' u (pOf N ars) ∧ Below w.heap.size w w'
theorem parts_all {w : World} {N : Int} {v : Value} {ars : List (Int × Int)} (h : ArcsAt w v ars) : Calls Try.prog 44 #[gv N v] w (PAll N ars w) := by
  by_cases hc : chk N ars = 0
  · obtain ⟨m, rfl⟩ := chk_nat hc
    refine (parts_any h hc).mono ?_
    rintro e w' ⟨u, rfl, hr, b⟩
    exact ⟨u, rfl, by unfold pOf; rw [if_pos hc, Int.toNat_natCast]; exact hr, b⟩
  · refine (parts_bad h hc).mono ?_
    rintro e w' ⟨rfl, b⟩
    exact ⟨_, rfl, by unfold pOf; rw [if_neg hc]; exact ints_nil _, b⟩
theorem partsr_all {w : World} {N : Int} {v : Value} {ars : List (Int × Int)} (h : ArcsAt w v ars) : Calls Try.prog 45 #[gv N v] w (PAll N ars w) := by
  by_cases hc : chk N ars = 0
  · obtain ⟨m, rfl⟩ := chk_nat hc
    refine (partsr_any h hc).mono ?_
    rintro e w' ⟨u, rfl, hr, b⟩
    exact ⟨u, rfl, by unfold pOf; rw [if_pos hc, Int.toNat_natCast, ← partsR_eq (chk_zero hc).2]; exact hr, b⟩
  · refine (partsr_bad h hc).mono ?_
    rintro e w' ⟨rfl, b⟩
    exact ⟨_, rfl, by unfold pOf; rw [if_neg hc]; exact ints_nil _, b⟩
theorem few_le {N : Int} {ars : List (Int × Int)} (hf : fewB N ars.length = true) (hc : chk N ars = 0) : N ≤ 40 := by
  have := (chk_zero hc).1
  unfold long at this
  unfold fewB at hf
  simp at hf
  omega
theorem pOf_len {N : Int} {ars : List (Int × Int)} (hf : fewB N ars.length = true) : (pOf N ars).length ≤ 1000000 := by
  unfold pOf
  by_cases hc : chk N ars = 0
  · obtain ⟨m, rfl⟩ := chk_nat hc
    have := few_le hf hc
    rw [if_pos hc, Int.toNat_natCast, (parts_least (chk_zero hc).2).1]; omega
  · rw [if_neg hc]; simp
set_option maxRecDepth 100000 in
set_option maxHeartbeats 8000000 in
theorem graphVer_few {w : World} {N : Int} {v : Value} {ars : List (Int × Int)} (h : ArcsAt w v ars) (hf : fewB N ars.length = true) : Calls Try.prog 10 #[gv N v] w fun e w' => e = .returned (.bool true) ∧ Below w.heap.size w w' := by
  have hl : ars.length ≤ 60 := by unfold fewB at hf; simp at hf; omega
  have HM : Hid (chk N ars = 0 → N ≤ 1048576) := fun hc => by have := few_le hf hc; omega
  have PS := Lib.hid (pOf_len hf)
  have A0 := h
  obtain ⟨a, cap, rfl, _⟩ := h
  obtain ⟨W1, hW1⟩ : ∃ W1, w.alloc (.cells #[.int .i64 N, .slice a ars.length cap] 33) = W1 := ⟨_, rfl⟩
  obtain ⟨B0, hB0⟩ : ∃ B0, w.heap.size = B0 := ⟨_, rfl⟩
  have r1 : Row W1 B0 33 [.int .i64 N, .slice a ars.length cap] := by rw [← hW1, ← hB0]; exact Row.new _ _ _
  have b1 : Below w.heap.size w W1 := by rw [← hW1]; exact below_al _ _
  have C1 := Lib.hid (fun W (b : Below W1.heap.size W1 W) => nb_all (N := N) ((A0.below b1).below b) hl)
  have C2 := Lib.hid (fun W (b : Below W1.heap.size W1 W) => nbr_all (N := N) ((A0.below b1).below b) hl)
  have C3 := Lib.hid (fun W (b : Below W1.heap.size W1 W) => parts_all (N := N) ((A0.below b1).below b))
  have C4 := Lib.hid (fun W (b : Below W1.heap.size W1 W) => partsr_all (N := N) ((A0.below b1).below b))
  have FW := few37_any N ars.length cap a
  rw [hf] at FW
  have FF := Lib.hid FW
  obtain ⟨n, hn⟩ : ∃ n, ars.length = n := ⟨_, rfl⟩
  rw [hn] at hW1 r1 FF C1 C2 C3 C4 ⊢
  have BB := Lib.hid b1; have R1 := Lib.hid r1
  have q0 := r1.cell (i := 0) rfl; have q1 := r1.cell (i := 1) rfl
  clear A0 b1 r1 FW hn hl hf
  go_enter Try.func10, Try.ntmps10
  go_wp2_with fail
  refine (FF.out _).mono ?_; rintro e w3 ⟨rfl, b⟩
  have B3 := Lib.hid b
  have r3 := R1.out.below b R1.out.lt
  clear b q0 q1 hW1
  have q0 := r3.cell (i := 0) rfl; have q1 := r3.cell (i := 1) rfl
  clear r3
  go_wp2_with fail
  have S0 : Hid (∀ W, W = w3.drew → Below W1.heap.size W1 W ∧ W.cell? ⟨B0, 0, none⟩ = some (.int .i64 N) ∧ W.cell? ⟨B0, 1, none⟩ = some (.slice a n cap)) := by
    intro W e0; subst e0
    exact ⟨B3.out.drew, q0, q1⟩
  refine wp_region_held_drew (S := fun W => Below W1.heap.size W1 W ∧ W.cell? ⟨B0, 0, none⟩ = some (.int .i64 N) ∧ W.cell? ⟨B0, 1, none⟩ = some (.slice a n cap)) (by kernel_rfl) (S0.out _ rfl) (fun hHeld => ?_)
  clear S0 q0 q1
  refine wpAnyH_take (i := 0) (v := ?_) rfl (by kernel_rfl) (by kernel_rfl) (by kernel_rfl) (fun _ _ _ h => h) (Or.inl ⟨by rfl, ?_⟩) (by assumption) ?_
  rotate_left 1
  · (intro w hSw; (try dsimp only at hSw); first | (go_simp; done) | (go_simp; with_reducible rfl))
  simp only [Act.put, List.getElem_toArray, List.getElem_cons_zero, List.setIfInBounds_toArray, List.set_cons_zero, List.set_cons_succ]
  refine wpAnyH_take (i := 2) (v := ?_) rfl (by kernel_rfl) (by kernel_rfl) (by kernel_rfl) (fun _ _ _ h => h) (Or.inl ⟨by rfl, ?_⟩) (by assumption) ?_
  rotate_left 1
  · (intro w hSw; (try dsimp only at hSw); first | (go_simp; done) | (go_simp; with_reducible rfl))
  simp only [Act.put, List.getElem_toArray, List.getElem_cons_zero, List.getElem_cons_succ, List.setIfInBounds_toArray, List.set_cons_zero, List.set_cons_succ]
  refine wpAnyH_ready (rs := [1]) (by kernel_rfl) (by simp) ?_
  refine AllReadyH.cons rfl (fun K hK => ?_) AllReadyH.nil
  have hS1 := Lib.hid hHeld
  go_simp
  go_wp2_with (go_at_call 42; (with_reducible refine (C1.out _ hS1.out.1).mono ?_); rintro en w4 ⟨u1, s1, rfl, a4, n4, b4⟩)
  have A4 := Lib.hid a4; have N4 := Lib.hid n4
  clear a4 n4
  refine hK.out _ _ (s_keep3 R1.out.lt b4 hS1.out) (fun hHeld2 => ?_)
  clear b4
  clear hK K hHeld hS1; have hHeld := hHeld2; clear hHeld2
  refine wpAnyH_ready (rs := [3]) (by kernel_rfl) (by simp) ?_
  refine AllReadyH.cons rfl (fun K hK => ?_) AllReadyH.nil
  have hS1 := Lib.hid hHeld
  go_simp
  go_wp2_with (go_at_call 43; (with_reducible refine (C2.out _ hS1.out.1).mono ?_); rintro en w5 ⟨u2, s2, rfl, a5, n5, b5⟩)
  have A4b := Lib.hid (A4.out.below b5)
  obtain rfl := N4.out.unique n5
  have A5 := Lib.hid a5
  clear a5 n5
  refine hK.out _ _ (s_keep3 R1.out.lt b5 hS1.out) (fun hHeld2 => ?_)
  clear b5
  clear hK K hHeld hS1; have hHeld := hHeld2; clear hHeld2
  refine wpAnyH_ready (rs := [4]) (by kernel_rfl) (by simp) ?_
  refine AllReadyH.cons rfl (fun K hK => ?_) AllReadyH.nil
  have hS1 := Lib.hid hHeld
  go_simp
  go_wp2_with (go_at_call 37; (with_reducible refine (lists_t A4b.out A5.out (N4.out.small HM.out)).mono ?_); rintro en w6 ⟨rfl, b6⟩)
  refine hK.out _ _ (s_keep3 R1.out.lt b6 hS1.out) (fun hHeld2 => ?_)
  clear b6
  clear hK K hHeld hS1; have hHeld := hHeld2; clear hHeld2
  refine wpAnyH_take (i := 5) (v := ?_) rfl (by kernel_rfl) (by kernel_rfl) (by kernel_rfl) (fun _ _ _ h => h) (Or.inl ⟨by rfl, ?_⟩) (by assumption) ?_
  rotate_left 1
  · (intro w hSw; (try dsimp only at hSw); first | (go_simp; done) | (go_simp; with_reducible rfl))
  simp only [Act.put, List.getElem_toArray, List.getElem_cons_zero, List.getElem_cons_succ, List.setIfInBounds_toArray, List.set_cons_zero, List.set_cons_succ]
  refine wpAnyH_take (i := 6) (v := ?_) rfl (by kernel_rfl) (by kernel_rfl) (by kernel_rfl) (fun _ _ _ h => h) (Or.inl ⟨by rfl, ?_⟩) (by assumption) ?_
  rotate_left 1
  · (intro w hSw; (try dsimp only at hSw); first | (go_simp; done) | (go_simp; with_reducible rfl))
  simp only [Act.put, List.getElem_toArray, List.getElem_cons_zero, List.getElem_cons_succ, List.setIfInBounds_toArray, List.set_cons_zero, List.set_cons_succ]
  refine wpAnyH_take (i := 8) (v := ?_) rfl (by kernel_rfl) (by kernel_rfl) (by kernel_rfl) (fun _ _ _ h => h) (Or.inl ⟨by rfl, ?_⟩) (by assumption) ?_
  rotate_left 1
  · (intro w hSw; (try dsimp only at hSw); first | (go_simp; done) | (go_simp; with_reducible rfl))
  simp only [Act.put, List.getElem_toArray, List.getElem_cons_zero, List.getElem_cons_succ, List.setIfInBounds_toArray, List.set_cons_zero, List.set_cons_succ]
  refine wpAnyH_ready (rs := [7]) (by kernel_rfl) (by simp) ?_
  refine AllReadyH.cons rfl (fun K hK => ?_) AllReadyH.nil
  have hS1 := Lib.hid hHeld
  go_simp
  go_wp2_with (go_at_call 44; (with_reducible refine (C3.out _ hS1.out.1).mono ?_); rintro en w7 ⟨u3, rfl, a7, b7⟩)
  have A7 := Lib.hid a7
  clear a7
  refine hK.out _ _ (s_keep3 R1.out.lt b7 hS1.out) (fun hHeld2 => ?_)
  clear b7
  clear hK K hHeld hS1; have hHeld := hHeld2; clear hHeld2
  refine wpAnyH_ready (rs := [9]) (by kernel_rfl) (by simp) ?_
  refine AllReadyH.cons rfl (fun K hK => ?_) AllReadyH.nil
  have hS1 := Lib.hid hHeld
  go_simp
  go_wp2_with (go_at_call 45; (with_reducible refine (C4.out _ hS1.out.1).mono ?_); rintro en w8 ⟨u4, rfl, a8, b8⟩)
  have A7b := Lib.hid (A7.out.below b8)
  have A8 := Lib.hid a8
  clear a8
  refine hK.out _ _ (s_keep3 R1.out.lt b8 hS1.out) (fun hHeld2 => ?_)
  clear b8
  clear hK K hHeld hS1; have hHeld := hHeld2; clear hHeld2
  refine wpAnyH_ready (rs := [10]) (by kernel_rfl) (by simp) ?_
  refine AllReadyH.cons rfl (fun K hK => ?_) AllReadyH.nil
  have hS1 := Lib.hid hHeld
  go_simp
  go_wp2_with (go_at_call 15; (with_reducible refine (equal_t A7b.out A8.out PS.out).mono ?_); rintro en w9 ⟨rfl, b9⟩)
  refine hK.out _ _ (s_keep3 R1.out.lt b9 hS1.out) (fun hHeld2 => ?_)
  clear b9
  clear hK K hHeld hS1; have hHeld := hHeld2; clear hHeld2
  refine wpAnyH_take (i := 11) (v := ?_) rfl (by kernel_rfl) (by kernel_rfl) (by kernel_rfl) (fun _ _ _ h => h) (Or.inl ⟨by rfl, ?_⟩) (by assumption) ?_
  rotate_left 1
  · (intro w hSw; (try dsimp only at hSw); first | (go_simp; done) | (go_simp; with_reducible rfl))
  simp only [Act.put, List.getElem_toArray, List.getElem_cons_zero, List.getElem_cons_succ, List.setIfInBounds_toArray, List.set_cons_zero, List.set_cons_succ]
  refine wpAnyH_take (i := 12) (v := ?_) rfl (by kernel_rfl) (by kernel_rfl) (by kernel_rfl) (fun _ _ _ h => h) (Or.inl ⟨by rfl, ?_⟩) (by assumption) ?_
  rotate_left 1
  · (intro w hSw; (try dsimp only at hSw); first | (go_simp; done) | (go_simp; with_reducible rfl))
  simp only [Act.put, List.getElem_toArray, List.getElem_cons_zero, List.getElem_cons_succ, List.setIfInBounds_toArray, List.set_cons_zero, List.set_cons_succ]
  refine wpAnyH_ready (rs := [13]) (by kernel_rfl) (by simp) ?_
  refine AllReadyH.cons rfl (fun K hK => ?_) AllReadyH.nil
  have hS1 := Lib.hid hHeld
  go_simp
  go_wp2_with (go_at_call 31; (with_reducible refine (lives37_any _).mono ?_); rintro en wa ⟨rfl, ba⟩)
  refine hK.out _ _ (s_keep3 R1.out.lt ba hS1.out) (fun hHeld2 => ?_)
  clear ba
  clear hK K hHeld hS1; have hHeld := hHeld2; clear hHeld2
  refine wpAnyH_take (i := 14) (v := ?_) rfl (by kernel_rfl) (by kernel_rfl) (by kernel_rfl) (fun _ _ _ h => h) (Or.inl ⟨by rfl, ?_⟩) (by assumption) ?_
  rotate_left 1
  · (intro w hSw; (try dsimp only at hSw); first | (go_simp; done) | (go_simp; with_reducible rfl))
  simp only [Act.put, List.getElem_toArray, List.getElem_cons_zero, List.getElem_cons_succ, List.setIfInBounds_toArray, List.set_cons_zero, List.set_cons_succ]
  refine wpAnyH_take (i := 15) (v := ?_) rfl (by kernel_rfl) (by kernel_rfl) (by kernel_rfl) (fun _ _ _ h => h) (Or.inl ⟨by rfl, ?_⟩) (by assumption) ?_
  rotate_left 1
  · (intro w hSw; (try dsimp only at hSw); first | (go_simp; done) | (go_simp; with_reducible rfl))
  simp only [Act.put, List.getElem_toArray, List.getElem_cons_zero, List.getElem_cons_succ, List.setIfInBounds_toArray, List.set_cons_zero, List.set_cons_succ]
  have FB := Lib.hid (BB.out.trans (hHeld.1.mono BB.out.size))
  refine wpAnyH_done (by kernel_rfl) ?_ _
  clear hHeld
  go_wp2_with fail
  go_ret
  exact ⟨rfl, FB.out⟩
theorem graphVer_many {w : World} {N : Int} {a : Option Addr} {n cap : Nat} (hf : fewB N n = false) : Calls Try.prog 10 #[gv N (.slice a n cap)] w fun e w' => e = .returned (.bool true) ∧ Below w.heap.size w w' := by
  obtain ⟨W1, hW1⟩ : ∃ W1, w.alloc (.cells #[.int .i64 N, .slice a n cap] 33) = W1 := ⟨_, rfl⟩
  have r1 : Row W1 w.heap.size 33 [.int .i64 N, .slice a n cap] := by rw [← hW1]; exact Row.new _ _ _
  have b1 : Below w.heap.size w W1 := by rw [← hW1]; exact below_al _ _
  have FW := few37_any N n cap a
  rw [hf] at FW
  have FF := Lib.hid FW; have BB := Lib.hid b1
  have q0 := r1.cell (i := 0) rfl; have q1 := r1.cell (i := 1) rfl
  clear FW b1 r1 hf
  go_enter Try.func10, Try.ntmps10
  go_wp2_with fail
  refine (FF.out _).mono ?_; rintro e w3 ⟨rfl, b⟩
  have B3 := Lib.hid (BB.out.trans (b.mono BB.out.size))
  clear b
  go_wp2_with fail
  refine (lives37_any _).mono ?_; rintro e w4 ⟨rfl, b⟩
  have B4 := Lib.hid (B3.out.trans (b.mono B3.out.size))
  clear b
  go_wp2_with fail
  go_ret
  exact ⟨rfl, B4.out⟩
abbrev graphVertices_zero0 : Value := gv 0 nilV
theorem graphVertices_open0 {H : Type} {enc : TypeId × Value → H} {W : World} {base b0 : Nat} {spare : Nat → Bool} {held : Bool} {r : Reach} {v : Value} {d : DataW H} {p : List MemPlace}
    (hv : Value.okWide Try.prog W r b0 33 v) (h : DataW.Trod enc Try.prog W base spare held 33 v d p) : IsG W v := graph_open hv h
theorem graphVertices_walk (v : Value) (w : World) (h : IsG w v) : Calls Try.prog 10 #[v] w fun e w' => e = .returned (.bool true) ∧ Below w.heap.size w w' := by
  obtain ⟨N, u, ars, rfl, ha⟩ := h
  by_cases hf : fewB N ars.length = true
  · exact graphVer_few ha hf
  · obtain ⟨a, cap, rfl, _⟩ := ha
    exact graphVer_many (by simpa using hf)
end Go.Proofs.Ythfecllgkldgfaa
