/- graph: GraphArcs. -/
import Derived.Test.YthfecllgkldgfaaGn
namespace Go.Proofs.Ythfecllgkldgfaa
open Go.ChangeShapes Go.WideShapes Go.ChangeAt Go.RowKit Go.Joins Go.Deep

def gOf (f : Int × Int → Int) (N : Int) (ars : List (Int × Int)) : List (List Int) := if chk N ars = 0 then groups f ars ars.length N.toNat else []
theorem gOf_ok {f : Int × Int → Int} {m : Nat} {ars : List (Int × Int)} (h : chk (m : Int) ars = 0) : gOf f (m : Int) ars = groups f ars ars.length m := by unfold gOf; rw [if_pos h, Int.toNat_natCast]
theorem gOf_no {f : Int × Int → Int} {N : Int} {ars : List (Int × Int)} (h : chk N ars ≠ 0) : gOf f N ars = [] := if_neg h
theorem chk_nat {N : Int} {ars : List (Int × Int)} (h : chk N ars = 0) : ∃ m : Nat, N = (m : Int) := by
  have := (chk_zero h).1
  unfold long at this
  exact ⟨N.toNat, by omega⟩
theorem rows_nil (w : World) : RowsAt w nilV [] := ⟨none, 0, rfl, Or.inl rfl⟩
theorem gOf_small (f : Int × Int → Int) (N : Int) {ars : List (Int × Int)} (hl : ars.length ≤ 60) : Small (gOf f N ars) := by
  by_cases h : chk N ars = 0
  · obtain ⟨m, rfl⟩ := chk_nat h
    have hm := (chk_zero h).1
    unfold long at hm
    rw [gOf_ok h]
    refine ⟨by rw [groups_len]; omega, fun j hj => ?_⟩
    rw [groups_len] at hj
    rw [groups_get hj]
    have := ends_len f ars ars.length j; omega
  · rw [gOf_no h]; exact ⟨by simp, fun j hj => absurd hj (by simp)⟩
theorem lists_t {w : World} {v u : Value} {ls : List (List Int)} (hv : RowsAt w v ls) (hu : RowsAt w u ls) (s : Small ls) : Calls Try.prog 37 #[v, u] w fun e w' => e = .returned (.bool true) ∧ Below w.heap.size w w' := by
  have h := lists_any hv hu s s
  have e : decide (ls = ls) = true := by simp
  rw [e] at h
  exact h
theorem end_any (fo g : FuncId) (hgo : fo = 38 ∧ g = 59 ∨ fo = 40 ∧ g = 60) {w : World} {N : Int} {v : Value} {ars : List (Int × Int)} (h : ArcsAt w v ars) (hc : chk N ars ≠ 0) : Calls Try.prog fo #[gv N v] w fun e w' => e = .returned nilV ∧ Below w.heap.size w w' := by
  have GR := Lib.hid (fun W (b : Below w.heap.size w W) => group_bad g (h.below b) hc)
  obtain ⟨a, cap, rfl, _⟩ := h
  obtain ⟨n, hn⟩ : ∃ n, ars.length = n := ⟨_, rfl⟩
  rw [hn] at GR ⊢
  obtain ⟨W1, hW1⟩ : ∃ W1, w.alloc (.cells #[.int .i64 N, .slice a n cap] 33) = W1 := ⟨_, rfl⟩
  have r1 : Row W1 w.heap.size 33 [.int .i64 N, .slice a n cap] := by rw [← hW1]; exact Row.new _ _ _
  have q0 := r1.cell (i := 0) rfl; have q1 := r1.cell (i := 1) rfl
  have BB := Lib.hid (show Below w.heap.size w W1 by rw [← hW1]; exact below_al _ _)
  clear r1 hc hn
  rcases hgo with ⟨rfl, rfl⟩ | ⟨rfl, rfl⟩
  · go_enter Try.func38, Try.ntmps38
    go_wp2_with fail
    refine (GR.out _ BB.out).mono ?_; rintro e w3 ⟨rfl, b⟩
    have FB := Lib.hid (BB.out.trans (b.mono BB.out.size))
    clear b
    go_wp2_with fail
    go_ret
    exact ⟨rfl, FB.out⟩
  · go_enter Try.func40, Try.ntmps40
    go_wp2_with fail
    refine (GR.out _ BB.out).mono ?_; rintro e w3 ⟨rfl, b⟩
    have FB := Lib.hid (BB.out.trans (b.mono BB.out.size))
    clear b
    go_wp2_with fail
    go_ret
    exact ⟨rfl, FB.out⟩
def RPost (ls : List (List Int)) (w : World) (e : Ending) (w' : World) : Prop := ∃ u, e = .returned u ∧ RowsAt w' u ls ∧ Below w.heap.size w w'
theorem out_all {w : World} {N : Int} {v : Value} {ars : List (Int × Int)} (h : ArcsAt w v ars) : Calls Try.prog 38 #[gv N v] w (RPost (gOf Prod.fst N ars) w) := by
  by_cases hc : chk N ars = 0
  · obtain ⟨m, rfl⟩ := chk_nat hc
    rw [gOf_ok hc]; exact out_any h hc
  · rw [gOf_no hc]
    refine (end_any 38 59 (Or.inl ⟨rfl, rfl⟩) h hc).mono ?_
    rintro e w' ⟨rfl, b⟩
    exact ⟨_, rfl, rows_nil _, b⟩
theorem in_all {w : World} {N : Int} {v : Value} {ars : List (Int × Int)} (h : ArcsAt w v ars) : Calls Try.prog 40 #[gv N v] w (RPost (gOf Prod.snd N ars) w) := by
  by_cases hc : chk N ars = 0
  · obtain ⟨m, rfl⟩ := chk_nat hc
    rw [gOf_ok hc]; exact in_any h hc
  · rw [gOf_no hc]
    refine (end_any 40 60 (Or.inr ⟨rfl, rfl⟩) h hc).mono ?_
    rintro e w' ⟨rfl, b⟩
    exact ⟨_, rfl, rows_nil _, b⟩
theorem outr_all {w : World} {N : Int} {v : Value} {ars : List (Int × Int)} (h : ArcsAt w v ars) : Calls Try.prog 39 #[gv N v] w (RPost (gOf Prod.fst N ars) w) := by
  by_cases hc : chk N ars = 0
  · obtain ⟨m, rfl⟩ := chk_nat hc
    rw [gOf_ok hc]; exact outr_any h hc
  · rw [gOf_no hc]
    refine (outr_bad h hc).mono ?_
    rintro e w' ⟨rfl, b⟩
    exact ⟨_, rfl, rows_nil _, b⟩
theorem flip_get (l : List (Int × Int)) (i : Nat) : (l.map flip).getD i (0, 0) = flip (l.getD i (0, 0)) := by
  rw [List.getD, List.getD, List.getElem?_map]
  cases l[i]? <;> rfl
theorem bad_flip (N : Int) (a : Int × Int) : bad N (flip a) ↔ bad N a := by unfold bad flip; dsimp only; omega
theorem chk_flip (N : Int) (l : List (Int × Int)) : chk N (l.map flip) = chk N l := by
  by_cases h : long N l.length
  · rw [chk_long h, chk_long (by rw [List.length_map]; exact h)]
  · by_cases h2 : ∃ j, j < l.length ∧ bad N (l.getD j (0, 0))
    · obtain ⟨j, hj, hb⟩ := h2
      rw [chk_bad h hj hb, chk_bad (by rw [List.length_map]; exact h) (j := j) (by rw [List.length_map]; exact hj) (by rw [flip_get, bad_flip]; exact hb)]
    · rw [chk_ok h (fun j hj hb => h2 ⟨j, hj, hb⟩), chk_ok (by rw [List.length_map]; exact h) (fun j hj hb => h2 ⟨j, by rw [List.length_map] at hj; exact hj, by rw [flip_get, bad_flip] at hb; exact hb⟩)]
theorem groups_flip (l : List (Int × Int)) (k m : Nat) : groups Prod.fst (l.map flip) k m = groups Prod.snd l k m := by
  unfold groups ends
  congr 1
  funext v
  congr 1
  apply List.filter_congr
  intro i _
  rw [flip_get]; rfl
theorem gOf_flip {N : Int} {l : List (Int × Int)} (h : chk N l = 0) : gOf Prod.fst N (l.map flip) = gOf Prod.snd N l := by
  unfold gOf; rw [chk_flip, if_pos h, if_pos h, List.length_map, groups_flip]
theorem inr_all {w : World} {N : Int} {v : Value} {ars : List (Int × Int)} (h : ArcsAt w v ars) (hl : ars.length ≤ 60) : Calls Try.prog 41 #[gv N v] w (RPost (gOf Prod.snd N ars) w) := by
  have A0 := h
  obtain ⟨a, cap, rfl, _⟩ := h
  obtain ⟨W1, hW1⟩ : ∃ W1, w.alloc (.cells #[.int .i64 N, .slice a ars.length cap] 33) = W1 := ⟨_, rfl⟩
  have r1 : Row W1 w.heap.size 33 [.int .i64 N, .slice a ars.length cap] := by rw [← hW1]; exact Row.new _ _ _
  have q0 := r1.cell (i := 0) rfl; have q1 := r1.cell (i := 1) rfl
  have BB := Lib.hid (show Below w.heap.size w W1 by rw [← hW1]; exact below_al _ _)
  by_cases hc : chk N ars = 0
  · have RW := Lib.hid (revr_any (N := N) (A0.below BB.out) hc (by omega))
    have GF := Lib.hid (gOf_flip hc)
    obtain ⟨LS, hLS⟩ : ∃ LS, gOf Prod.snd N ars = LS := ⟨_, rfl⟩
    rw [hLS] at GF ⊢
    obtain ⟨n, hn⟩ : ∃ n, ars.length = n := ⟨_, rfl⟩
    rw [hn] at hW1 q1 RW ⊢
    have HN := Lib.hid hn
    clear r1 A0 hc hn hl hLS
    go_enter Try.func41, Try.ntmps41
    go_wp2_with fail
    refine RW.out.mono ?_; rintro e w3 ⟨u, rfl, au, b⟩
    have AU := Lib.hid au; have B3 := Lib.hid (BB.out.trans (b.mono BB.out.size))
    clear au b
    go_wp2_with fail
    refine (outr_all AU.out).mono ?_; rintro e w4 ⟨u2, rfl, ru, b⟩
    rw [GF.out] at ru
    have RU := Lib.hid ru; have B4 := Lib.hid (B3.out.trans (b.mono B3.out.size))
    clear ru b
    go_wp2_with fail
    go_ret
    exact ⟨u2, rfl, RU.out, B4.out⟩
  · have RW := Lib.hid (revr_bad (N := N) (A0.below BB.out) hc)
    rw [gOf_no hc]
    obtain ⟨n, hn⟩ : ∃ n, ars.length = n := ⟨_, rfl⟩
    rw [hn] at hW1 q1 RW ⊢
    clear r1 A0 hc hn hl
    go_enter Try.func41, Try.ntmps41
    go_wp2_with fail
    refine RW.out.mono ?_; rintro e w3 ⟨rfl, b⟩
    have B3 := Lib.hid (BB.out.trans (b.mono BB.out.size))
    clear b
    go_wp2_with fail
    refine (outr_all (arcs_nil w3)).mono ?_; rintro e w4 ⟨u2, rfl, ru, b⟩
    have e0 : gOf Prod.fst 0 [] = [] := by decide
    rw [e0] at ru
    have RU := Lib.hid ru; have B4 := Lib.hid (B3.out.trans (b.mono B3.out.size))
    clear ru b e0
    go_wp2_with fail
    go_ret
    exact ⟨u2, rfl, RU.out, B4.out⟩
set_option maxRecDepth 100000 in
set_option maxHeartbeats 8000000 in
theorem graphArcs_few {w : World} {N : Int} {v : Value} {ars : List (Int × Int)} (h : ArcsAt w v ars) (hf : fewB N ars.length = true) : Calls Try.prog 9 #[gv N v] w fun e w' => e = .returned (.bool true) ∧ Below w.heap.size w w' := by
  have hl : ars.length ≤ 60 := by unfold fewB at hf; simp at hf; omega
  have SM := Lib.hid (gOf_small Prod.fst N hl); have SN := Lib.hid (gOf_small Prod.snd N hl)
  have A0 := h
  obtain ⟨a, cap, rfl, _⟩ := h
  obtain ⟨W1, hW1⟩ : ∃ W1, w.alloc (.cells #[.int .i64 N, .slice a ars.length cap] 33) = W1 := ⟨_, rfl⟩
  obtain ⟨B0, hB0⟩ : ∃ B0, w.heap.size = B0 := ⟨_, rfl⟩
  have r1 : Row W1 B0 33 [.int .i64 N, .slice a ars.length cap] := by rw [← hW1, ← hB0]; exact Row.new _ _ _
  have b1 : Below w.heap.size w W1 := by rw [← hW1]; exact below_al _ _
  have C1 := Lib.hid (fun W (b : Below W1.heap.size W1 W) => out_all (N := N) ((A0.below b1).below b))
  have C2 := Lib.hid (fun W (b : Below W1.heap.size W1 W) => outr_all (N := N) ((A0.below b1).below b))
  have C3 := Lib.hid (fun W (b : Below W1.heap.size W1 W) => in_all (N := N) ((A0.below b1).below b))
  have C4 := Lib.hid (fun W (b : Below W1.heap.size W1 W) => inr_all (N := N) ((A0.below b1).below b) hl)
  have FW := few37_any N ars.length cap a
  rw [hf] at FW
  have FF := Lib.hid FW
  obtain ⟨n, hn⟩ : ∃ n, ars.length = n := ⟨_, rfl⟩
  rw [hn] at hW1 r1 FF C1 C2 C3 C4 ⊢
  have BB := Lib.hid b1; have R1 := Lib.hid r1
  have q0 := r1.cell (i := 0) rfl; have q1 := r1.cell (i := 1) rfl
  clear A0 b1 r1 FW hn hl hf
  go_enter Try.func9, Try.ntmps9
  go_wp2_with fail
  refine (FF.out _).mono ?_; rintro e w3 ⟨rfl, b⟩
  have B3 := Lib.hid b
  have r3 := R1.out.below b R1.out.lt
  clear b q0 q1 hW1
  have q0 := r3.cell (i := 0) rfl; have q1 := r3.cell (i := 1) rfl
  clear r3
  go_wp2_with fail
  have S0 : Hid (∀ W, W = w3.drew → Below W1.heap.size W1 W ∧ W.cell? ⟨B0, 0, none⟩ = some (.int .i64 N) ∧ W.cell? ⟨B0, 1, none⟩ = some (.slice a n cap)) := by
    intro W e0; subst e0
    exact ⟨B3.out.drew, q0, q1⟩
  refine wp_region_held_drew (S := fun W => Below W1.heap.size W1 W ∧ W.cell? ⟨B0, 0, none⟩ = some (.int .i64 N) ∧ W.cell? ⟨B0, 1, none⟩ = some (.slice a n cap)) (by kernel_rfl) (S0.out _ rfl) (fun hHeld => ?_)
  clear S0
  refine wpAnyH_take (i := 0) (v := ?_) rfl (by kernel_rfl) (by kernel_rfl) (by kernel_rfl) (fun _ _ _ h => h) (Or.inl ⟨by rfl, ?_⟩) (by assumption) ?_
  rotate_left 1
  · (intro w hSw; (try dsimp only at hSw); first | (go_simp; done) | (go_simp; with_reducible rfl))
  simp only [Act.put, List.getElem_toArray, List.getElem_cons_zero, List.setIfInBounds_toArray, List.set_cons_zero, List.set_cons_succ]
  refine wpAnyH_take (i := 2) (v := ?_) rfl (by kernel_rfl) (by kernel_rfl) (by kernel_rfl) (fun _ _ _ h => h) (Or.inl ⟨by rfl, ?_⟩) (by assumption) ?_
  rotate_left 1
  · (intro w hSw; (try dsimp only at hSw); first | (go_simp; done) | (go_simp; with_reducible rfl))
  simp only [Act.put, List.getElem_toArray, List.getElem_cons_zero, List.getElem_cons_succ, List.setIfInBounds_toArray, List.set_cons_zero, List.set_cons_succ]
  refine wpAnyH_ready (rs := [1]) (by kernel_rfl) (by simp) ?_
  refine AllReadyH.cons rfl (fun K hK => ?_) AllReadyH.nil
  have hS1 := Lib.hid hHeld
  go_simp
  go_wp2_with (go_at_call 38; (with_reducible refine (C1.out _ hS1.out.1).mono ?_); rintro en w4 ⟨u1, rfl, a4, b4⟩)
  have A4 := Lib.hid a4
  clear a4
  refine hK.out _ _ (s_keep3 R1.out.lt b4 hS1.out) (fun hHeld2 => ?_)
  clear b4
  clear hK K hHeld hS1; have hHeld := hHeld2; clear hHeld2
  refine wpAnyH_ready (rs := [3]) (by kernel_rfl) (by simp) ?_
  refine AllReadyH.cons rfl (fun K hK => ?_) AllReadyH.nil
  have hS1 := Lib.hid hHeld
  go_simp
  go_wp2_with (go_at_call 39; (with_reducible refine (C2.out _ hS1.out.1).mono ?_); rintro en w5 ⟨u2, rfl, a5, b5⟩)
  have A5 := Lib.hid a5
  have A4b := Lib.hid (A4.out.below b5)
  clear a5
  refine hK.out _ _ (s_keep3 R1.out.lt b5 hS1.out) (fun hHeld2 => ?_)
  clear b5
  clear hK K hHeld hS1; have hHeld := hHeld2; clear hHeld2
  refine wpAnyH_ready (rs := [4]) (by kernel_rfl) (by simp) ?_
  refine AllReadyH.cons rfl (fun K hK => ?_) AllReadyH.nil
  have hS1 := Lib.hid hHeld
  go_simp
  go_wp2_with (go_at_call 37; (with_reducible refine (lists_t A4b.out A5.out SM.out).mono ?_); rintro en w6 ⟨rfl, b6⟩)
  refine hK.out _ _ (s_keep3 R1.out.lt b6 hS1.out) (fun hHeld2 => ?_)
  clear b6
  clear hK K hHeld hS1; have hHeld := hHeld2; clear hHeld2
  refine wpAnyH_take (i := 5) (v := ?_) rfl (by kernel_rfl) (by kernel_rfl) (by kernel_rfl) (fun _ _ _ h => h) (Or.inl ⟨by rfl, ?_⟩) (by assumption) ?_
  rotate_left 1
  · (intro w hSw; (try dsimp only at hSw); first | (go_simp; done) | (go_simp; with_reducible rfl))
  simp only [Act.put, List.getElem_toArray, List.getElem_cons_zero, List.getElem_cons_succ, List.setIfInBounds_toArray, List.set_cons_zero, List.set_cons_succ]
  refine wpAnyH_take (i := 6) (v := ?_) rfl (by kernel_rfl) (by kernel_rfl) (by kernel_rfl) (fun _ _ _ h => h) (Or.inl ⟨by rfl, ?_⟩) (by assumption) ?_
  rotate_left 1
  · (intro w hSw; (try dsimp only at hSw); first | (go_simp; done) | (go_simp; with_reducible rfl))
  simp only [Act.put, List.getElem_toArray, List.getElem_cons_zero, List.getElem_cons_succ, List.setIfInBounds_toArray, List.set_cons_zero, List.set_cons_succ]
  refine wpAnyH_take (i := 8) (v := ?_) rfl (by kernel_rfl) (by kernel_rfl) (by kernel_rfl) (fun _ _ _ h => h) (Or.inl ⟨by rfl, ?_⟩) (by assumption) ?_
  rotate_left 1
  · (intro w hSw; (try dsimp only at hSw); first | (go_simp; done) | (go_simp; with_reducible rfl))
  simp only [Act.put, List.getElem_toArray, List.getElem_cons_zero, List.getElem_cons_succ, List.setIfInBounds_toArray, List.set_cons_zero, List.set_cons_succ]
  refine wpAnyH_ready (rs := [7]) (by kernel_rfl) (by simp) ?_
  refine AllReadyH.cons rfl (fun K hK => ?_) AllReadyH.nil
  have hS1 := Lib.hid hHeld
  go_simp
  go_wp2_with (go_at_call 40; (with_reducible refine (C3.out _ hS1.out.1).mono ?_); rintro en w7 ⟨u3, rfl, a7, b7⟩)
  have A7 := Lib.hid a7
  clear a7
  refine hK.out _ _ (s_keep3 R1.out.lt b7 hS1.out) (fun hHeld2 => ?_)
  clear b7
  clear hK K hHeld hS1; have hHeld := hHeld2; clear hHeld2
  refine wpAnyH_ready (rs := [9]) (by kernel_rfl) (by simp) ?_
  refine AllReadyH.cons rfl (fun K hK => ?_) AllReadyH.nil
  have hS1 := Lib.hid hHeld
  go_simp
  go_wp2_with (go_at_call 41; (with_reducible refine (C4.out _ hS1.out.1).mono ?_); rintro en w8 ⟨u4, rfl, a8, b8⟩)
  have A8 := Lib.hid a8
  have A7b := Lib.hid (A7.out.below b8)
  clear a8
  refine hK.out _ _ (s_keep3 R1.out.lt b8 hS1.out) (fun hHeld2 => ?_)
  clear b8
  clear hK K hHeld hS1; have hHeld := hHeld2; clear hHeld2
  refine wpAnyH_ready (rs := [10]) (by kernel_rfl) (by simp) ?_
  refine AllReadyH.cons rfl (fun K hK => ?_) AllReadyH.nil
  have hS1 := Lib.hid hHeld
  go_simp
  go_wp2_with (go_at_call 37; (with_reducible refine (lists_t A7b.out A8.out SN.out).mono ?_); rintro en w9 ⟨rfl, b9⟩)
  refine hK.out _ _ (s_keep3 R1.out.lt b9 hS1.out) (fun hHeld2 => ?_)
  clear b9
  clear hK K hHeld hS1; have hHeld := hHeld2; clear hHeld2
  refine wpAnyH_take (i := 11) (v := ?_) rfl (by kernel_rfl) (by kernel_rfl) (by kernel_rfl) (fun _ _ _ h => h) (Or.inl ⟨by rfl, ?_⟩) (by assumption) ?_
  rotate_left 1
  · (intro w hSw; (try dsimp only at hSw); first | (go_simp; done) | (go_simp; with_reducible rfl))
  simp only [Act.put, List.getElem_toArray, List.getElem_cons_zero, List.getElem_cons_succ, List.setIfInBounds_toArray, List.set_cons_zero, List.set_cons_succ]
  refine wpAnyH_take (i := 12) (v := ?_) rfl (by kernel_rfl) (by kernel_rfl) (by kernel_rfl) (fun _ _ _ h => h) (Or.inl ⟨by rfl, ?_⟩) (by assumption) ?_
  rotate_left 1
  · (intro w hSw; (try dsimp only at hSw); first | (go_simp; done) | (go_simp; with_reducible rfl))
  simp only [Act.put, List.getElem_toArray, List.getElem_cons_zero, List.getElem_cons_succ, List.setIfInBounds_toArray, List.set_cons_zero, List.set_cons_succ]
  refine wpAnyH_ready (rs := [13]) (by kernel_rfl) (by simp) ?_
  refine AllReadyH.cons rfl (fun K hK => ?_) AllReadyH.nil
  have hS1 := Lib.hid hHeld
  go_simp
  go_wp2_with (go_at_call 31; (with_reducible refine (lives37_any _).mono ?_); rintro en wA ⟨rfl, bA⟩)
  refine hK.out _ _ (s_keep3 R1.out.lt bA hS1.out) (fun hHeld2 => ?_)
  clear bA
  clear hK K hHeld hS1; have hHeld := hHeld2; clear hHeld2
  refine wpAnyH_take (i := 14) (v := ?_) rfl (by kernel_rfl) (by kernel_rfl) (by kernel_rfl) (fun _ _ _ h => h) (Or.inl ⟨by rfl, ?_⟩) (by assumption) ?_
  rotate_left 1
  · (intro w hSw; (try dsimp only at hSw); first | (go_simp; done) | (go_simp; with_reducible rfl))
  simp only [Act.put, List.getElem_toArray, List.getElem_cons_zero, List.getElem_cons_succ, List.setIfInBounds_toArray, List.set_cons_zero, List.set_cons_succ]
  refine wpAnyH_take (i := 15) (v := ?_) rfl (by kernel_rfl) (by kernel_rfl) (by kernel_rfl) (fun _ _ _ h => h) (Or.inl ⟨by rfl, ?_⟩) (by assumption) ?_
  rotate_left 1
  · (intro w hSw; (try dsimp only at hSw); first | (go_simp; done) | (go_simp; with_reducible rfl))
  simp only [Act.put, List.getElem_toArray, List.getElem_cons_zero, List.getElem_cons_succ, List.setIfInBounds_toArray, List.set_cons_zero, List.set_cons_succ]
  have FB := Lib.hid (BB.out.trans (hHeld.1.mono BB.out.size))
  refine wpAnyH_done (by kernel_rfl) ?_ _
  clear hHeld
  go_wp2_with fail
  go_ret
  exact ⟨rfl, FB.out⟩
theorem graphArcs_many {w : World} {N : Int} {a : Option Addr} {n cap : Nat} (hf : fewB N n = false) : Calls Try.prog 9 #[gv N (.slice a n cap)] w fun e w' => e = .returned (.bool true) ∧ Below w.heap.size w w' := by
  obtain ⟨W1, hW1⟩ : ∃ W1, w.alloc (.cells #[.int .i64 N, .slice a n cap] 33) = W1 := ⟨_, rfl⟩
  have r1 : Row W1 w.heap.size 33 [.int .i64 N, .slice a n cap] := by rw [← hW1]; exact Row.new _ _ _
  have b1 : Below w.heap.size w W1 := by rw [← hW1]; exact below_al _ _
  have FW := few37_any N n cap a
  rw [hf] at FW
  have FF := Lib.hid FW; have BB := Lib.hid b1
  have q0 := r1.cell (i := 0) rfl; have q1 := r1.cell (i := 1) rfl
  clear FW b1 r1 hf
  go_enter Try.func9, Try.ntmps9
  go_wp2_with fail
  refine (FF.out _).mono ?_; rintro e w3 ⟨rfl, b⟩
  have B3 := Lib.hid (BB.out.trans (b.mono BB.out.size))
  clear b
  go_wp2_with fail
  refine (lives37_any _).mono ?_; rintro e w4 ⟨rfl, b⟩
  have B4 := Lib.hid (B3.out.trans (b.mono B3.out.size))
  clear b
  go_wp2_with fail
  go_ret
  exact ⟨rfl, B4.out⟩
abbrev graphArcs_zero0 : Value := gv 0 nilV
theorem graphArcs_open0 {H : Type} {enc : TypeId × Value → H} {W : World} {base b0 : Nat} {spare : Nat → Bool} {held : Bool} {r : Reach} {v : Value} {d : DataW H} {p : List MemPlace}
    (hv : Value.okWide Try.prog W r b0 33 v) (h : DataW.Trod enc Try.prog W base spare held 33 v d p) : IsG W v := graph_open hv h
theorem graphArcs_walk (v : Value) (w : World) (h : IsG w v) : Calls Try.prog 9 #[v] w fun e w' => e = .returned (.bool true) ∧ Below w.heap.size w w' := by
  obtain ⟨N, u, ars, rfl, ha⟩ := h
  by_cases hf : fewB N ars.length = true
  · exact graphArcs_few ha hf
  · obtain ⟨a, cap, rfl, _⟩ := ha
    exact graphArcs_many (by simpa using hf)
end Go.Proofs.Ythfecllgkldgfaa
