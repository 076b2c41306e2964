/- cmds: the reader's step. -/
import Derived.Test.YthlbenldgnjgcaaDoorKo
namespace Go.Proofs.YthlbenldgnjgcaaDoor
open Go.ChangeShapes Go.WideShapes Go.ChangeAt Go.RowKit Go.Joins Go.Deep

/- the reader: what is left, and where it is -/
abbrev Rdr (w : World) (B : Nat) (v : Value) (p : Pt) : Prop := Row w B 56 [v, .int .i64 p.1, .int .i64 p.2]
def stepB (p : Pt) (dx dy : Int) : Bool := decide (0 ≤ dx ∧ 0 ≤ dy ∧ inE (p.1 + uz dx, p.2 + uz dy))
def stepP (p : Pt) (dx dy : Int) : Pt := if 0 ≤ dx ∧ 0 ≤ dy then (p.1 + uz dx, p.2 + uz dy) else p
theorem uz_bd {x : Int} (h0 : 0 ≤ x) (h9 : x ≤ 9223372036854775807) : -4611686018427387904 ≤ uz x ∧ uz x ≤ 4611686018427387903 := by
  unfold uz; split <;> omega
theorem step_neg {w : World} {B : Nat} {dx dy : Int} (h : dx < 0 ∨ dy < 0) : Calls Tryd.prog 31 #[qp B, .int .i64 dx, .int .i64 dy] w fun e w' => e = .returned (.bool false) ∧ w' = w := by
  by_cases h0 : dx < 0
  · go_enter Tryd.func31, Tryd.ntmps31
    go_wp2_with fail
    go_ret
    exact ⟨rfl, rfl⟩
  · have h1 : dy < 0 := by omega
    clear h
    go_enter Tryd.func31, Tryd.ntmps31
    go_wp2_with fail
    go_ret
    exact ⟨rfl, rfl⟩
set_option maxRecDepth 100000 in
set_option maxHeartbeats 4000000 in
theorem step_pos {w : World} {B : Nat} {a : Option Addr} {n cap : Nat} {x y dx dy : Int} (h : Rdr w B (.slice a n cap) (x, y)) (hp : inE (x, y)) (h0 : 0 ≤ dx ∧ dx ≤ 9223372036854775807) (h1 : 0 ≤ dy ∧ dy ≤ 9223372036854775807) :
    Calls Tryd.prog 31 #[qp B, .int .i64 dx, .int .i64 dy] w fun e w' => e = .returned (.bool (decide (inE (x + uz dx, y + uz dy)))) ∧ Below ((w.setCell ⟨B, 1, none⟩ (.int .i64 (x + uz dx))).setCell ⟨B, 2, none⟩ (.int .i64 (y + uz dy))).heap.size ((w.setCell ⟨B, 1, none⟩ (.int .i64 (x + uz dx))).setCell ⟨B, 2, none⟩ (.int .i64 (y + uz dy))) w' := by
  have U0 := Lib.hid (fun W => uz_any dx h0.1 h0.2 W); have U1 := Lib.hid (fun W => uz_any dy h1.1 h1.2 W)
  have b0 := uz_bd h0.1 h0.2; have b1 := uz_bd h1.1 h1.2
  have n0 : ¬ dx < 0 := by omega
  have n1 : ¬ dy < 0 := by omega
  unfold inE at hp
  dsimp only at hp
  obtain ⟨u, hu⟩ : ∃ u, uz dx = u := ⟨_, rfl⟩
  obtain ⟨v, hv⟩ : ∃ v, uz dy = v := ⟨_, rfl⟩
  rw [hu] at U0 b0 ⊢; rw [hv] at U1 b1 ⊢
  have e1 : IntKind.i64.wrap (x + u) = x + u := by rw [IntKind.wrap_i64]; omega
  have e2 : IntKind.i64.wrap (y + v) = y + v := by rw [IntKind.wrap_i64]; omega
  obtain ⟨X, hX⟩ : ∃ X, x + u = X := ⟨_, rfl⟩
  obtain ⟨Y, hY⟩ : ∃ Y, y + v = Y := ⟨_, rfl⟩
  rw [hX] at e1 ⊢; rw [hY] at e2 ⊢
  obtain ⟨W1, hW1⟩ : ∃ W1, (w.setCell ⟨B, 1, none⟩ (.int .i64 X)).setCell ⟨B, 2, none⟩ (.int .i64 Y) = W1 := ⟨_, rfl⟩
  have r1 : Row W1 B 56 [.slice a n cap, .int .i64 X, .int .i64 Y] := by rw [← hW1]; exact (h.set (i := 1) _).set (i := 2) _
  have c1 := h.cell (i := 1) rfl; have c2 := h.cell (i := 2) rfl; have f1 := h.fr (i := 1); have f2 := h.fr (i := 2)
  have d1 := r1.cell (i := 1) rfl; have d2 := r1.cell (i := 2) rfl
  have IN := Lib.hid (inExtent_any X Y)
  rw [hW1]
  have HU := Lib.hid hu; have HV := Lib.hid hv
  clear h r1 h0 h1 hp b0 b1 hu hv
  go_enter Tryd.func31, Tryd.ntmps31
  go_wp2_with fail
  refine wp_region_drop (fun W => W.cell? ⟨B, 1, none⟩ = some (.int .i64 x) ∧ W.cell? ⟨B, 2, none⟩ = some (.int .i64 y)) 20 (by kernel_rfl) ⟨c1, c2⟩ (fun hHeld => ?_)
  refine wpAnyD_pure (i := 0) (v := ?_) rfl (by kernel_rfl) (by kernel_rfl) (by kernel_rfl) (by rfl) (fun _ _ _ h => h) (Or.inl ⟨by rfl, ?_⟩) (by assumption) ?_
  rotate_left 1
  · (intro w; first | (go_simp; done) | (go_simp; with_reducible rfl))
  simp only [Act.put, List.getElem_toArray, List.getElem_cons_zero, List.setIfInBounds_toArray, List.set_cons_zero, List.set_cons_succ]
  refine wpAnyD_pure (i := 1) (v := ?_) rfl (by kernel_rfl) (by kernel_rfl) (by kernel_rfl) (by rfl) (fun _ _ _ h => h) (Or.inl ⟨by rfl, ?_⟩) (by assumption) ?_
  rotate_left 1
  · (intro w; first | (go_simp; done) | (go_simp; with_reducible rfl))
  simp only [Act.put, List.getElem_toArray, List.getElem_cons_zero, List.getElem_cons_succ, List.setIfInBounds_toArray, List.set_cons_zero, List.set_cons_succ]
  refine wpAnyD_pure (i := 2) (v := ?_) rfl (by kernel_rfl) (by kernel_rfl) (by kernel_rfl) (by rfl) (fun _ _ _ h => h) (Or.inl ⟨by rfl, ?_⟩) (by assumption) ?_
  rotate_left 1
  · (intro w; first | (go_simp; done) | (go_simp; with_reducible rfl))
  simp only [Act.put, List.getElem_toArray, List.getElem_cons_zero, List.getElem_cons_succ, List.setIfInBounds_toArray, List.set_cons_zero, List.set_cons_succ]
  refine wpAnyD_pure (i := 3) (v := ?_) rfl (by kernel_rfl) (by kernel_rfl) (by kernel_rfl) (by rfl) (fun _ _ _ h => h) (Or.inl ⟨by rfl, ?_⟩) (by assumption) ?_
  rotate_left 1
  · (intro w; first | (go_simp; done) | (go_simp; with_reducible rfl))
  simp only [Act.put, List.getElem_toArray, List.getElem_cons_zero, List.getElem_cons_succ, List.setIfInBounds_toArray, List.set_cons_zero, List.set_cons_succ]
  refine wpAnyD_pure (i := 4) (v := ?_) rfl (by kernel_rfl) (by kernel_rfl) (by kernel_rfl) (by rfl) (fun _ _ _ h => h) (Or.inl ⟨by rfl, ?_⟩) (by assumption) ?_
  rotate_left 1
  · (intro w; first | (go_simp; done) | (go_simp; with_reducible rfl))
  simp only [Act.put, List.getElem_toArray, List.getElem_cons_zero, List.getElem_cons_succ, List.setIfInBounds_toArray, List.set_cons_zero, List.set_cons_succ]
  refine wpAnyD_take (i := 5) (v := ?_) rfl (by kernel_rfl) (by kernel_rfl) (by kernel_rfl) (by kernel_rfl) (fun _ _ _ h => h) (Or.inl ⟨by rfl, ?_⟩) (by assumption) ?_
  rotate_left 1
  · (intro w hSw; (try dsimp only at hSw); first | (go_simp; done) | (go_simp; with_reducible rfl))
  simp only [Act.put, List.getElem_toArray, List.getElem_cons_zero, List.getElem_cons_succ, List.setIfInBounds_toArray, List.set_cons_zero, List.set_cons_succ]
  refine wpAnyD_pure (i := 6) (v := ?_) rfl (by kernel_rfl) (by kernel_rfl) (by kernel_rfl) (by rfl) (fun _ _ _ h => h) (Or.inl ⟨by rfl, ?_⟩) (by assumption) ?_
  rotate_left 1
  · (intro w; first | (go_simp; done) | (go_simp; with_reducible rfl))
  simp only [Act.put, List.getElem_toArray, List.getElem_cons_zero, List.getElem_cons_succ, List.setIfInBounds_toArray, List.set_cons_zero, List.set_cons_succ]
  refine wpAnyD_pure (i := 9) (v := ?_) rfl (by kernel_rfl) (by kernel_rfl) (by kernel_rfl) (by rfl) (fun _ _ _ h => h) (Or.inl ⟨by rfl, ?_⟩) (by assumption) ?_
  rotate_left 1
  · (intro w; first | (go_simp; done) | (go_simp; with_reducible rfl))
  simp only [Act.put, List.getElem_toArray, List.getElem_cons_zero, List.getElem_cons_succ, List.setIfInBounds_toArray, List.set_cons_zero, List.set_cons_succ]
  refine wpAnyD_pure (i := 10) (v := ?_) rfl (by kernel_rfl) (by kernel_rfl) (by kernel_rfl) (by rfl) (fun _ _ _ h => h) (Or.inl ⟨by rfl, ?_⟩) (by assumption) ?_
  rotate_left 1
  · (intro w; first | (go_simp; done) | (go_simp; with_reducible rfl))
  simp only [Act.put, List.getElem_toArray, List.getElem_cons_zero, List.getElem_cons_succ, List.setIfInBounds_toArray, List.set_cons_zero, List.set_cons_succ]
  refine wpAnyD_pure (i := 11) (v := ?_) rfl (by kernel_rfl) (by kernel_rfl) (by kernel_rfl) (by rfl) (fun _ _ _ h => h) (Or.inl ⟨by rfl, ?_⟩) (by assumption) ?_
  rotate_left 1
  · (intro w; first | (go_simp; done) | (go_simp; with_reducible rfl))
  simp only [Act.put, List.getElem_toArray, List.getElem_cons_zero, List.getElem_cons_succ, List.setIfInBounds_toArray, List.set_cons_zero, List.set_cons_succ]
  refine wpAnyD_pure (i := 12) (v := ?_) rfl (by kernel_rfl) (by kernel_rfl) (by kernel_rfl) (by rfl) (fun _ _ _ h => h) (Or.inl ⟨by rfl, ?_⟩) (by assumption) ?_
  rotate_left 1
  · (intro w; first | (go_simp; done) | (go_simp; with_reducible rfl))
  simp only [Act.put, List.getElem_toArray, List.getElem_cons_zero, List.getElem_cons_succ, List.setIfInBounds_toArray, List.set_cons_zero, List.set_cons_succ]
  refine wpAnyD_take (i := 13) (v := ?_) rfl (by kernel_rfl) (by kernel_rfl) (by kernel_rfl) (by kernel_rfl) (fun _ _ _ h => h) (Or.inl ⟨by rfl, ?_⟩) (by assumption) ?_
  rotate_left 1
  · (intro w hSw; (try dsimp only at hSw); first | (go_simp; done) | (go_simp; with_reducible rfl))
  simp only [Act.put, List.getElem_toArray, List.getElem_cons_zero, List.getElem_cons_succ, List.setIfInBounds_toArray, List.set_cons_zero, List.set_cons_succ]
  refine wpAnyD_pure (i := 14) (v := ?_) rfl (by kernel_rfl) (by kernel_rfl) (by kernel_rfl) (by rfl) (fun _ _ _ h => h) (Or.inl ⟨by rfl, ?_⟩) (by assumption) ?_
  rotate_left 1
  · (intro w; first | (go_simp; done) | (go_simp; with_reducible rfl))
  simp only [Act.put, List.getElem_toArray, List.getElem_cons_zero, List.getElem_cons_succ, List.setIfInBounds_toArray, List.set_cons_zero, List.set_cons_succ]
  refine wpAnyD_one (i := 7) (by decide +kernel) (by decide) rfl (fun K hK => ?_)
  go_simp
  go_wp2_with (go_at_call 33; (with_reducible refine (U0.out _).mono ?_); rintro en w8 ⟨rfl, rfl⟩)
  refine hK.out _ _ hHeld (fun _ => ?_)
  clear hK K
  refine wpAnyD_pure (i := 8) (v := ?_) rfl (by kernel_rfl) (by kernel_rfl) (by kernel_rfl) (by rfl) (fun _ _ _ h => h) (Or.inl ⟨by rfl, ?_⟩) (by assumption) ?_
  rotate_left 1
  · (intro w; first | (go_simp; done) | (go_simp; with_reducible rfl))
  simp only [Act.put, List.getElem_toArray, List.getElem_cons_zero, List.getElem_cons_succ, List.setIfInBounds_toArray, List.set_cons_zero, List.set_cons_succ]
  refine wpAnyD_one (i := 15) (by decide +kernel) (by decide) rfl (fun K hK => ?_)
  go_simp
  go_wp2_with (go_at_call 33; (with_reducible refine (U1.out _).mono ?_); rintro en w8 ⟨rfl, rfl⟩)
  refine hK.out _ _ hHeld (fun _ => ?_)
  clear hK K
  refine wpAnyD_pure (i := 16) (v := ?_) rfl (by kernel_rfl) (by kernel_rfl) (by kernel_rfl) (by rfl) (fun _ _ _ h => h) (Or.inl ⟨by rfl, ?_⟩) (by assumption) ?_
  rotate_left 1
  · (intro w; first | (go_simp; done) | (go_simp; with_reducible rfl))
  simp only [Act.put, List.getElem_toArray, List.getElem_cons_zero, List.getElem_cons_succ, List.setIfInBounds_toArray, List.set_cons_zero, List.set_cons_succ]
  refine wpAnyD_pure (i := 17) (v := ?_) rfl (by kernel_rfl) (by kernel_rfl) (by kernel_rfl) (by rfl) (fun _ _ _ h => h) (Or.inl ⟨by rfl, ?_⟩) (by assumption) ?_
  rotate_left 1
  · (intro w; first | (go_simp; done) | (go_simp; with_reducible rfl))
  simp only [Act.put, List.getElem_toArray, List.getElem_cons_zero, List.getElem_cons_succ, List.setIfInBounds_toArray, List.set_cons_zero, List.set_cons_succ]
  refine wpAnyD_pure (i := 18) (v := ?_) rfl (by kernel_rfl) (by kernel_rfl) (by kernel_rfl) (by rfl) (fun _ _ _ h => h) (Or.inl ⟨by rfl, ?_⟩) (by assumption) ?_
  rotate_left 1
  · (intro w; first | (go_simp; done) | (go_simp; with_reducible rfl))
  simp only [Act.put, List.getElem_toArray, List.getElem_cons_zero, List.getElem_cons_succ, List.setIfInBounds_toArray, List.set_cons_zero, List.set_cons_succ]
  refine wpAnyD_pure (i := 19) (v := ?_) rfl (by kernel_rfl) (by kernel_rfl) (by kernel_rfl) (by rfl) (fun _ _ _ h => h) (Or.inl ⟨by rfl, ?_⟩) (by assumption) ?_
  rotate_left 1
  · (intro w; first | (go_simp; done) | (go_simp; with_reducible rfl))
  simp only [Act.put, List.getElem_toArray, List.getElem_cons_zero, List.getElem_cons_succ, List.setIfInBounds_toArray, List.set_cons_zero, List.set_cons_succ]
  clear hHeld
  refine wpAnyD_drop (by kernel_rfl) rfl (fun K hK => ?_)
  go_simp
  refine hK.out _ _ ?_
  clear hK K
  refine wpAny_done (by kernel_rfl) ?_ _
  have IN2 := Lib.hid (inExtent_any X Y W1.drew)
  clear c1 c2 f1 f2
  go_wp2_with fail
  refine IN2.out.mono ?_; rintro e w8 ⟨rfl, b8⟩
  have B8 : Hid (Below W1.heap.size W1 w8) := (Below.drew (Below.refl _ W1)).trans b8
  clear b8
  go_wp2_with fail
  go_ret
  exact ⟨rfl, B8.out⟩
end Go.Proofs.YthlbenldgnjgcaaDoor
