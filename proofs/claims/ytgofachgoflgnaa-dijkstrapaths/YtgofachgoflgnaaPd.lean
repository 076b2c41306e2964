/- pq: children. -/
import Derived.Test.YtgofachgoflgnaaPc
import Derived.Deep.RegionHeld
namespace Go.Proofs.Ytgofachgoflgnaa
open Go.ChangeShapes Go.WideShapes Go.ChangeAt Go.RowKit Go.Joins Go.Deep

def A2 (w : World) (k : Nat) (x y : Int) : Prop := w.heap[k]? = some (.cells #[.int .i64 x, .int .i64 y] 87)
theorem A2.c0 {w : World} {k : Nat} {x y : Int} (h : A2 w k x y) : w.cell? ⟨k, 0, none⟩ = some (.int .i64 x) := by unfold A2 at h; simp [World.cell?, h]
theorem A2.c1 {w : World} {k : Nat} {x y : Int} (h : A2 w k x y) : w.cell? ⟨k, 1, none⟩ = some (.int .i64 y) := by unfold A2 at h; simp [World.cell?, h]
theorem A2.fr {w : World} {k i : Nat} {x y : Int} (h : A2 w k x y) : w.frozen? ⟨k, i, none⟩ = false := by unfold A2 at h; simp [World.frozen?, h]
theorem A2.new (w : World) (x y : Int) : A2 (w.alloc (.cells #[.int .i64 x, .int .i64 y] 87)) w.heap.size x y := by
  show (w.heap.push _)[w.heap.size]? = _
  rw [Array.getElem?_push, if_pos rfl]
theorem A2.below {w w' : World} {k B : Nat} {x y : Int} (h : A2 w k x y) (hb : Below B w w') (hn : k < B) : A2 w' k x y := by
  unfold A2; rw [hb.block _ hn]; exact h
theorem A2.set0 {w : World} {k : Nat} {x y u : Int} (h : A2 w k x y) : A2 (w.setCell ⟨k, 0, none⟩ (.int .i64 u)) k u y := by
  unfold A2 at h ⊢; rw [heap_setCell_same _ _ _ _ _ _ h]; rfl
theorem A2.set1 {w : World} {k : Nat} {x y u : Int} (h : A2 w k x y) : A2 (w.setCell ⟨k, 1, none⟩ (.int .i64 u)) k x u := by
  unfold A2 at h ⊢; rw [heap_setCell_same _ _ _ _ _ _ h]; rfl
theorem A2.other {w : World} {k : Nat} {x y : Int} {u : Value} {p : Addr} (h : A2 w k x y) (hn : k ≠ p.block) : A2 (w.setCell p u) k x y := by
  unfold A2; rw [Below.heap_setCell _ _ _ _ hn]; exact h
/- the item of a child, or of the position itself -/
def chd (hs : List Int) (i c : Nat) : Int := if c < hs.length then hs.getD c 0 else hs.getD i 0
set_option maxRecDepth 100000 in
set_option maxHeartbeats 4000000 in
theorem children_any {w : World} {qb base hc i : Nat} {ha : Option Addr} {vk vp : Value} {hs : List Int} (h : QCells w qb (.slice ha hs.length hc) vk vp) (hh : Ints w base (.slice ha hs.length hc) hs) (hi : i < hs.length) (hml : hs.length ≤ 1048576) :
    Calls Try.prog 45 #[qp qb, .int .i64 i] w fun e w' => e = .returned (.agg #[.int .i64 (chd hs i (2 * i + 1)), .int .i64 (chd hs i (2 * i + 2))]) ∧ Below w.heap.size w w' := by
  obtain ⟨hb, rfl, hbb, hbl, hcell, _, _⟩ := hh.block (by omega)
  have c0 := h.c0
  have kx := (hcell i hi).1
  have HC := Lib.hid hcell; have HQ := Lib.hid h; have HB := Lib.hid hbl
  obtain ⟨x, hx⟩ : ∃ x, hs.getD i 0 = x := ⟨_, rfl⟩
  obtain ⟨m, hm⟩ : ∃ m, hs.length = m := ⟨_, rfl⟩
  rw [hx] at kx; rw [hm] at c0 hi hml
  have FX := Lib.hid hx; have FM := Lib.hid hm
  have i0 : (0 : Int) ≤ (i : Int) := by omega
  have i1 : (i : Int) < (m : Int) := by omega
  obtain ⟨W1, hW1⟩ : ∃ W1, w.alloc (Obj.cells #[.int .i64 0, .int .i64 0] 87) = W1 := ⟨_, rfl⟩
  have b1 : Below w.heap.size w W1 := by rw [← hW1]; exact (Below.refl _ _).alloc (Nat.le_refl _) _
  have z1 : W1.heap.size = w.heap.size + 1 := by rw [← hW1, World.size_alloc]
  have a1 := A2.new w 0 0
  rw [hW1] at a1
  have k1 := old b1 c0; have k2 := old b1 kx
  obtain ⟨W2, hW2⟩ : ∃ W2, W1.drew.alloc (Obj.cells #[.int .i64 0, .int .i64 0] 87) = W2 := ⟨_, rfl⟩
  have b2 : Below W1.heap.size W1 W2 := by rw [← hW2]; exact ((Below.refl _ _).drew).alloc (Nat.le_refl _) _
  have a2 : A2 W2 (w.heap.size + 1) 0 0 := by rw [← hW2, ← z1]; exact A2.new W1.drew 0 0
  obtain ⟨W3, hW3⟩ : ∃ W3, (W2.setCell ⟨w.heap.size + 1, 0, none⟩ (.int .i64 x)).setCell ⟨w.heap.size + 1, 1, none⟩ (.int .i64 x) = W3 := ⟨_, rfl⟩
  have a3 : A2 W3 (w.heap.size + 1) x x := by rw [← hW3]; exact a2.set0.set1
  have b3 : Below (w.heap.size + 1) W2 W3 := by rw [← hW3]; exact ((Below.refl _ _).setCell (show w.heap.size + 1 ≤ w.heap.size + 1 from Nat.le_refl _) _).setCell (show w.heap.size + 1 ≤ w.heap.size + 1 from Nat.le_refl _) _
  have f0 := a2.fr (i := 0); have f1 := a2.fr (i := 1); have e0 := a2.c0; have e1 := a2.c1
  have SA : Hid (Below w.heap.size w W1.drew ∧ A2 W1.drew w.heap.size 0 0 ∧ W1.drew.cell? ⟨qb, 0, none⟩ = some (.slice (some ⟨hb, 0, none⟩) m hc) ∧ W1.drew.cell? ⟨hb, i, none⟩ = some (.int .i64 x)) := ⟨b1.drew, a1, k1, k2⟩
  have a1' := a1.below b2 (by omega)
  have SB : Hid (Below w.heap.size w W2 ∧ A2 W2 w.heap.size 0 0 ∧ W2.cell? ⟨qb, 0, none⟩ = some (.slice (some ⟨hb, 0, none⟩) m hc) ∧ W2.cell? ⟨hb, i, none⟩ = some (.int .i64 x)) := ⟨b1.trans (b2.mono (by omega)), a1', old b2 k1, old b2 k2⟩
  have b3' := b3.mono (Nat.le_succ w.heap.size)
  have SC : Hid (Below w.heap.size w W3 ∧ A2 W3 w.heap.size 0 0 ∧ W3.cell? ⟨qb, 0, none⟩ = some (.slice (some ⟨hb, 0, none⟩) m hc) ∧ W3.cell? ⟨hb, i, none⟩ = some (.int .i64 x)) := ⟨SB.out.1.trans b3', a1'.below b3 (by omega), by rw [b3.cell (show qb < _ by have : qb < w.heap.size := q_cell_lt c0; omega)]; exact SB.out.2.2.1, by rw [b3.cell (show hb < _ by omega)]; exact SB.out.2.2.2⟩
  have A3 := Lib.hid a3
  have Z1 := Lib.hid z1
  clear b1 b2 b3 b3' a1 a1' a2 a3 k1 k2 c0 kx hcell h hh hbl hx hm
  go_enter Try.func45, Try.ntmps45
  go_wp2_with fail
  refine wp_region_held_drew (S := fun w' => Below w.heap.size w w' ∧ A2 w' w.heap.size 0 0 ∧ w'.cell? ⟨qb, 0, none⟩ = some (.slice (some ⟨hb, 0, none⟩) m hc) ∧ w'.cell? ⟨hb, i, none⟩ = some (.int .i64 x)) (by kernel_rfl) SA.out (fun hHeld => ?_)
  refine wpAnyH_take (i := 0) (v := ?_) rfl (by kernel_rfl) (by kernel_rfl) (by kernel_rfl) (fun _ _ _ h => h) (Or.inl ⟨by rfl, ?_⟩) (by assumption) ?_
  rotate_left 1
  · (intro w hSw; (try dsimp only at hSw); first | (go_simp; done) | (go_simp; with_reducible rfl))
  simp only [Act.put, List.getElem_toArray, List.getElem_cons_zero, List.setIfInBounds_toArray, List.set_cons_zero, List.set_cons_succ]
  refine wpAnyH_take (i := 1) (v := ?_) rfl (by kernel_rfl) (by kernel_rfl) (by kernel_rfl) (fun _ _ _ h => h) (Or.inl ⟨by rfl, ?_⟩) (by assumption) ?_
  rotate_left 1
  · (intro w hSw; (try dsimp only at hSw); first | (go_simp; done) | (go_simp; with_reducible rfl))
  simp only [Act.put, List.getElem_toArray, List.getElem_cons_zero, List.getElem_cons_succ, List.setIfInBounds_toArray, List.set_cons_zero, List.set_cons_succ]
  refine wpAnyH_take (i := 2) (v := ?_) rfl (by kernel_rfl) (by kernel_rfl) (by kernel_rfl) (fun _ _ _ h => h) (Or.inl ⟨by rfl, ?_⟩) (by assumption) ?_
  rotate_left 1
  · (intro w hSw; (try dsimp only at hSw); first | (go_simp; done) | (go_simp; with_reducible rfl))
  simp only [Act.put, List.getElem_toArray, List.getElem_cons_zero, List.getElem_cons_succ, List.setIfInBounds_toArray, List.set_cons_zero, List.set_cons_succ]
  refine wpAnyH_take (i := 3) (v := ?_) rfl (by kernel_rfl) (by kernel_rfl) (by kernel_rfl) (fun _ _ _ h => h) (Or.inl ⟨by rfl, ?_⟩) (by assumption) ?_
  rotate_left 1
  · (intro w hSw; (try dsimp only at hSw); first | (go_simp; done) | (go_simp; with_reducible rfl))
  simp only [Act.put, List.getElem_toArray, List.getElem_cons_zero, List.getElem_cons_succ, List.setIfInBounds_toArray, List.set_cons_zero, List.set_cons_succ]
  refine wpAnyH_take (i := 4) (v := ?_) rfl (by kernel_rfl) (by kernel_rfl) (by kernel_rfl) (fun _ _ _ h => h) (Or.inl ⟨by rfl, ?_⟩) (by assumption) ?_
  rotate_left 1
  · (intro w hSw; (try dsimp only at hSw); first | (go_simp; done) | (go_simp; with_reducible rfl))
  simp only [Act.put, List.getElem_toArray, List.getElem_cons_zero, List.getElem_cons_succ, List.setIfInBounds_toArray, List.set_cons_zero, List.set_cons_succ]
  refine wpAnyH_take (i := 5) (v := ?_) rfl (by kernel_rfl) (by kernel_rfl) (by kernel_rfl) (fun _ _ _ h => h) (Or.inl ⟨by rfl, ?_⟩) (by assumption) ?_
  rotate_left 1
  · (intro w hSw; (try dsimp only at hSw); first | (go_simp; done) | (go_simp; with_reducible rfl))
  simp only [Act.put, List.getElem_toArray, List.getElem_cons_zero, List.getElem_cons_succ, List.setIfInBounds_toArray, List.set_cons_zero, List.set_cons_succ]
  refine wpAnyH_take (i := 6) (v := ?_) rfl (by kernel_rfl) (by kernel_rfl) (by kernel_rfl) (fun _ _ _ h => h) (Or.inl ⟨by rfl, ?_⟩) (by assumption) ?_
  rotate_left 1
  · (intro w hSw; (try dsimp only at hSw); first | (go_simp; done) | (go_simp; with_reducible rfl))
  simp only [Act.put, List.getElem_toArray, List.getElem_cons_zero, List.getElem_cons_succ, List.setIfInBounds_toArray, List.set_cons_zero, List.set_cons_succ]
  refine wpAnyH_take (i := 7) (v := ?_) rfl (by kernel_rfl) (by kernel_rfl) (by kernel_rfl) (fun _ _ _ h => h) (Or.inl ⟨by rfl, ?_⟩) (by assumption) ?_
  rotate_left 1
  · (intro w hSw; (try dsimp only at hSw); first | (go_simp; done) | (go_simp; with_reducible rfl))
  simp only [Act.put, List.getElem_toArray, List.getElem_cons_zero, List.getElem_cons_succ, List.setIfInBounds_toArray, List.set_cons_zero, List.set_cons_succ]
  refine wpAnyH_take (i := 8) (v := ?_) rfl (by kernel_rfl) (by kernel_rfl) (by kernel_rfl) (fun _ _ _ h => h) (Or.inl ⟨by rfl, ?_⟩) (by assumption) ?_
  rotate_left 1
  · (intro w hSw; (try dsimp only at hSw); first | (go_simp; done) | (go_simp; with_reducible rfl))
  simp only [Act.put, List.getElem_toArray, List.getElem_cons_zero, List.getElem_cons_succ, List.setIfInBounds_toArray, List.set_cons_zero, List.set_cons_succ]
  refine wpAnyH_take (i := 9) (v := ?_) rfl (by kernel_rfl) (by kernel_rfl) (by kernel_rfl) (fun _ _ _ h => h) (Or.inl ⟨by rfl, ?_⟩) (by assumption) ?_
  rotate_left 1
  · (intro w hSw; (try dsimp only at hSw); first | (go_simp; done) | (go_simp; with_reducible rfl))
  simp only [Act.put, List.getElem_toArray, List.getElem_cons_zero, List.getElem_cons_succ, List.setIfInBounds_toArray, List.set_cons_zero, List.set_cons_succ]
  refine wpAnyH_take (i := 10) (v := ?_) rfl (by kernel_rfl) (by kernel_rfl) (by kernel_rfl) (fun _ _ _ h => h) (Or.inl ⟨by rfl, ?_⟩) (by assumption) ?_
  rotate_left 1
  · (intro w hSw; (try dsimp only at hSw); first | (go_simp; done) | (go_simp; with_reducible rfl))
  simp only [Act.put, List.getElem_toArray, List.getElem_cons_zero, List.getElem_cons_succ, List.setIfInBounds_toArray, List.set_cons_zero, List.set_cons_succ]
  refine wpAnyH_take (i := 11) (v := ?_) rfl (by kernel_rfl) (by kernel_rfl) (by kernel_rfl) (fun _ _ _ h => h) (Or.inl ⟨by rfl, ?_⟩) (by assumption) ?_
  rotate_left 1
  · (intro w hSw; (try dsimp only at hSw); first | (go_simp; done) | (go_simp; with_reducible rfl))
  simp only [Act.put, List.getElem_toArray, List.getElem_cons_zero, List.getElem_cons_succ, List.setIfInBounds_toArray, List.set_cons_zero, List.set_cons_succ]
  refine wpAnyH_take (i := 12) (v := ?_) rfl (by kernel_rfl) (by kernel_rfl) (by kernel_rfl) (fun _ _ _ h => h) (Or.inl ⟨by rfl, ?_⟩) (by assumption) ?_
  rotate_left 1
  · (intro w hSw; (try dsimp only at hSw); first | (go_simp; done) | (go_simp; with_reducible rfl))
  simp only [Act.put, List.getElem_toArray, List.getElem_cons_zero, List.getElem_cons_succ, List.setIfInBounds_toArray, List.set_cons_zero, List.set_cons_succ]
  refine wpAnyH_take (i := 13) (v := ?_) rfl (by kernel_rfl) (by kernel_rfl) (by kernel_rfl) (fun _ _ _ h => h) (Or.inl ⟨by rfl, ?_⟩) (by assumption) ?_
  rotate_left 1
  · (intro w hSw; (try dsimp only at hSw); first | (go_simp; done) | (go_simp; with_reducible rfl))
  simp only [Act.put, List.getElem_toArray, List.getElem_cons_zero, List.getElem_cons_succ, List.setIfInBounds_toArray, List.set_cons_zero, List.set_cons_succ]
  refine wpAnyH_take (i := 14) (v := ?_) rfl (by kernel_rfl) (by kernel_rfl) (by kernel_rfl) (fun _ _ _ h => h) (Or.inl ⟨by rfl, ?_⟩) (by assumption) ?_
  rotate_left 1
  · (intro w hSw; (try dsimp only at hSw); first | (go_simp; done) | (go_simp; with_reducible rfl))
  simp only [Act.put, List.getElem_toArray, List.getElem_cons_zero, List.getElem_cons_succ, List.setIfInBounds_toArray, List.set_cons_zero, List.set_cons_succ]
  refine wpAnyH_ready (rs := [15]) (by kernel_rfl) (by simp) ?_
  refine AllReadyH.cons rfl (fun K hK => ?_) AllReadyH.nil
  go_simp
  refine hK.out _ _ SB.out (fun hHeld2 => ?_)
  clear hK K hHeld; have hHeld := hHeld2; clear hHeld2
  refine wpAnyH_ready (rs := [16]) (by kernel_rfl) (by simp) ?_
  refine AllReadyH.cons rfl (fun K hK => ?_) AllReadyH.nil
  go_simp
  refine hK.out _ _ SC.out (fun hHeld2 => ?_)
  clear hK K hHeld hHeld2
  refine wpAnyH_done (by kernel_rfl) ?_ _
  clear e0 e1 f0 f1 hW1 hW2 hW3 SA SB
  go_wp2_with fail
  go_loopw [6, 7, 23] (fun _ _ s23 wq => ∃ k : Nat, k ≤ 2 ∧ s23 = .int .i64 k ∧ Hid (A2 wq (w.heap.size + 1) (if 0 < k then chd hs i (2 * i + 1 + 0) else x) (if 1 < k then chd hs i (2 * i + 1 + 1) else x)) ∧ Hid (A2 wq w.heap.size 0 0) ∧ Hid (Below w.heap.size w wq)) (fun _ _ s23 _ => 2 - (intOf s23).toNat)
  case atStart => exact ⟨0, by omega, rfl, (by simpa [Hid] using A3.out), SC.out.2.1, SC.out.1⟩
  case round =>
    clear SC A3
    obtain ⟨k, hk, rfl, A3, A1, BB⟩ := hrel
    have c0 := old BB.out HQ.out.c0
    rw [FM.out] at c0
    by_cases hk0 : k = 0
    · subst hk0
      by_cases hc1 : 2 * i + 1 + 0 < m
      · have kc := old BB.out (HC.out (2 * i + 1 + 0) (by rw [FM.out]; exact hc1)).1
        have CV := Lib.hid (show chd hs i (2 * i + 1 + 0) = hs.getD (2 * i + 1 + 0) 0 by unfold chd; rw [FM.out, if_pos hc1])
        obtain ⟨y, hy⟩ : ∃ y, hs.getD (2 * i + 1 + 0) 0 = y := ⟨_, rfl⟩
        rw [hy] at kc; have FY := Lib.hid hy; clear hy
        obtain ⟨c, hcc⟩ : ∃ c, 2 * i + 1 + 0 = c := ⟨_, rfl⟩
        rw [hcc] at kc hc1
        have w1 : IntKind.i64.wrap (2 * (i : Int)) = 2 * (i : Int) := by rw [IntKind.wrap_i64]; omega
        have w2 : IntKind.i64.wrap (2 * (i : Int) + 1) = (c : Int) := by rw [IntKind.wrap_i64]; omega
        have w3 : IntKind.i64.wrap (c : Int) = (c : Int) := by rw [IntKind.wrap_i64]; omega
        have p0 : (0 : Int) ≤ (c : Int) := by omega
        have p1 : (c : Int) < (m : Int) := by omega
        have f0 := A3.out.fr (i := 0); have f1 := A3.out.fr (i := 1); have e0 := A3.out.c0; have e1 := A3.out.c1
        obtain ⟨W9, hW9⟩ : ∃ W9, wr.setCell ⟨w.heap.size + 1, 0, none⟩ (.int .i64 y) = W9 := ⟨_, rfl⟩
        have A4 := Lib.hid (A3.out.set0 (u := y))
        have A5 := Lib.hid (A1.out.other (p := ⟨w.heap.size + 1, 0, none⟩) (u := .int .i64 y) (show w.heap.size ≠ w.heap.size + 1 by omega))
        have B5 := Lib.hid (show Below w.heap.size w (wr.setCell ⟨w.heap.size + 1, 0, none⟩ (.int .i64 y)) from BB.out.setCell (show w.heap.size ≤ w.heap.size + 1 by omega) _)
        rw [hW9] at A4 A5 B5
        have HCC := Lib.hid hcc; clear hcc
        go_wp2_with fail
        go_roundw
        case rel => exact ⟨1, by omega, by go_num, (by show A2 _ _ _ _; have r := A4.out; simpa [CV.out.trans FY.out] using r), A5, B5⟩
        case measure => simp [intOf]
      · have CV := Lib.hid (show chd hs i (2 * i + 1 + 0) = x by unfold chd; rw [FM.out, if_neg hc1, FX.out])
        have w1 : IntKind.i64.wrap (2 * (i : Int)) = 2 * (i : Int) := by rw [IntKind.wrap_i64]; omega
        have w2 : IntKind.i64.wrap (2 * (i : Int) + 1) = 2 * (i : Int) + 1 := by rw [IntKind.wrap_i64]; omega
        have w3 : IntKind.i64.wrap (2 * (i : Int) + 1 + 0) = 2 * (i : Int) + 1 + 0 := by rw [IntKind.wrap_i64]; omega
        have p1 : ¬ (2 * (i : Int) + 1 + 0 < (m : Int)) := by omega
        have p2 : ¬ (2 * (i : Int) + 1 < (m : Int)) := by omega
        go_wp2_with fail
        go_roundw
        case rel => exact ⟨1, by omega, by go_num, (by show A2 _ _ _ _; have r := A3.out; simpa [CV.out] using r), A1, BB⟩
        case measure => simp [intOf]
    · by_cases hk1 : k = 1
      · subst hk1
        by_cases hc1 : 2 * i + 1 + 1 < m
        · have kc := old BB.out (HC.out (2 * i + 1 + 1) (by rw [FM.out]; exact hc1)).1
          have CV := Lib.hid (show chd hs i (2 * i + 1 + 1) = hs.getD (2 * i + 1 + 1) 0 by unfold chd; rw [FM.out, if_pos hc1])
          obtain ⟨y, hy⟩ : ∃ y, hs.getD (2 * i + 1 + 1) 0 = y := ⟨_, rfl⟩
          rw [hy] at kc; have FY := Lib.hid hy; clear hy
          obtain ⟨c, hcc⟩ : ∃ c, 2 * i + 1 + 1 = c := ⟨_, rfl⟩
          rw [hcc] at kc hc1
          have w1 : IntKind.i64.wrap (2 * (i : Int)) = 2 * (i : Int) := by rw [IntKind.wrap_i64]; omega
          have w2 : IntKind.i64.wrap (2 * (i : Int) + 1) = 2 * (i : Int) + 1 := by rw [IntKind.wrap_i64]; omega
          have w3 : IntKind.i64.wrap (2 * (i : Int) + 1 + 1) = (c : Int) := by rw [IntKind.wrap_i64]; omega
          have p0 : (0 : Int) ≤ (c : Int) := by omega
          have p1 : (c : Int) < (m : Int) := by omega
          have f0 := A3.out.fr (i := 0); have f1 := A3.out.fr (i := 1); have e0 := A3.out.c0; have e1 := A3.out.c1
          obtain ⟨W9, hW9⟩ : ∃ W9, wr.setCell ⟨w.heap.size + 1, 1, none⟩ (.int .i64 y) = W9 := ⟨_, rfl⟩
          have A4 := Lib.hid (A3.out.set1 (u := y))
          have A5 := Lib.hid (A1.out.other (p := ⟨w.heap.size + 1, 1, none⟩) (u := .int .i64 y) (show w.heap.size ≠ w.heap.size + 1 by omega))
          have B5 := Lib.hid (show Below w.heap.size w (wr.setCell ⟨w.heap.size + 1, 1, none⟩ (.int .i64 y)) from BB.out.setCell (show w.heap.size ≤ w.heap.size + 1 by omega) _)
          rw [hW9] at A4 A5 B5
          have HCC := Lib.hid hcc; clear hcc
          go_wp2_with fail
          go_roundw
          case rel => exact ⟨2, by omega, by go_num, (by show A2 _ _ _ _; have r := A4.out; simpa [CV.out.trans FY.out] using r), A5, B5⟩
          case measure => simp [intOf]
        · have CV := Lib.hid (show chd hs i (2 * i + 1 + 1) = x by unfold chd; rw [FM.out, if_neg hc1, FX.out])
          have w1 : IntKind.i64.wrap (2 * (i : Int)) = 2 * (i : Int) := by rw [IntKind.wrap_i64]; omega
          have w2 : IntKind.i64.wrap (2 * (i : Int) + 1) = 2 * (i : Int) + 1 := by rw [IntKind.wrap_i64]; omega
          have w3 : IntKind.i64.wrap (2 * (i : Int) + 1 + 1) = 2 * (i : Int) + 1 + 1 := by rw [IntKind.wrap_i64]; omega
          have p1 : ¬ (2 * (i : Int) + 1 + 1 < (m : Int)) := by omega
          go_wp2_with fail
          go_roundw
          case rel => exact ⟨2, by omega, by go_num, (by show A2 _ _ _ _; have r := A3.out; simpa [CV.out] using r), A1, BB⟩
          case measure => simp [intOf]
      · obtain rfl : k = 2 := by omega
        obtain ⟨u, hu⟩ : ∃ u, chd hs i (2 * i + 1) = u := ⟨_, rfl⟩
        obtain ⟨v, hv⟩ : ∃ v, chd hs i (2 * i + 2) = v := ⟨_, rfl⟩
        have A4 : A2 wr (w.heap.size + 1) u v := by have r := A3.out; simpa [hu, hv] using r
        have e0 := A4.c0; have e1 := A4.c1
        have g0 := A1.out.c0; have g1 := A1.out.c1; have f0 := A1.out.fr (i := 0); have f1 := A1.out.fr (i := 1)
        obtain ⟨W9, hW9⟩ : ∃ W9, (wr.setCell ⟨w.heap.size, 0, none⟩ (.int .i64 u)).setCell ⟨w.heap.size, 1, none⟩ (.int .i64 v) = W9 := ⟨_, rfl⟩
        have A9 : A2 W9 w.heap.size u v := by rw [← hW9]; exact A1.out.set0.set1
        have B9 := Lib.hid (show Below w.heap.size w W9 by rw [← hW9]; exact (BB.out.setCell (Nat.le_refl _) _).setCell (Nat.le_refl _) _)
        have r0 := A9.c0; have r1 := A9.c1
        have HU := Lib.hid hu; have HV := Lib.hid hv; clear hu hv A4 A9 A3 A1
        go_wp2_with fail
        refine bodyPost_ret (by simp [results, Try.results45, go_sem, r0, r1] <;> rfl) rfl ?_
        exact ⟨by rw [HU.out, HV.out], B9.out⟩
end Go.Proofs.Ytgofachgoflgnaa
