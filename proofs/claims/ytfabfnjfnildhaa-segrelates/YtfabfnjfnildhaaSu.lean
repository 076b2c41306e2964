/- seg: the reference's Relate. -/
import Derived.Test.YtfabfnjfnildhaaSt
import Derived.Deep.Cut
import Derived.Deep.DeepCutAuto
import Derived.Deep.CutBlock
import Derived.Deep.RegionHeld
import Derived.Deep.DrawnRows
namespace Go.Proofs.Ytfabfnjfnildhaa
open Go.ChangeShapes Go.WideShapes Go.ChangeAt Go.RowKit Go.Joins Go.Deep
attribute [local go_sem ↓] Go.wp_at_zero Go.wp_at_succ

theorem row_keep {wr W : World} {base n : Nat} {v : Value} {xs : List Value} (h : wr.ownsRow base 23 2 v n xs) (b : Below wr.heap.size wr W) : W.ownsRow base 23 2 v n xs := by
  refine ⟨h.1, ?_⟩
  rcases h.2 with h0 | ⟨g, cap, cur, h1, h2, hg, h3⟩
  · exact Or.inl h0
  · refine Or.inr ⟨g, cap, cur, h1, h2, ?_, h3⟩
    rw [b.block _ ?_]; exact hg
    by_cases hl : g < wr.heap.size
    · exact hl
    · rw [Array.getElem?_eq_none (Nat.le_of_not_lt hl)] at hg; cases hg
theorem s12_keep {w wc wr w1 w' : World} {a b c d e f g h x y : Int} {i : Nat} (k : Below w1.heap.size w1 w') (z : Below wr.heap.size wr w1 ∧ (Below w.heap.size w w1 ∧ G4 w1 w.heap.size a b c d ∧ G4 w1 (w.heap.size + 1) e f g h ∧ w1.cell? ⟨w.heap.size, 0, none⟩ = some (.int .i64 a) ∧ w1.cell? ⟨w.heap.size, 1, none⟩ = some (.int .i64 b) ∧ w1.cell? ⟨w.heap.size, 2, none⟩ = some (.int .i64 c) ∧ w1.cell? ⟨w.heap.size, 3, none⟩ = some (.int .i64 d) ∧ w1.cell? ⟨w.heap.size + 1, 0, none⟩ = some (.int .i64 e) ∧ w1.cell? ⟨w.heap.size + 1, 1, none⟩ = some (.int .i64 f) ∧ w1.cell? ⟨w.heap.size + 1, 2, none⟩ = some (.int .i64 g) ∧ w1.cell? ⟨w.heap.size + 1, 3, none⟩ = some (.int .i64 h)) ∧ w1.cell? ⟨wc.heap.size, i * 2, none⟩ = some (.int .i64 x) ∧ w1.cell? ⟨wc.heap.size, i * 2 + 1, none⟩ = some (.int .i64 y)) : Below wr.heap.size wr w' ∧ (Below w.heap.size w w' ∧ G4 w' w.heap.size a b c d ∧ G4 w' (w.heap.size + 1) e f g h ∧ w'.cell? ⟨w.heap.size, 0, none⟩ = some (.int .i64 a) ∧ w'.cell? ⟨w.heap.size, 1, none⟩ = some (.int .i64 b) ∧ w'.cell? ⟨w.heap.size, 2, none⟩ = some (.int .i64 c) ∧ w'.cell? ⟨w.heap.size, 3, none⟩ = some (.int .i64 d) ∧ w'.cell? ⟨w.heap.size + 1, 0, none⟩ = some (.int .i64 e) ∧ w'.cell? ⟨w.heap.size + 1, 1, none⟩ = some (.int .i64 f) ∧ w'.cell? ⟨w.heap.size + 1, 2, none⟩ = some (.int .i64 g) ∧ w'.cell? ⟨w.heap.size + 1, 3, none⟩ = some (.int .i64 h)) ∧ w'.cell? ⟨wc.heap.size, i * 2, none⟩ = some (.int .i64 x) ∧ w'.cell? ⟨wc.heap.size, i * 2 + 1, none⟩ = some (.int .i64 y) :=
  ⟨z.1.trans (k.mono z.1.size), s4_keep k z.2.1, old k z.2.2.1, old k z.2.2.2⟩
set_option maxRecDepth 100000 in
set_option maxHeartbeats 8000000 in
theorem relr_any (a b c d e f g h : Int) (w : World) : Calls Try.prog 26 #[sg a b c d, sg e f g h] w fun e' w' => e' = .returned (.int .i64 (relF a b c d e f g h)) ∧ Below w.heap.size w w' := by
  obtain ⟨i0, hi, hz0, hz1, hz2⟩ := info_parts Try.info23
  have II := Lib.hid hi; have Z0 := Lib.hid hz0; have Z1 := Lib.hid hz1; have Z2 := Lib.hid hz2
  clear hi hz0 hz1 hz2
  obtain ⟨W1, hW1⟩ : ∃ W1, w.alloc (Obj.cells #[.int .i64 a, .int .i64 b, .int .i64 c, .int .i64 d] 25) = W1 := ⟨_, rfl⟩
  obtain ⟨W2, hW2⟩ : ∃ W2, W1.alloc (Obj.cells #[.int .i64 e, .int .i64 f, .int .i64 g, .int .i64 h] 25) = W2 := ⟨_, rfl⟩
  have z1 : W1.heap.size = w.heap.size + 1 := by rw [← hW1, World.size_alloc]
  have g1 := G4.new w a b c d
  have g2 := G4.new W1 e f g h
  have b1 : Below w.heap.size w W1 := by rw [← hW1]; exact (Below.refl _ _).alloc (Nat.le_refl _) _
  have b2 : Below W1.heap.size W1 W2 := by rw [← hW2]; exact (Below.refl _ _).alloc (Nat.le_refl _) _
  rw [hW1] at g1; rw [hW2, z1] at g2
  have GA := Lib.hid (g1.below b2 g1.lt); have GB := Lib.hid g2
  have BX := Lib.hid (b1.trans (b2.mono (by omega)))
  clear g1 g2 b1 b2
  have c0 := GA.out.c0; have c1 := GA.out.c1; have c2 := GA.out.c2; have c3 := GA.out.c3
  have d0 := GB.out.c0; have d1 := GB.out.c1; have d2 := GB.out.c2; have d3 := GB.out.c3
  go_enter Try.func26, Try.ntmps26
  go_upto_region 1 with fail
  go_cut [41] (fun s41 wx => s41 = .bool (!(okB a b c d e f g h)) ∧ Hid (Below w.heap.size w wx ∧ G4 wx w.heap.size a b c d ∧ G4 wx (w.heap.size + 1) e f g h ∧ wx.cell? ⟨w.heap.size, 0, none⟩ = some (.int .i64 a) ∧ wx.cell? ⟨w.heap.size, 1, none⟩ = some (.int .i64 b) ∧ wx.cell? ⟨w.heap.size, 2, none⟩ = some (.int .i64 c) ∧ wx.cell? ⟨w.heap.size, 3, none⟩ = some (.int .i64 d) ∧ wx.cell? ⟨w.heap.size + 1, 0, none⟩ = some (.int .i64 e) ∧ wx.cell? ⟨w.heap.size + 1, 1, none⟩ = some (.int .i64 f) ∧ wx.cell? ⟨w.heap.size + 1, 2, none⟩ = some (.int .i64 g) ∧ wx.cell? ⟨w.heap.size + 1, 3, none⟩ = some (.int .i64 h)))
  case first =>
    go_wp2_with fail
    refine (three_any a b c d e f _).mono ?_; rintro e0 w5 ⟨rfl, hb⟩
    replace GA := Lib.hid (GA.out.below hb GA.out.lt); replace GB := Lib.hid (GB.out.below hb GB.out.lt)
    replace BX := Lib.hid (BX.out.trans (hb.mono BX.out.size))
    clear hb c0 c1 c2 c3 d0 d1 d2 d3
    have c0 := GA.out.c0; have c1 := GA.out.c1; have c2 := GA.out.c2; have c3 := GA.out.c3
    have d0 := GB.out.c0; have d1 := GB.out.c1; have d2 := GB.out.c2; have d3 := GB.out.c3
    obtain ⟨vv, hv⟩ : ∃ vv, v3 a b c d e f = vv := ⟨_, rfl⟩
    rw [hv]
    cases vv
    · have K := Lib.hid (show okB a b c d e f g h = false by unfold okB; unfold v3 at hv; rw [hv]; rfl)
      clear hv
      go_wp2_with fail
      go_meet
      exact ⟨by rw [K.out]; rfl, ⟨BX.out, GA.out, GB.out, GA.out.c0, GA.out.c1, GA.out.c2, GA.out.c3, GB.out.c0, GB.out.c1, GB.out.c2, GB.out.c3⟩⟩
    go_wp2_with fail
    refine (validr_any g h _).mono ?_; rintro e0 w5 ⟨rfl, hb⟩
    replace GA := Lib.hid (GA.out.below hb GA.out.lt); replace GB := Lib.hid (GB.out.below hb GB.out.lt)
    replace BX := Lib.hid (BX.out.trans (hb.mono BX.out.size))
    clear hb c0 c1 c2 c3 d0 d1 d2 d3
    have c0 := GA.out.c0; have c1 := GA.out.c1; have c2 := GA.out.c2; have c3 := GA.out.c3
    have d0 := GB.out.c0; have d1 := GB.out.c1; have d2 := GB.out.c2; have d3 := GB.out.c3
    obtain ⟨vg, hg⟩ : ∃ vg, vldB g h = vg := ⟨_, rfl⟩
    rw [hg]
    cases vg
    · have K := Lib.hid (show okB a b c d e f g h = false by unfold okB; rw [hg]; simp)
      clear hv hg
      go_wp2_with fail
      go_meet
      exact ⟨by rw [K.out]; rfl, ⟨BX.out, GA.out, GB.out, GA.out.c0, GA.out.c1, GA.out.c2, GA.out.c3, GB.out.c0, GB.out.c1, GB.out.c2, GB.out.c3⟩⟩
    have VV := Lib.hid hv; have VG := Lib.hid hg
    clear hv hg
    by_cases n1 : a = c
    · obtain rfl := n1
      by_cases n2 : b = d
      · obtain rfl := n2
        have K := Lib.hid (show okB a b a b e f g h = false by unfold okB; simp)
        go_wp2_with fail
        go_meet
        exact ⟨by rw [K.out]; rfl, ⟨BX.out, GA.out, GB.out, GA.out.c0, GA.out.c1, GA.out.c2, GA.out.c3, GB.out.c0, GB.out.c1, GB.out.c2, GB.out.c3⟩⟩
      · skip
        by_cases m1 : e = g
        · obtain rfl := m1
          by_cases m2 : f = h
          · obtain rfl := m2
            have K := Lib.hid (show okB a b a d e f e f = false by unfold okB; simp)
            go_wp2_with fail
            go_meet
            exact ⟨by rw [K.out]; rfl, ⟨BX.out, GA.out, GB.out, GA.out.c0, GA.out.c1, GA.out.c2, GA.out.c3, GB.out.c0, GB.out.c1, GB.out.c2, GB.out.c3⟩⟩
          · skip
            have K := Lib.hid (show okB a b a d e f e h = true by have hv := VV.out; unfold v3 at hv; unfold okB; rw [hv, VG.out]; simp; omega)
            go_wp2_with fail
            go_meet
            exact ⟨by rw [K.out]; rfl, ⟨BX.out, GA.out, GB.out, GA.out.c0, GA.out.c1, GA.out.c2, GA.out.c3, GB.out.c0, GB.out.c1, GB.out.c2, GB.out.c3⟩⟩
        · skip
          have K := Lib.hid (show okB a b a d e f g h = true by have hv := VV.out; unfold v3 at hv; unfold okB; rw [hv, VG.out]; simp; omega)
          go_wp2_with fail
          go_meet
          exact ⟨by rw [K.out]; rfl, ⟨BX.out, GA.out, GB.out, GA.out.c0, GA.out.c1, GA.out.c2, GA.out.c3, GB.out.c0, GB.out.c1, GB.out.c2, GB.out.c3⟩⟩
    · skip
      by_cases m1 : e = g
      · obtain rfl := m1
        by_cases m2 : f = h
        · obtain rfl := m2
          have K := Lib.hid (show okB a b c d e f e f = false by unfold okB; simp)
          go_wp2_with fail
          go_meet
          exact ⟨by rw [K.out]; rfl, ⟨BX.out, GA.out, GB.out, GA.out.c0, GA.out.c1, GA.out.c2, GA.out.c3, GB.out.c0, GB.out.c1, GB.out.c2, GB.out.c3⟩⟩
        · skip
          have K := Lib.hid (show okB a b c d e f e h = true by have hv := VV.out; unfold v3 at hv; unfold okB; rw [hv, VG.out]; simp; omega)
          go_wp2_with fail
          go_meet
          exact ⟨by rw [K.out]; rfl, ⟨BX.out, GA.out, GB.out, GA.out.c0, GA.out.c1, GA.out.c2, GA.out.c3, GB.out.c0, GB.out.c1, GB.out.c2, GB.out.c3⟩⟩
      · skip
        have K := Lib.hid (show okB a b c d e f g h = true by have hv := VV.out; unfold v3 at hv; unfold okB; rw [hv, VG.out]; simp; omega)
        go_wp2_with fail
        go_meet
        exact ⟨by rw [K.out]; rfl, ⟨BX.out, GA.out, GB.out, GA.out.c0, GA.out.c1, GA.out.c2, GA.out.c3, GB.out.c0, GB.out.c1, GB.out.c2, GB.out.c3⟩⟩
  case rest =>
    clear GA GB BX c0 c1 c2 c3 d0 d1 d2 d3 hW1 hW2 z1
    obtain ⟨rfl, HS⟩ := hcut
    obtain ⟨kk, hkk⟩ : ∃ kk, okB a b c d e f g h = kk := ⟨_, rfl⟩
    rw [hkk]
    have K := Lib.hid hkk; clear hkk
    cases kk
    · go_wp2_with fail
      go_ret
      exact ⟨by rw [rel_bad K.out]; rfl, HS.out.1⟩
    go_wp2_with fail
    have S0 : Hid (∀ W, W = wc.drew → Below w.heap.size w W ∧ G4 W w.heap.size a b c d ∧ G4 W (w.heap.size + 1) e f g h ∧ W.cell? ⟨w.heap.size, 0, none⟩ = some (.int .i64 a) ∧ W.cell? ⟨w.heap.size, 1, none⟩ = some (.int .i64 b) ∧ W.cell? ⟨w.heap.size, 2, none⟩ = some (.int .i64 c) ∧ W.cell? ⟨w.heap.size, 3, none⟩ = some (.int .i64 d) ∧ W.cell? ⟨w.heap.size + 1, 0, none⟩ = some (.int .i64 e) ∧ W.cell? ⟨w.heap.size + 1, 1, none⟩ = some (.int .i64 f) ∧ W.cell? ⟨w.heap.size + 1, 2, none⟩ = some (.int .i64 g) ∧ W.cell? ⟨w.heap.size + 1, 3, none⟩ = some (.int .i64 h)) := by
      intro W e0; subst e0
      exact ⟨HS.out.1.drew, HS.out.2⟩
    refine wp_region_held_drew (S := fun w' => Below w.heap.size w w' ∧ G4 w' w.heap.size a b c d ∧ G4 w' (w.heap.size + 1) e f g h ∧ w'.cell? ⟨w.heap.size, 0, none⟩ = some (.int .i64 a) ∧ w'.cell? ⟨w.heap.size, 1, none⟩ = some (.int .i64 b) ∧ w'.cell? ⟨w.heap.size, 2, none⟩ = some (.int .i64 c) ∧ w'.cell? ⟨w.heap.size, 3, none⟩ = some (.int .i64 d) ∧ w'.cell? ⟨w.heap.size + 1, 0, none⟩ = some (.int .i64 e) ∧ w'.cell? ⟨w.heap.size + 1, 1, none⟩ = some (.int .i64 f) ∧ w'.cell? ⟨w.heap.size + 1, 2, none⟩ = some (.int .i64 g) ∧ w'.cell? ⟨w.heap.size + 1, 3, none⟩ = some (.int .i64 h)) (by kernel_rfl) (S0.out _ rfl) (fun hHeld => ?_)
    clear S0
    refine wpAnyH_take (i := 0) (v := ?_) rfl (by kernel_rfl) (by kernel_rfl) (by kernel_rfl) (fun _ _ _ h => h) (Or.inl ⟨by rfl, ?_⟩) (by assumption) ?_
    rotate_left 1
    · (intro w hSw; (try dsimp only at hSw); first | (go_simp; done) | (go_simp; with_reducible rfl))
    simp only [Act.put, List.getElem_toArray, List.getElem_cons_zero, List.setIfInBounds_toArray, List.set_cons_zero, List.set_cons_succ]
    refine wpAnyH_take (i := 1) (v := ?_) rfl (by kernel_rfl) (by kernel_rfl) (by kernel_rfl) (fun _ _ _ h => h) (Or.inl ⟨by rfl, ?_⟩) (by assumption) ?_
    rotate_left 1
    · (intro w hSw; (try dsimp only at hSw); first | (go_simp; done) | (go_simp; with_reducible rfl))
    simp only [Act.put, List.getElem_toArray, List.getElem_cons_zero, List.getElem_cons_succ, List.setIfInBounds_toArray, List.set_cons_zero, List.set_cons_succ]
    refine wpAnyH_take (i := 2) (v := ?_) rfl (by kernel_rfl) (by kernel_rfl) (by kernel_rfl) (fun _ _ _ h => h) (Or.inl ⟨by rfl, ?_⟩) (by assumption) ?_
    rotate_left 1
    · (intro w hSw; (try dsimp only at hSw); first | (go_simp; done) | (go_simp; with_reducible rfl))
    simp only [Act.put, List.getElem_toArray, List.getElem_cons_zero, List.getElem_cons_succ, List.setIfInBounds_toArray, List.set_cons_zero, List.set_cons_succ]
    refine wpAnyH_take (i := 3) (v := ?_) rfl (by kernel_rfl) (by kernel_rfl) (by kernel_rfl) (fun _ _ _ h => h) (Or.inl ⟨by rfl, ?_⟩) (by assumption) ?_
    rotate_left 1
    · (intro w hSw; (try dsimp only at hSw); first | (go_simp; done) | (go_simp; with_reducible rfl))
    simp only [Act.put, List.getElem_toArray, List.getElem_cons_zero, List.getElem_cons_succ, List.setIfInBounds_toArray, List.set_cons_zero, List.set_cons_succ]
    refine wpAnyH_take (i := 4) (v := ?_) rfl (by kernel_rfl) (by kernel_rfl) (by kernel_rfl) (fun _ _ _ h => h) (Or.inl ⟨by rfl, ?_⟩) (by assumption) ?_
    rotate_left 1
    · (intro w hSw; (try dsimp only at hSw); first | (go_simp; done) | (go_simp; with_reducible rfl))
    simp only [Act.put, List.getElem_toArray, List.getElem_cons_zero, List.getElem_cons_succ, List.setIfInBounds_toArray, List.set_cons_zero, List.set_cons_succ]
    refine wpAnyH_take (i := 5) (v := ?_) rfl (by kernel_rfl) (by kernel_rfl) (by kernel_rfl) (fun _ _ _ h => h) (Or.inl ⟨by rfl, ?_⟩) (by assumption) ?_
    rotate_left 1
    · (intro w hSw; (try dsimp only at hSw); first | (go_simp; done) | (go_simp; with_reducible rfl))
    simp only [Act.put, List.getElem_toArray, List.getElem_cons_zero, List.getElem_cons_succ, List.setIfInBounds_toArray, List.set_cons_zero, List.set_cons_succ]
    refine wpAnyH_take (i := 8) (v := ?_) rfl (by kernel_rfl) (by kernel_rfl) (by kernel_rfl) (fun _ _ _ h => h) (Or.inl ⟨by rfl, ?_⟩) (by assumption) ?_
    rotate_left 1
    · (intro w hSw; (try dsimp only at hSw); first | (go_simp; done) | (go_simp; with_reducible rfl))
    simp only [Act.put, List.getElem_toArray, List.getElem_cons_zero, List.getElem_cons_succ, List.setIfInBounds_toArray, List.set_cons_zero, List.set_cons_succ]
    refine wpAnyH_take (i := 9) (v := ?_) rfl (by kernel_rfl) (by kernel_rfl) (by kernel_rfl) (fun _ _ _ h => h) (Or.inl ⟨by rfl, ?_⟩) (by assumption) ?_
    rotate_left 1
    · (intro w hSw; (try dsimp only at hSw); first | (go_simp; done) | (go_simp; with_reducible rfl))
    simp only [Act.put, List.getElem_toArray, List.getElem_cons_zero, List.getElem_cons_succ, List.setIfInBounds_toArray, List.set_cons_zero, List.set_cons_succ]
    refine wpAnyH_take (i := 10) (v := ?_) rfl (by kernel_rfl) (by kernel_rfl) (by kernel_rfl) (fun _ _ _ h => h) (Or.inl ⟨by rfl, ?_⟩) (by assumption) ?_
    rotate_left 1
    · (intro w hSw; (try dsimp only at hSw); first | (go_simp; done) | (go_simp; with_reducible rfl))
    simp only [Act.put, List.getElem_toArray, List.getElem_cons_zero, List.getElem_cons_succ, List.setIfInBounds_toArray, List.set_cons_zero, List.set_cons_succ]
    refine wpAnyH_take (i := 11) (v := ?_) rfl (by kernel_rfl) (by kernel_rfl) (by kernel_rfl) (fun _ _ _ h => h) (Or.inl ⟨by rfl, ?_⟩) (by assumption) ?_
    rotate_left 1
    · (intro w hSw; (try dsimp only at hSw); first | (go_simp; done) | (go_simp; with_reducible rfl))
    simp only [Act.put, List.getElem_toArray, List.getElem_cons_zero, List.getElem_cons_succ, List.setIfInBounds_toArray, List.set_cons_zero, List.set_cons_succ]
    refine wpAnyH_take (i := 12) (v := ?_) rfl (by kernel_rfl) (by kernel_rfl) (by kernel_rfl) (fun _ _ _ h => h) (Or.inl ⟨by rfl, ?_⟩) (by assumption) ?_
    rotate_left 1
    · (intro w hSw; (try dsimp only at hSw); first | (go_simp; done) | (go_simp; with_reducible rfl))
    simp only [Act.put, List.getElem_toArray, List.getElem_cons_zero, List.getElem_cons_succ, List.setIfInBounds_toArray, List.set_cons_zero, List.set_cons_succ]
    refine wpAnyH_take (i := 13) (v := ?_) rfl (by kernel_rfl) (by kernel_rfl) (by kernel_rfl) (fun _ _ _ h => h) (Or.inl ⟨by rfl, ?_⟩) (by assumption) ?_
    rotate_left 1
    · (intro w hSw; (try dsimp only at hSw); first | (go_simp; done) | (go_simp; with_reducible rfl))
    simp only [Act.put, List.getElem_toArray, List.getElem_cons_zero, List.getElem_cons_succ, List.setIfInBounds_toArray, List.set_cons_zero, List.set_cons_succ]
    refine wpAnyH_ready (rs := [6]) (by kernel_rfl) (by simp) ?_
    refine AllReadyH.cons rfl (fun K hK => ?_) AllReadyH.nil
    have hS1 := Lib.hid hHeld
    go_simp
    go_wp2_with (go_at_call 19; (with_reducible refine (turnr_any a b c d e f _).mono ?_); rintro en w8 ⟨rfl, b8⟩)
    have hS2 := Lib.hid (s4_keep b8 hS1.out)
    refine hK.out _ _ hS2.out (fun hHeld2 => ?_)
    clear hK K hHeld hS1 hS2 b8; have hHeld := hHeld2; clear hHeld2
    refine wpAnyH_ready (rs := [7]) (by kernel_rfl) (by simp) ?_
    refine AllReadyH.cons rfl (fun K hK => ?_) AllReadyH.nil
    have hS1 := Lib.hid hHeld
    go_simp
    go_wp2_with (go_at_call 48; (with_reducible refine (sign48 (trn a b c d e f) _).mono ?_); rintro en w8 ⟨rfl, b8⟩)
    have hS2 := Lib.hid (s4_keep b8 hS1.out)
    refine hK.out _ _ hS2.out (fun hHeld2 => ?_)
    clear hK K hHeld hS1 hS2 b8; have hHeld := hHeld2; clear hHeld2
    refine wpAnyH_ready (rs := [14]) (by kernel_rfl) (by simp) ?_
    refine AllReadyH.cons rfl (fun K hK => ?_) AllReadyH.nil
    have hS1 := Lib.hid hHeld
    go_simp
    go_wp2_with (go_at_call 19; (with_reducible refine (turnr_any a b c d g h _).mono ?_); rintro en w8 ⟨rfl, b8⟩)
    have hS2 := Lib.hid (s4_keep b8 hS1.out)
    refine hK.out _ _ hS2.out (fun hHeld2 => ?_)
    clear hK K hHeld hS1 hS2 b8; have hHeld := hHeld2; clear hHeld2
    refine wpAnyH_ready (rs := [15]) (by kernel_rfl) (by simp) ?_
    refine AllReadyH.cons rfl (fun K hK => ?_) AllReadyH.nil
    have hS1 := Lib.hid hHeld
    go_simp
    go_wp2_with (go_at_call 48; (with_reducible refine (sign48 (trn a b c d g h) _).mono ?_); rintro en w8 ⟨rfl, b8⟩)
    have hS2 := Lib.hid (s4_keep b8 hS1.out)
    refine hK.out _ _ hS2.out (fun hHeld2 => ?_)
    clear hK K hHeld hS1 hS2 b8; have hHeld := hHeld2; clear hHeld2
    refine wpAnyH_take (i := 16) (v := ?_) rfl (by kernel_rfl) (by kernel_rfl) (by kernel_rfl) (fun _ _ _ h => h) (Or.inl ⟨by rfl, ?_⟩) (by assumption) ?_
    rotate_left 1
    · (intro w hSw; (try dsimp only at hSw); first | (go_simp; done) | (go_simp; with_reducible rfl))
    simp only [Act.put, List.getElem_toArray, List.getElem_cons_zero, List.getElem_cons_succ, List.setIfInBounds_toArray, List.set_cons_zero, List.set_cons_succ]
    refine wpAnyH_take (i := 17) (v := ?_) rfl (by kernel_rfl) (by kernel_rfl) (by kernel_rfl) (fun _ _ _ h => h) (Or.inl ⟨by rfl, ?_⟩) (by assumption) ?_
    rotate_left 1
    · (intro w hSw; (try dsimp only at hSw); first | (go_simp; done) | (go_simp; with_reducible rfl))
    simp only [Act.put, List.getElem_toArray, List.getElem_cons_zero, List.getElem_cons_succ, List.setIfInBounds_toArray, List.set_cons_zero, List.set_cons_succ]
    clear HS; have HS := Lib.hid hHeld; clear hHeld
    refine wpAnyH_done (by kernel_rfl) ?_ _
    go_wp2_with fail
    have S0 : Hid (∀ W, W = w8.drew → Below w.heap.size w W ∧ G4 W w.heap.size a b c d ∧ G4 W (w.heap.size + 1) e f g h ∧ W.cell? ⟨w.heap.size, 0, none⟩ = some (.int .i64 a) ∧ W.cell? ⟨w.heap.size, 1, none⟩ = some (.int .i64 b) ∧ W.cell? ⟨w.heap.size, 2, none⟩ = some (.int .i64 c) ∧ W.cell? ⟨w.heap.size, 3, none⟩ = some (.int .i64 d) ∧ W.cell? ⟨w.heap.size + 1, 0, none⟩ = some (.int .i64 e) ∧ W.cell? ⟨w.heap.size + 1, 1, none⟩ = some (.int .i64 f) ∧ W.cell? ⟨w.heap.size + 1, 2, none⟩ = some (.int .i64 g) ∧ W.cell? ⟨w.heap.size + 1, 3, none⟩ = some (.int .i64 h)) := by
      intro W e0; subst e0
      exact ⟨HS.out.1.drew, HS.out.2⟩
    refine wp_region_held_drew (S := fun w' => Below w.heap.size w w' ∧ G4 w' w.heap.size a b c d ∧ G4 w' (w.heap.size + 1) e f g h ∧ w'.cell? ⟨w.heap.size, 0, none⟩ = some (.int .i64 a) ∧ w'.cell? ⟨w.heap.size, 1, none⟩ = some (.int .i64 b) ∧ w'.cell? ⟨w.heap.size, 2, none⟩ = some (.int .i64 c) ∧ w'.cell? ⟨w.heap.size, 3, none⟩ = some (.int .i64 d) ∧ w'.cell? ⟨w.heap.size + 1, 0, none⟩ = some (.int .i64 e) ∧ w'.cell? ⟨w.heap.size + 1, 1, none⟩ = some (.int .i64 f) ∧ w'.cell? ⟨w.heap.size + 1, 2, none⟩ = some (.int .i64 g) ∧ w'.cell? ⟨w.heap.size + 1, 3, none⟩ = some (.int .i64 h)) (by kernel_rfl) (S0.out _ rfl) (fun hHeld => ?_)
    clear S0
    refine wpAnyH_take (i := 0) (v := ?_) rfl (by kernel_rfl) (by kernel_rfl) (by kernel_rfl) (fun _ _ _ h => h) (Or.inl ⟨by rfl, ?_⟩) (by assumption) ?_
    rotate_left 1
    · (intro w hSw; (try dsimp only at hSw); first | (go_simp; done) | (go_simp; with_reducible rfl))
    simp only [Act.put, List.getElem_toArray, List.getElem_cons_zero, List.setIfInBounds_toArray, List.set_cons_zero, List.set_cons_succ]
    refine wpAnyH_take (i := 1) (v := ?_) rfl (by kernel_rfl) (by kernel_rfl) (by kernel_rfl) (fun _ _ _ h => h) (Or.inl ⟨by rfl, ?_⟩) (by assumption) ?_
    rotate_left 1
    · (intro w hSw; (try dsimp only at hSw); first | (go_simp; done) | (go_simp; with_reducible rfl))
    simp only [Act.put, List.getElem_toArray, List.getElem_cons_zero, List.getElem_cons_succ, List.setIfInBounds_toArray, List.set_cons_zero, List.set_cons_succ]
    refine wpAnyH_take (i := 2) (v := ?_) rfl (by kernel_rfl) (by kernel_rfl) (by kernel_rfl) (fun _ _ _ h => h) (Or.inl ⟨by rfl, ?_⟩) (by assumption) ?_
    rotate_left 1
    · (intro w hSw; (try dsimp only at hSw); first | (go_simp; done) | (go_simp; with_reducible rfl))
    simp only [Act.put, List.getElem_toArray, List.getElem_cons_zero, List.getElem_cons_succ, List.setIfInBounds_toArray, List.set_cons_zero, List.set_cons_succ]
    refine wpAnyH_take (i := 3) (v := ?_) rfl (by kernel_rfl) (by kernel_rfl) (by kernel_rfl) (fun _ _ _ h => h) (Or.inl ⟨by rfl, ?_⟩) (by assumption) ?_
    rotate_left 1
    · (intro w hSw; (try dsimp only at hSw); first | (go_simp; done) | (go_simp; with_reducible rfl))
    simp only [Act.put, List.getElem_toArray, List.getElem_cons_zero, List.getElem_cons_succ, List.setIfInBounds_toArray, List.set_cons_zero, List.set_cons_succ]
    refine wpAnyH_take (i := 4) (v := ?_) rfl (by kernel_rfl) (by kernel_rfl) (by kernel_rfl) (fun _ _ _ h => h) (Or.inl ⟨by rfl, ?_⟩) (by assumption) ?_
    rotate_left 1
    · (intro w hSw; (try dsimp only at hSw); first | (go_simp; done) | (go_simp; with_reducible rfl))
    simp only [Act.put, List.getElem_toArray, List.getElem_cons_zero, List.getElem_cons_succ, List.setIfInBounds_toArray, List.set_cons_zero, List.set_cons_succ]
    refine wpAnyH_take (i := 5) (v := ?_) rfl (by kernel_rfl) (by kernel_rfl) (by kernel_rfl) (fun _ _ _ h => h) (Or.inl ⟨by rfl, ?_⟩) (by assumption) ?_
    rotate_left 1
    · (intro w hSw; (try dsimp only at hSw); first | (go_simp; done) | (go_simp; with_reducible rfl))
    simp only [Act.put, List.getElem_toArray, List.getElem_cons_zero, List.getElem_cons_succ, List.setIfInBounds_toArray, List.set_cons_zero, List.set_cons_succ]
    refine wpAnyH_take (i := 8) (v := ?_) rfl (by kernel_rfl) (by kernel_rfl) (by kernel_rfl) (fun _ _ _ h => h) (Or.inl ⟨by rfl, ?_⟩) (by assumption) ?_
    rotate_left 1
    · (intro w hSw; (try dsimp only at hSw); first | (go_simp; done) | (go_simp; with_reducible rfl))
    simp only [Act.put, List.getElem_toArray, List.getElem_cons_zero, List.getElem_cons_succ, List.setIfInBounds_toArray, List.set_cons_zero, List.set_cons_succ]
    refine wpAnyH_take (i := 9) (v := ?_) rfl (by kernel_rfl) (by kernel_rfl) (by kernel_rfl) (fun _ _ _ h => h) (Or.inl ⟨by rfl, ?_⟩) (by assumption) ?_
    rotate_left 1
    · (intro w hSw; (try dsimp only at hSw); first | (go_simp; done) | (go_simp; with_reducible rfl))
    simp only [Act.put, List.getElem_toArray, List.getElem_cons_zero, List.getElem_cons_succ, List.setIfInBounds_toArray, List.set_cons_zero, List.set_cons_succ]
    refine wpAnyH_take (i := 10) (v := ?_) rfl (by kernel_rfl) (by kernel_rfl) (by kernel_rfl) (fun _ _ _ h => h) (Or.inl ⟨by rfl, ?_⟩) (by assumption) ?_
    rotate_left 1
    · (intro w hSw; (try dsimp only at hSw); first | (go_simp; done) | (go_simp; with_reducible rfl))
    simp only [Act.put, List.getElem_toArray, List.getElem_cons_zero, List.getElem_cons_succ, List.setIfInBounds_toArray, List.set_cons_zero, List.set_cons_succ]
    refine wpAnyH_take (i := 11) (v := ?_) rfl (by kernel_rfl) (by kernel_rfl) (by kernel_rfl) (fun _ _ _ h => h) (Or.inl ⟨by rfl, ?_⟩) (by assumption) ?_
    rotate_left 1
    · (intro w hSw; (try dsimp only at hSw); first | (go_simp; done) | (go_simp; with_reducible rfl))
    simp only [Act.put, List.getElem_toArray, List.getElem_cons_zero, List.getElem_cons_succ, List.setIfInBounds_toArray, List.set_cons_zero, List.set_cons_succ]
    refine wpAnyH_take (i := 12) (v := ?_) rfl (by kernel_rfl) (by kernel_rfl) (by kernel_rfl) (fun _ _ _ h => h) (Or.inl ⟨by rfl, ?_⟩) (by assumption) ?_
    rotate_left 1
    · (intro w hSw; (try dsimp only at hSw); first | (go_simp; done) | (go_simp; with_reducible rfl))
    simp only [Act.put, List.getElem_toArray, List.getElem_cons_zero, List.getElem_cons_succ, List.setIfInBounds_toArray, List.set_cons_zero, List.set_cons_succ]
    refine wpAnyH_take (i := 13) (v := ?_) rfl (by kernel_rfl) (by kernel_rfl) (by kernel_rfl) (fun _ _ _ h => h) (Or.inl ⟨by rfl, ?_⟩) (by assumption) ?_
    rotate_left 1
    · (intro w hSw; (try dsimp only at hSw); first | (go_simp; done) | (go_simp; with_reducible rfl))
    simp only [Act.put, List.getElem_toArray, List.getElem_cons_zero, List.getElem_cons_succ, List.setIfInBounds_toArray, List.set_cons_zero, List.set_cons_succ]
    refine wpAnyH_ready (rs := [6]) (by kernel_rfl) (by simp) ?_
    refine AllReadyH.cons rfl (fun K hK => ?_) AllReadyH.nil
    have hS1 := Lib.hid hHeld
    go_simp
    go_wp2_with (go_at_call 19; (with_reducible refine (turnr_any e f g h a b _).mono ?_); rintro en w8 ⟨rfl, b8⟩)
    have hS2 := Lib.hid (s4_keep b8 hS1.out)
    refine hK.out _ _ hS2.out (fun hHeld2 => ?_)
    clear hK K hHeld hS1 hS2 b8; have hHeld := hHeld2; clear hHeld2
    refine wpAnyH_ready (rs := [7]) (by kernel_rfl) (by simp) ?_
    refine AllReadyH.cons rfl (fun K hK => ?_) AllReadyH.nil
    have hS1 := Lib.hid hHeld
    go_simp
    go_wp2_with (go_at_call 48; (with_reducible refine (sign48 (trn e f g h a b) _).mono ?_); rintro en w8 ⟨rfl, b8⟩)
    have hS2 := Lib.hid (s4_keep b8 hS1.out)
    refine hK.out _ _ hS2.out (fun hHeld2 => ?_)
    clear hK K hHeld hS1 hS2 b8; have hHeld := hHeld2; clear hHeld2
    refine wpAnyH_ready (rs := [14]) (by kernel_rfl) (by simp) ?_
    refine AllReadyH.cons rfl (fun K hK => ?_) AllReadyH.nil
    have hS1 := Lib.hid hHeld
    go_simp
    go_wp2_with (go_at_call 19; (with_reducible refine (turnr_any e f g h c d _).mono ?_); rintro en w8 ⟨rfl, b8⟩)
    have hS2 := Lib.hid (s4_keep b8 hS1.out)
    refine hK.out _ _ hS2.out (fun hHeld2 => ?_)
    clear hK K hHeld hS1 hS2 b8; have hHeld := hHeld2; clear hHeld2
    refine wpAnyH_ready (rs := [15]) (by kernel_rfl) (by simp) ?_
    refine AllReadyH.cons rfl (fun K hK => ?_) AllReadyH.nil
    have hS1 := Lib.hid hHeld
    go_simp
    go_wp2_with (go_at_call 48; (with_reducible refine (sign48 (trn e f g h c d) _).mono ?_); rintro en w8 ⟨rfl, b8⟩)
    have hS2 := Lib.hid (s4_keep b8 hS1.out)
    refine hK.out _ _ hS2.out (fun hHeld2 => ?_)
    clear hK K hHeld hS1 hS2 b8; have hHeld := hHeld2; clear hHeld2
    refine wpAnyH_take (i := 16) (v := ?_) rfl (by kernel_rfl) (by kernel_rfl) (by kernel_rfl) (fun _ _ _ h => h) (Or.inl ⟨by rfl, ?_⟩) (by assumption) ?_
    rotate_left 1
    · (intro w hSw; (try dsimp only at hSw); first | (go_simp; done) | (go_simp; with_reducible rfl))
    simp only [Act.put, List.getElem_toArray, List.getElem_cons_zero, List.getElem_cons_succ, List.setIfInBounds_toArray, List.set_cons_zero, List.set_cons_succ]
    refine wpAnyH_take (i := 17) (v := ?_) rfl (by kernel_rfl) (by kernel_rfl) (by kernel_rfl) (fun _ _ _ h => h) (Or.inl ⟨by rfl, ?_⟩) (by assumption) ?_
    rotate_left 1
    · (intro w hSw; (try dsimp only at hSw); first | (go_simp; done) | (go_simp; with_reducible rfl))
    simp only [Act.put, List.getElem_toArray, List.getElem_cons_zero, List.getElem_cons_succ, List.setIfInBounds_toArray, List.set_cons_zero, List.set_cons_succ]
    clear HS; have HS := Lib.hid hHeld; clear hHeld
    refine wpAnyH_done (by kernel_rfl) ?_ _
    obtain ⟨X1, hX1⟩ : ∃ X1, sg1 (trn a b c d e f) = X1 := ⟨_, rfl⟩
    obtain ⟨X2, hX2⟩ : ∃ X2, sg1 (trn a b c d g h) = X2 := ⟨_, rfl⟩
    obtain ⟨X3, hX3⟩ : ∃ X3, sg1 (trn e f g h a b) = X3 := ⟨_, rfl⟩
    obtain ⟨X4, hX4⟩ : ∃ X4, sg1 (trn e f g h c d) = X4 := ⟨_, rfl⟩
    rw [hX1, hX2, hX3, hX4]
    have q12 := sg_spl (trn a b c d e f) (trn a b c d g h)
    have q34 := sg_spl (trn e f g h a b) (trn e f g h c d)
    have d1 := sg1_bd (trn a b c d e f); have d2 := sg1_bd (trn a b c d g h); have d3 := sg1_bd (trn e f g h a b); have d4 := sg1_bd (trn e f g h c d)
    rw [hX1] at q12 d1; rw [hX2] at q12 d2; rw [hX3] at q34 d3; rw [hX4] at q34 d4
    obtain ⟨P1, hP1⟩ : ∃ P1, X1 * X2 = P1 := ⟨_, rfl⟩
    obtain ⟨P2, hP2⟩ : ∃ P2, X3 * X4 = P2 := ⟨_, rfl⟩
    rw [hP1] at q12; rw [hP2] at q34
    have w1 : IntKind.i64.wrap (X1 * X2) = P1 := by have := mulb (x := X1) (y := X2) (by omega) (by omega) (by omega) (by omega); rw [hP1, IntKind.wrap_i64]; rw [hP1] at this; omega
    have w2 : IntKind.i64.wrap (X3 * X4) = P2 := by have := mulb (x := X3) (y := X4) (by omega) (by omega) (by omega) (by omega); rw [hP2, IntKind.wrap_i64]; rw [hP2] at this; omega
    have Q12 := Lib.hid q12; have Q34 := Lib.hid q34
    clear q12 q34 d1 d2 d3 d4 hP1 hP2 hX1 hX2 hX3 hX4
    go_upto_region 5 with fail
    go_cut [83] (fun s83 wx => s83 = .bool (crB a b c d e f g h) ∧ Hid (Below w.heap.size w wx ∧ G4 wx w.heap.size a b c d ∧ G4 wx (w.heap.size + 1) e f g h ∧ wx.cell? ⟨w.heap.size, 0, none⟩ = some (.int .i64 a) ∧ wx.cell? ⟨w.heap.size, 1, none⟩ = some (.int .i64 b) ∧ wx.cell? ⟨w.heap.size, 2, none⟩ = some (.int .i64 c) ∧ wx.cell? ⟨w.heap.size, 3, none⟩ = some (.int .i64 d) ∧ wx.cell? ⟨w.heap.size + 1, 0, none⟩ = some (.int .i64 e) ∧ wx.cell? ⟨w.heap.size + 1, 1, none⟩ = some (.int .i64 f) ∧ wx.cell? ⟨w.heap.size + 1, 2, none⟩ = some (.int .i64 g) ∧ wx.cell? ⟨w.heap.size + 1, 3, none⟩ = some (.int .i64 h)))
    case first =>
      by_cases p1 : P1 < 0
      · by_cases p2 : P2 < 0
        · have CR := Lib.hid (show crB a b c d e f g h = true by unfold crB; rw [Q12.out.1 p1, Q34.out.1 p2]; rfl)
          go_wp2_with fail
          go_meet
          exact ⟨by rw [CR.out], HS.out⟩
        · have CR := Lib.hid (show crB a b c d e f g h = false by unfold crB; rw [show splB (trn e f g h a b) (trn e f g h c d) = false by simpa using fun h => p2 (Q34.out.2 h)]; simp)
          go_wp2_with fail
          go_meet
          exact ⟨by rw [CR.out], HS.out⟩
      · have CR := Lib.hid (show crB a b c d e f g h = false by unfold crB; rw [show splB (trn a b c d e f) (trn a b c d g h) = false by simpa using fun h => p1 (Q12.out.2 h)]; simp)
        go_wp2_with fail
        go_meet
        exact ⟨by rw [CR.out], HS.out⟩
    case rest =>
      clear w1 w2 Q12 Q34 HS
      obtain ⟨rfl, HS⟩ := hcut
      obtain ⟨kk, hkk⟩ : ∃ kk, crB a b c d e f g h = kk := ⟨_, rfl⟩
      rw [hkk]
      have CR := Lib.hid hkk; clear hkk
      cases kk
      rotate_left 1
      · go_wp2_with fail
        go_ret
        exact ⟨by rw [rel_2 K.out CR.out]; rfl, HS.out.1⟩
      obtain ⟨_, _, _, c0, c1, c2, c3, d0, d1, d2, d3⟩ := HS.out
      obtain ⟨W7, hW7⟩ : ∃ W7, wc.alloc (Obj.cells #[.int .i64 a, .int .i64 b, .int .i64 c, .int .i64 d, .int .i64 e, .int .i64 f, .int .i64 g, .int .i64 h] 23) = W7 := ⟨_, rfl⟩
      have PE := pts4 wc a b c d e f g h 23 _ rfl
      have b7 : Below wc.heap.size wc W7 := by rw [← hW7]; exact (Below.refl _ _).alloc (Nat.le_refl _) _
      rw [hW7] at PE
      have HS7 := Lib.hid (s4_keep b7 HS.out)
      have EC : Hid (∀ i, i < 4 → W7.cell? ⟨wc.heap.size, i * 2, none⟩ = some (.int .i64 ((ens a b c d e f g h).getD i (0, 0)).1) ∧ W7.cell? ⟨wc.heap.size, i * 2 + 1, none⟩ = some (.int .i64 ((ens a b c d e f g h).getD i (0, 0)).2)) := by
        intro i hi
        obtain ⟨b0, off, e0, k1, k2⟩ := PE.at hi
        injection e0 with e0; injection e0 with e1 e2 e3; subst e1 e2
        simp only [Nat.zero_add] at k1 k2
        exact ⟨k1, k2⟩
      have EL : Hid (wc.heap.size < W7.heap.size) := by show _ < _; rw [← hW7, World.size_alloc]; omega
      clear PE b7 HS
      go_wp2_with fail
      clear c0 c1 c2 c3 d0 d1 d2 d3 hW7
      go_loopw [10, 11] (fun s10 s11 wr => ∃ i : Nat, i ≤ 4 ∧ s11 = .int .i64 i ∧ Hid (wr.ownsRow W7.heap.size 23 2 s10 (preL a b c d e f g h i).length (pcs (preL a b c d e f g h i))) ∧ Hid (Below W7.heap.size W7 wr)) (fun _ s11 _ => 4 - (intOf s11).toNat)
      case atStart => exact ⟨0, by omega, rfl, World.ownsRow_nil _ _ _ _, Below.refl _ _⟩
      case round =>
        obtain ⟨i, hi, rfl, RO, BB⟩ := hrel
        obtain ⟨a5, c5, rfl⟩ := rowf RO.out
        have hlen := pre_len a b c d e f g h i hi
        obtain ⟨LL, hLL⟩ : ∃ LL, preL a b c d e f g h i = LL := ⟨_, rfl⟩
        rw [hLL] at RO hlen ⊢
        obtain ⟨m, hm⟩ : ∃ m, LL.length = m := ⟨_, rfl⟩
        rw [hm] at RO hlen ⊢
        have HLL := Lib.hid hLL; have HM := Lib.hid hm; clear hLL hm
        by_cases hi4 : i < 4
        · obtain ⟨p, hp⟩ : ∃ p, (ens a b c d e f g h).getD i (0, 0) = p := ⟨_, rfl⟩
          have ec := EC.out i hi4
          have PS := Lib.hid (pre_succ a b c d e f g h hi4)
          rw [hp] at ec
          have PS2 : Hid (preL a b c d e f g h (i + 1) = stepL LL (p, onE a b c d e f g h p)) := by show _ = _; rw [PS.out, HLL.out, hp]
          clear PS hp
          obtain ⟨x, y⟩ := p
          have EN := Lib.hid ec
          have e1 := old BB.out ec.1; have e2 := old BB.out ec.2
          have HSr := Lib.hid (s4_keep BB.out HS7.out)
          clear ec
          have ii0 : (0 : Int) ≤ (i : Int) := by omega
          have ii4 : (i : Int) < 4 := by omega
          obtain ⟨o1, ho1⟩ : ∃ o1, onB x y a b c d = o1 := ⟨_, rfl⟩
          obtain ⟨o2, ho2⟩ : ∃ o2, onB x y e f g h = o2 := ⟨_, rfl⟩
          have HO1 := Lib.hid ho1; have HO2 := Lib.hid ho2; clear ho1 ho2
          cases o1
          · go_wp2_with fail
            have S0 : Hid (∀ W, W = wr.drew → Below wr.heap.size wr W ∧ (Below w.heap.size w W ∧ G4 W w.heap.size a b c d ∧ G4 W (w.heap.size + 1) e f g h ∧ W.cell? ⟨w.heap.size, 0, none⟩ = some (.int .i64 a) ∧ W.cell? ⟨w.heap.size, 1, none⟩ = some (.int .i64 b) ∧ W.cell? ⟨w.heap.size, 2, none⟩ = some (.int .i64 c) ∧ W.cell? ⟨w.heap.size, 3, none⟩ = some (.int .i64 d) ∧ W.cell? ⟨w.heap.size + 1, 0, none⟩ = some (.int .i64 e) ∧ W.cell? ⟨w.heap.size + 1, 1, none⟩ = some (.int .i64 f) ∧ W.cell? ⟨w.heap.size + 1, 2, none⟩ = some (.int .i64 g) ∧ W.cell? ⟨w.heap.size + 1, 3, none⟩ = some (.int .i64 h)) ∧ W.cell? ⟨wc.heap.size, i * 2, none⟩ = some (.int .i64 x) ∧ W.cell? ⟨wc.heap.size, i * 2 + 1, none⟩ = some (.int .i64 y)) := by
              intro W e0; subst e0
              exact ⟨(Below.refl _ _).drew, ⟨HSr.out.1.drew, HSr.out.2⟩, e1, e2⟩
            refine wp_region_held_drew (S := fun w' => Below wr.heap.size wr w' ∧ (Below w.heap.size w w' ∧ G4 w' w.heap.size a b c d ∧ G4 w' (w.heap.size + 1) e f g h ∧ w'.cell? ⟨w.heap.size, 0, none⟩ = some (.int .i64 a) ∧ w'.cell? ⟨w.heap.size, 1, none⟩ = some (.int .i64 b) ∧ w'.cell? ⟨w.heap.size, 2, none⟩ = some (.int .i64 c) ∧ w'.cell? ⟨w.heap.size, 3, none⟩ = some (.int .i64 d) ∧ w'.cell? ⟨w.heap.size + 1, 0, none⟩ = some (.int .i64 e) ∧ w'.cell? ⟨w.heap.size + 1, 1, none⟩ = some (.int .i64 f) ∧ w'.cell? ⟨w.heap.size + 1, 2, none⟩ = some (.int .i64 g) ∧ w'.cell? ⟨w.heap.size + 1, 3, none⟩ = some (.int .i64 h)) ∧ w'.cell? ⟨wc.heap.size, i * 2, none⟩ = some (.int .i64 x) ∧ w'.cell? ⟨wc.heap.size, i * 2 + 1, none⟩ = some (.int .i64 y)) (by kernel_rfl) (S0.out _ rfl) (fun hHeld => ?_)
            clear S0
            refine wpAnyH_take (i := 0) (v := ?_) rfl (by kernel_rfl) (by kernel_rfl) (by kernel_rfl) (fun _ _ _ h => h) (Or.inl ⟨by rfl, ?_⟩) (by assumption) ?_
            rotate_left 1
            · (intro w hSw; (try dsimp only at hSw); first | (go_simp; done) | (go_simp; with_reducible rfl))
            simp only [Act.put, List.getElem_toArray, List.getElem_cons_zero, List.setIfInBounds_toArray, List.set_cons_zero, List.set_cons_succ]
            refine wpAnyH_take (i := 1) (v := ?_) rfl (by kernel_rfl) (by kernel_rfl) (by kernel_rfl) (fun _ _ _ h => h) (Or.inl ⟨by rfl, ?_⟩) (by assumption) ?_
            rotate_left 1
            · (intro w hSw; (try dsimp only at hSw); first | (go_simp; done) | (go_simp; with_reducible rfl))
            simp only [Act.put, List.getElem_toArray, List.getElem_cons_zero, List.getElem_cons_succ, List.setIfInBounds_toArray, List.set_cons_zero, List.set_cons_succ]
            refine wpAnyH_take (i := 2) (v := ?_) rfl (by kernel_rfl) (by kernel_rfl) (by kernel_rfl) (fun _ _ _ h => h) (Or.inl ⟨by rfl, ?_⟩) (by assumption) ?_
            rotate_left 1
            · (intro w hSw; (try dsimp only at hSw); first | (go_simp; done) | (go_simp; with_reducible rfl))
            simp only [Act.put, List.getElem_toArray, List.getElem_cons_zero, List.getElem_cons_succ, List.setIfInBounds_toArray, List.set_cons_zero, List.set_cons_succ]
            refine wpAnyH_take (i := 3) (v := ?_) rfl (by kernel_rfl) (by kernel_rfl) (by kernel_rfl) (fun _ _ _ h => h) (Or.inl ⟨by rfl, ?_⟩) (by assumption) ?_
            rotate_left 1
            · (intro w hSw; (try dsimp only at hSw); first | (go_simp; done) | (go_simp; with_reducible rfl))
            simp only [Act.put, List.getElem_toArray, List.getElem_cons_zero, List.getElem_cons_succ, List.setIfInBounds_toArray, List.set_cons_zero, List.set_cons_succ]
            refine wpAnyH_take (i := 4) (v := ?_) rfl (by kernel_rfl) (by kernel_rfl) (by kernel_rfl) (fun _ _ _ h => h) (Or.inl ⟨by rfl, ?_⟩) (by assumption) ?_
            rotate_left 1
            · (intro w hSw; (try dsimp only at hSw); first | (go_simp; done) | (go_simp; with_reducible rfl))
            simp only [Act.put, List.getElem_toArray, List.getElem_cons_zero, List.getElem_cons_succ, List.setIfInBounds_toArray, List.set_cons_zero, List.set_cons_succ]
            refine wpAnyH_take (i := 5) (v := ?_) rfl (by kernel_rfl) (by kernel_rfl) (by kernel_rfl) (fun _ _ _ h => h) (Or.inl ⟨by rfl, ?_⟩) (by assumption) ?_
            rotate_left 1
            · (intro w hSw; (try dsimp only at hSw); first | (go_simp; done) | (go_simp; with_reducible rfl))
            simp only [Act.put, List.getElem_toArray, List.getElem_cons_zero, List.getElem_cons_succ, List.setIfInBounds_toArray, List.set_cons_zero, List.set_cons_succ]
            refine wpAnyH_take (i := 6) (v := ?_) rfl (by kernel_rfl) (by kernel_rfl) (by kernel_rfl) (fun _ _ _ h => h) (Or.inl ⟨by rfl, ?_⟩) (by assumption) ?_
            rotate_left 1
            · (intro w hSw; (try dsimp only at hSw); first | (go_simp; done) | (go_simp; with_reducible rfl))
            simp only [Act.put, List.getElem_toArray, List.getElem_cons_zero, List.getElem_cons_succ, List.setIfInBounds_toArray, List.set_cons_zero, List.set_cons_succ]
            refine wpAnyH_take (i := 7) (v := ?_) rfl (by kernel_rfl) (by kernel_rfl) (by kernel_rfl) (fun _ _ _ h => h) (Or.inl ⟨by rfl, ?_⟩) (by assumption) ?_
            rotate_left 1
            · (intro w hSw; (try dsimp only at hSw); first | (go_simp; done) | (go_simp; with_reducible rfl))
            simp only [Act.put, List.getElem_toArray, List.getElem_cons_zero, List.getElem_cons_succ, List.setIfInBounds_toArray, List.set_cons_zero, List.set_cons_succ]
            refine wpAnyH_ready (rs := [8]) (by kernel_rfl) (by simp) ?_
            refine AllReadyH.cons rfl (fun K hK => ?_) AllReadyH.nil
            have hS1 := Lib.hid hHeld
            go_simp
            go_wp2_with (go_at_call 21; (with_reducible refine (onr_any x y a b c d _).mono ?_); rintro en w8 ⟨rfl, b8⟩)
            rw [HO1.out]
            have hS2 := Lib.hid (s12_keep b8 hS1.out)
            refine hK.out _ _ hS2.out (fun hHeld2 => ?_)
            clear hK K hHeld hS1 hS2 b8; have hHeld := hHeld2; clear hHeld2
            refine wpAnyH_take (i := 9) (v := ?_) rfl (by kernel_rfl) (by kernel_rfl) (by kernel_rfl) (fun _ _ _ h => h) (Or.inl ⟨by rfl, ?_⟩) (by assumption) ?_
            rotate_left 1
            · (intro w hSw; (try dsimp only at hSw); first | (go_simp; done) | (go_simp; with_reducible rfl))
            simp only [Act.put, List.getElem_toArray, List.getElem_cons_zero, List.getElem_cons_succ, List.setIfInBounds_toArray, List.set_cons_zero, List.set_cons_succ]
            refine wpAnyH_take (i := 10) (v := ?_) rfl (by kernel_rfl) (by kernel_rfl) (by kernel_rfl) (fun _ _ _ h => h) (Or.inl ⟨by rfl, ?_⟩) (by assumption) ?_
            rotate_left 1
            · (intro w hSw; (try dsimp only at hSw); first | (go_simp; done) | (go_simp; with_reducible rfl))
            simp only [Act.put, List.getElem_toArray, List.getElem_cons_zero, List.getElem_cons_succ, List.setIfInBounds_toArray, List.set_cons_zero, List.set_cons_succ]
            refine wpAnyH_take (i := 11) (v := undef) rfl (by kernel_rfl) (by kernel_rfl) (by kernel_rfl) (fun _ _ _ h => h) (Or.inr ⟨by rfl, rfl⟩) (by assumption) ?_
            simp only [Act.put, List.getElem_toArray, List.getElem_cons_zero, List.getElem_cons_succ, List.setIfInBounds_toArray, List.set_cons_zero, List.set_cons_succ]
            refine wpAnyH_take (i := 12) (v := undef) rfl (by kernel_rfl) (by kernel_rfl) (by kernel_rfl) (fun _ _ _ h => h) (Or.inr ⟨by rfl, rfl⟩) (by assumption) ?_
            simp only [Act.put, List.getElem_toArray, List.getElem_cons_zero, List.getElem_cons_succ, List.setIfInBounds_toArray, List.set_cons_zero, List.set_cons_succ]
            refine wpAnyH_take (i := 13) (v := undef) rfl (by kernel_rfl) (by kernel_rfl) (by kernel_rfl) (fun _ _ _ h => h) (Or.inr ⟨by rfl, rfl⟩) (by assumption) ?_
            simp only [Act.put, List.getElem_toArray, List.getElem_cons_zero, List.getElem_cons_succ, List.setIfInBounds_toArray, List.set_cons_zero, List.set_cons_succ]
            refine wpAnyH_take (i := 14) (v := undef) rfl (by kernel_rfl) (by kernel_rfl) (by kernel_rfl) (fun _ _ _ h => h) (Or.inr ⟨by rfl, rfl⟩) (by assumption) ?_
            simp only [Act.put, List.getElem_toArray, List.getElem_cons_zero, List.getElem_cons_succ, List.setIfInBounds_toArray, List.set_cons_zero, List.set_cons_succ]
            refine wpAnyH_take (i := 15) (v := undef) rfl (by kernel_rfl) (by kernel_rfl) (by kernel_rfl) (fun _ _ _ h => h) (Or.inr ⟨by rfl, rfl⟩) (by assumption) ?_
            simp only [Act.put, List.getElem_toArray, List.getElem_cons_zero, List.getElem_cons_succ, List.setIfInBounds_toArray, List.set_cons_zero, List.set_cons_succ]
            refine wpAnyH_take (i := 16) (v := undef) rfl (by kernel_rfl) (by kernel_rfl) (by kernel_rfl) (fun _ _ _ h => h) (Or.inr ⟨by rfl, rfl⟩) (by assumption) ?_
            simp only [Act.put, List.getElem_toArray, List.getElem_cons_zero, List.getElem_cons_succ, List.setIfInBounds_toArray, List.set_cons_zero, List.set_cons_succ]
            refine wpAnyH_take (i := 17) (v := undef) rfl (by kernel_rfl) (by kernel_rfl) (by kernel_rfl) (fun _ _ _ h => h) (Or.inr ⟨by rfl, rfl⟩) (by assumption) ?_
            simp only [Act.put, List.getElem_toArray, List.getElem_cons_zero, List.getElem_cons_succ, List.setIfInBounds_toArray, List.set_cons_zero, List.set_cons_succ]
            refine wpAnyH_take (i := 18) (v := undef) rfl (by kernel_rfl) (by kernel_rfl) (by kernel_rfl) (fun _ _ _ h => h) (Or.inr ⟨by rfl, rfl⟩) (by assumption) ?_
            simp only [Act.put, List.getElem_toArray, List.getElem_cons_zero, List.getElem_cons_succ, List.setIfInBounds_toArray, List.set_cons_zero, List.set_cons_succ]
            refine wpAnyH_take (i := 19) (v := undef) rfl (by kernel_rfl) (by kernel_rfl) (by kernel_rfl) (fun _ _ _ h => h) (Or.inr ⟨by rfl, rfl⟩) (by assumption) ?_
            simp only [Act.put, List.getElem_toArray, List.getElem_cons_zero, List.getElem_cons_succ, List.setIfInBounds_toArray, List.set_cons_zero, List.set_cons_succ]
            refine wpAnyH_take (i := 20) (v := undef) rfl (by kernel_rfl) (by kernel_rfl) (by kernel_rfl) (fun _ _ _ h => h) (Or.inr ⟨by rfl, rfl⟩) (by assumption) ?_
            simp only [Act.put, List.getElem_toArray, List.getElem_cons_zero, List.getElem_cons_succ, List.setIfInBounds_toArray, List.set_cons_zero, List.set_cons_succ]
            refine wpAnyH_take (i := 21) (v := ?_) rfl (by kernel_rfl) (by kernel_rfl) (by kernel_rfl) (fun _ _ _ h => h) (Or.inl ⟨by rfl, ?_⟩) (by assumption) ?_
            rotate_left 1
            · (intro w hSw; (try dsimp only at hSw); first | (go_simp; done) | (go_simp; with_reducible rfl))
            simp only [Act.put, List.getElem_toArray, List.getElem_cons_zero, List.getElem_cons_succ, List.setIfInBounds_toArray, List.set_cons_zero, List.set_cons_succ]
            refine wpAnyH_done (by kernel_rfl) ?_ _
            have ROx := Lib.hid (row_keep RO.out hHeld.1)
            have BBx := Lib.hid (BB.out.trans (hHeld.1.mono BB.out.size))
            clear RO BB HSr e1 e2 hHeld
            go_wp2_with fail
            have PN : Hid (preL a b c d e f g h (i + 1) = LL) := by show _ = _; rw [PS2.out]; unfold onE; rw [show onB x y a b c d = false from HO1.out]; exact step_no
            go_roundw
            case rel => exact ⟨i + 1, by omega, by go_num, (by show World.ownsRow _ _ _ _ _ _ _; rw [PN.out, HM.out]; exact ROx.out), BBx⟩
            case measure => simp [intOf]; omega
          · go_wp2_with fail
            have S0 : Hid (∀ W, W = wr.drew → Below wr.heap.size wr W ∧ (Below w.heap.size w W ∧ G4 W w.heap.size a b c d ∧ G4 W (w.heap.size + 1) e f g h ∧ W.cell? ⟨w.heap.size, 0, none⟩ = some (.int .i64 a) ∧ W.cell? ⟨w.heap.size, 1, none⟩ = some (.int .i64 b) ∧ W.cell? ⟨w.heap.size, 2, none⟩ = some (.int .i64 c) ∧ W.cell? ⟨w.heap.size, 3, none⟩ = some (.int .i64 d) ∧ W.cell? ⟨w.heap.size + 1, 0, none⟩ = some (.int .i64 e) ∧ W.cell? ⟨w.heap.size + 1, 1, none⟩ = some (.int .i64 f) ∧ W.cell? ⟨w.heap.size + 1, 2, none⟩ = some (.int .i64 g) ∧ W.cell? ⟨w.heap.size + 1, 3, none⟩ = some (.int .i64 h)) ∧ W.cell? ⟨wc.heap.size, i * 2, none⟩ = some (.int .i64 x) ∧ W.cell? ⟨wc.heap.size, i * 2 + 1, none⟩ = some (.int .i64 y)) := by
              intro W e0; subst e0
              exact ⟨(Below.refl _ _).drew, ⟨HSr.out.1.drew, HSr.out.2⟩, e1, e2⟩
            refine wp_region_held_drew (S := fun w' => Below wr.heap.size wr w' ∧ (Below w.heap.size w w' ∧ G4 w' w.heap.size a b c d ∧ G4 w' (w.heap.size + 1) e f g h ∧ w'.cell? ⟨w.heap.size, 0, none⟩ = some (.int .i64 a) ∧ w'.cell? ⟨w.heap.size, 1, none⟩ = some (.int .i64 b) ∧ w'.cell? ⟨w.heap.size, 2, none⟩ = some (.int .i64 c) ∧ w'.cell? ⟨w.heap.size, 3, none⟩ = some (.int .i64 d) ∧ w'.cell? ⟨w.heap.size + 1, 0, none⟩ = some (.int .i64 e) ∧ w'.cell? ⟨w.heap.size + 1, 1, none⟩ = some (.int .i64 f) ∧ w'.cell? ⟨w.heap.size + 1, 2, none⟩ = some (.int .i64 g) ∧ w'.cell? ⟨w.heap.size + 1, 3, none⟩ = some (.int .i64 h)) ∧ w'.cell? ⟨wc.heap.size, i * 2, none⟩ = some (.int .i64 x) ∧ w'.cell? ⟨wc.heap.size, i * 2 + 1, none⟩ = some (.int .i64 y)) (by kernel_rfl) (S0.out _ rfl) (fun hHeld => ?_)
            clear S0
            refine wpAnyH_take (i := 0) (v := ?_) rfl (by kernel_rfl) (by kernel_rfl) (by kernel_rfl) (fun _ _ _ h => h) (Or.inl ⟨by rfl, ?_⟩) (by assumption) ?_
            rotate_left 1
            · (intro w hSw; (try dsimp only at hSw); first | (go_simp; done) | (go_simp; with_reducible rfl))
            simp only [Act.put, List.getElem_toArray, List.getElem_cons_zero, List.setIfInBounds_toArray, List.set_cons_zero, List.set_cons_succ]
            refine wpAnyH_take (i := 1) (v := ?_) rfl (by kernel_rfl) (by kernel_rfl) (by kernel_rfl) (fun _ _ _ h => h) (Or.inl ⟨by rfl, ?_⟩) (by assumption) ?_
            rotate_left 1
            · (intro w hSw; (try dsimp only at hSw); first | (go_simp; done) | (go_simp; with_reducible rfl))
            simp only [Act.put, List.getElem_toArray, List.getElem_cons_zero, List.getElem_cons_succ, List.setIfInBounds_toArray, List.set_cons_zero, List.set_cons_succ]
            refine wpAnyH_take (i := 2) (v := ?_) rfl (by kernel_rfl) (by kernel_rfl) (by kernel_rfl) (fun _ _ _ h => h) (Or.inl ⟨by rfl, ?_⟩) (by assumption) ?_
            rotate_left 1
            · (intro w hSw; (try dsimp only at hSw); first | (go_simp; done) | (go_simp; with_reducible rfl))
            simp only [Act.put, List.getElem_toArray, List.getElem_cons_zero, List.getElem_cons_succ, List.setIfInBounds_toArray, List.set_cons_zero, List.set_cons_succ]
            refine wpAnyH_take (i := 3) (v := ?_) rfl (by kernel_rfl) (by kernel_rfl) (by kernel_rfl) (fun _ _ _ h => h) (Or.inl ⟨by rfl, ?_⟩) (by assumption) ?_
            rotate_left 1
            · (intro w hSw; (try dsimp only at hSw); first | (go_simp; done) | (go_simp; with_reducible rfl))
            simp only [Act.put, List.getElem_toArray, List.getElem_cons_zero, List.getElem_cons_succ, List.setIfInBounds_toArray, List.set_cons_zero, List.set_cons_succ]
            refine wpAnyH_take (i := 4) (v := ?_) rfl (by kernel_rfl) (by kernel_rfl) (by kernel_rfl) (fun _ _ _ h => h) (Or.inl ⟨by rfl, ?_⟩) (by assumption) ?_
            rotate_left 1
            · (intro w hSw; (try dsimp only at hSw); first | (go_simp; done) | (go_simp; with_reducible rfl))
            simp only [Act.put, List.getElem_toArray, List.getElem_cons_zero, List.getElem_cons_succ, List.setIfInBounds_toArray, List.set_cons_zero, List.set_cons_succ]
            refine wpAnyH_take (i := 5) (v := ?_) rfl (by kernel_rfl) (by kernel_rfl) (by kernel_rfl) (fun _ _ _ h => h) (Or.inl ⟨by rfl, ?_⟩) (by assumption) ?_
            rotate_left 1
            · (intro w hSw; (try dsimp only at hSw); first | (go_simp; done) | (go_simp; with_reducible rfl))
            simp only [Act.put, List.getElem_toArray, List.getElem_cons_zero, List.getElem_cons_succ, List.setIfInBounds_toArray, List.set_cons_zero, List.set_cons_succ]
            refine wpAnyH_take (i := 6) (v := ?_) rfl (by kernel_rfl) (by kernel_rfl) (by kernel_rfl) (fun _ _ _ h => h) (Or.inl ⟨by rfl, ?_⟩) (by assumption) ?_
            rotate_left 1
            · (intro w hSw; (try dsimp only at hSw); first | (go_simp; done) | (go_simp; with_reducible rfl))
            simp only [Act.put, List.getElem_toArray, List.getElem_cons_zero, List.getElem_cons_succ, List.setIfInBounds_toArray, List.set_cons_zero, List.set_cons_succ]
            refine wpAnyH_take (i := 7) (v := ?_) rfl (by kernel_rfl) (by kernel_rfl) (by kernel_rfl) (fun _ _ _ h => h) (Or.inl ⟨by rfl, ?_⟩) (by assumption) ?_
            rotate_left 1
            · (intro w hSw; (try dsimp only at hSw); first | (go_simp; done) | (go_simp; with_reducible rfl))
            simp only [Act.put, List.getElem_toArray, List.getElem_cons_zero, List.getElem_cons_succ, List.setIfInBounds_toArray, List.set_cons_zero, List.set_cons_succ]
            refine wpAnyH_ready (rs := [8]) (by kernel_rfl) (by simp) ?_
            refine AllReadyH.cons rfl (fun K hK => ?_) AllReadyH.nil
            have hS1 := Lib.hid hHeld
            go_simp
            go_wp2_with (go_at_call 21; (with_reducible refine (onr_any x y a b c d _).mono ?_); rintro en w8 ⟨rfl, b8⟩)
            rw [HO1.out]
            have hS2 := Lib.hid (s12_keep b8 hS1.out)
            refine hK.out _ _ hS2.out (fun hHeld2 => ?_)
            clear hK K hHeld hS1 hS2 b8; have hHeld := hHeld2; clear hHeld2
            refine wpAnyH_take (i := 9) (v := ?_) rfl (by kernel_rfl) (by kernel_rfl) (by kernel_rfl) (fun _ _ _ h => h) (Or.inl ⟨by rfl, ?_⟩) (by assumption) ?_
            rotate_left 1
            · (intro w hSw; (try dsimp only at hSw); first | (go_simp; done) | (go_simp; with_reducible rfl))
            simp only [Act.put, List.getElem_toArray, List.getElem_cons_zero, List.getElem_cons_succ, List.setIfInBounds_toArray, List.set_cons_zero, List.set_cons_succ]
            refine wpAnyH_take (i := 10) (v := ?_) rfl (by kernel_rfl) (by kernel_rfl) (by kernel_rfl) (fun _ _ _ h => h) (Or.inl ⟨by rfl, ?_⟩) (by assumption) ?_
            rotate_left 1
            · (intro w hSw; (try dsimp only at hSw); first | (go_simp; done) | (go_simp; with_reducible rfl))
            simp only [Act.put, List.getElem_toArray, List.getElem_cons_zero, List.getElem_cons_succ, List.setIfInBounds_toArray, List.set_cons_zero, List.set_cons_succ]
            refine wpAnyH_take (i := 11) (v := ?_) rfl (by kernel_rfl) (by kernel_rfl) (by kernel_rfl) (fun _ _ _ h => h) (Or.inl ⟨by rfl, ?_⟩) (by assumption) ?_
            rotate_left 1
            · (intro w hSw; (try dsimp only at hSw); first | (go_simp; done) | (go_simp; with_reducible rfl))
            simp only [Act.put, List.getElem_toArray, List.getElem_cons_zero, List.getElem_cons_succ, List.setIfInBounds_toArray, List.set_cons_zero, List.set_cons_succ]
            refine wpAnyH_take (i := 12) (v := ?_) rfl (by kernel_rfl) (by kernel_rfl) (by kernel_rfl) (fun _ _ _ h => h) (Or.inl ⟨by rfl, ?_⟩) (by assumption) ?_
            rotate_left 1
            · (intro w hSw; (try dsimp only at hSw); first | (go_simp; done) | (go_simp; with_reducible rfl))
            simp only [Act.put, List.getElem_toArray, List.getElem_cons_zero, List.getElem_cons_succ, List.setIfInBounds_toArray, List.set_cons_zero, List.set_cons_succ]
            refine wpAnyH_take (i := 13) (v := ?_) rfl (by kernel_rfl) (by kernel_rfl) (by kernel_rfl) (fun _ _ _ h => h) (Or.inl ⟨by rfl, ?_⟩) (by assumption) ?_
            rotate_left 1
            · (intro w hSw; (try dsimp only at hSw); first | (go_simp; done) | (go_simp; with_reducible rfl))
            simp only [Act.put, List.getElem_toArray, List.getElem_cons_zero, List.getElem_cons_succ, List.setIfInBounds_toArray, List.set_cons_zero, List.set_cons_succ]
            refine wpAnyH_take (i := 14) (v := ?_) rfl (by kernel_rfl) (by kernel_rfl) (by kernel_rfl) (fun _ _ _ h => h) (Or.inl ⟨by rfl, ?_⟩) (by assumption) ?_
            rotate_left 1
            · (intro w hSw; (try dsimp only at hSw); first | (go_simp; done) | (go_simp; with_reducible rfl))
            simp only [Act.put, List.getElem_toArray, List.getElem_cons_zero, List.getElem_cons_succ, List.setIfInBounds_toArray, List.set_cons_zero, List.set_cons_succ]
            refine wpAnyH_take (i := 15) (v := ?_) rfl (by kernel_rfl) (by kernel_rfl) (by kernel_rfl) (fun _ _ _ h => h) (Or.inl ⟨by rfl, ?_⟩) (by assumption) ?_
            rotate_left 1
            · (intro w hSw; (try dsimp only at hSw); first | (go_simp; done) | (go_simp; with_reducible rfl))
            simp only [Act.put, List.getElem_toArray, List.getElem_cons_zero, List.getElem_cons_succ, List.setIfInBounds_toArray, List.set_cons_zero, List.set_cons_succ]
            refine wpAnyH_take (i := 16) (v := ?_) rfl (by kernel_rfl) (by kernel_rfl) (by kernel_rfl) (fun _ _ _ h => h) (Or.inl ⟨by rfl, ?_⟩) (by assumption) ?_
            rotate_left 1
            · (intro w hSw; (try dsimp only at hSw); first | (go_simp; done) | (go_simp; with_reducible rfl))
            simp only [Act.put, List.getElem_toArray, List.getElem_cons_zero, List.getElem_cons_succ, List.setIfInBounds_toArray, List.set_cons_zero, List.set_cons_succ]
            refine wpAnyH_take (i := 17) (v := ?_) rfl (by kernel_rfl) (by kernel_rfl) (by kernel_rfl) (fun _ _ _ h => h) (Or.inl ⟨by rfl, ?_⟩) (by assumption) ?_
            rotate_left 1
            · (intro w hSw; (try dsimp only at hSw); first | (go_simp; done) | (go_simp; with_reducible rfl))
            simp only [Act.put, List.getElem_toArray, List.getElem_cons_zero, List.getElem_cons_succ, List.setIfInBounds_toArray, List.set_cons_zero, List.set_cons_succ]
            refine wpAnyH_take (i := 18) (v := ?_) rfl (by kernel_rfl) (by kernel_rfl) (by kernel_rfl) (fun _ _ _ h => h) (Or.inl ⟨by rfl, ?_⟩) (by assumption) ?_
            rotate_left 1
            · (intro w hSw; (try dsimp only at hSw); first | (go_simp; done) | (go_simp; with_reducible rfl))
            simp only [Act.put, List.getElem_toArray, List.getElem_cons_zero, List.getElem_cons_succ, List.setIfInBounds_toArray, List.set_cons_zero, List.set_cons_succ]
            refine wpAnyH_ready (rs := [19]) (by kernel_rfl) (by simp) ?_
            refine AllReadyH.cons rfl (fun K hK => ?_) AllReadyH.nil
            have hS1 := Lib.hid hHeld
            go_simp
            go_wp2_with (go_at_call 21; (with_reducible refine (onr_any x y e f g h _).mono ?_); rintro en w8 ⟨rfl, b8⟩)
            rw [HO2.out]
            have hS2 := Lib.hid (s12_keep b8 hS1.out)
            refine hK.out _ _ hS2.out (fun hHeld2 => ?_)
            clear hK K hHeld hS1 hS2 b8; have hHeld := hHeld2; clear hHeld2
            cases o2
            · skip
              refine wpAnyH_take (i := 20) (v := ?_) rfl (by kernel_rfl) (by kernel_rfl) (by kernel_rfl) (fun _ _ _ h => h) (Or.inl ⟨by rfl, ?_⟩) (by assumption) ?_
              rotate_left 1
              · (intro w hSw; (try dsimp only at hSw); first | (go_simp; done) | (go_simp; with_reducible rfl))
              simp only [Act.put, List.getElem_toArray, List.getElem_cons_zero, List.getElem_cons_succ, List.setIfInBounds_toArray, List.set_cons_zero, List.set_cons_succ]
              refine wpAnyH_take (i := 21) (v := ?_) rfl (by kernel_rfl) (by kernel_rfl) (by kernel_rfl) (fun _ _ _ h => h) (Or.inl ⟨by rfl, ?_⟩) (by assumption) ?_
              rotate_left 1
              · (intro w hSw; (try dsimp only at hSw); first | (go_simp; done) | (go_simp; with_reducible rfl))
              simp only [Act.put, List.getElem_toArray, List.getElem_cons_zero, List.getElem_cons_succ, List.setIfInBounds_toArray, List.set_cons_zero, List.set_cons_succ]
              refine wpAnyH_done (by kernel_rfl) ?_ _
              have ROx := Lib.hid (row_keep RO.out hHeld.1)
              have BBx := Lib.hid (BB.out.trans (hHeld.1.mono BB.out.size))
              clear RO BB HSr e1 e2 hHeld
              go_wp2_with fail
              have PN : Hid (preL a b c d e f g h (i + 1) = LL) := by show _ = _; rw [PS2.out]; unfold onE; rw [show onB x y e f g h = false from HO2.out]; simp only [Bool.and_false]; exact step_no
              go_roundw
              case rel => exact ⟨i + 1, by omega, by go_num, (by show World.ownsRow _ _ _ _ _ _ _; rw [PN.out, HM.out]; exact ROx.out), BBx⟩
              case measure => simp [intOf]; omega
            · skip
              refine wpAnyH_take (i := 20) (v := ?_) rfl (by kernel_rfl) (by kernel_rfl) (by kernel_rfl) (fun _ _ _ h => h) (Or.inl ⟨by rfl, ?_⟩) (by assumption) ?_
              rotate_left 1
              · (intro w hSw; (try dsimp only at hSw); first | (go_simp; done) | (go_simp; with_reducible rfl))
              simp only [Act.put, List.getElem_toArray, List.getElem_cons_zero, List.getElem_cons_succ, List.setIfInBounds_toArray, List.set_cons_zero, List.set_cons_succ]
              refine wpAnyH_take (i := 21) (v := ?_) rfl (by kernel_rfl) (by kernel_rfl) (by kernel_rfl) (fun _ _ _ h => h) (Or.inl ⟨by rfl, ?_⟩) (by assumption) ?_
              rotate_left 1
              · (intro w hSw; (try dsimp only at hSw); first | (go_simp; done) | (go_simp; with_reducible rfl))
              simp only [Act.put, List.getElem_toArray, List.getElem_cons_zero, List.getElem_cons_succ, List.setIfInBounds_toArray, List.set_cons_zero, List.set_cons_succ]
              refine wpAnyH_done (by kernel_rfl) ?_ _
              have ROx := Lib.hid (row_keep RO.out hHeld.1)
              have BBx := Lib.hid (BB.out.trans (hHeld.1.mono BB.out.size))
              clear RO BB HSr e1 e2 hHeld
              have OE : Hid (onE a b c d e f g h (x, y) = true) := by show _ = _; unfold onE; rw [show onB x y a b c d = true from HO1.out, show onB x y e f g h = true from HO2.out]; rfl
              go_wp2_with fail
              go_loopw [12, 13] (fun s12 s13 wq => ∃ k : Nat, k ≤ m ∧ s13 = .int .i64 k ∧ s12 = .bool (decide ((x, y) ∈ LL.take k)) ∧ Hid (wq.ownsRow W7.heap.size 23 2 (.slice a5 m c5) m (pcs LL)) ∧ Hid (Below W7.heap.size W7 wq)) (fun _ s13 _ => m - (intOf s13).toNat)
              case atStart => exact ⟨0, by omega, rfl, rfl, ROx, BBx⟩
              case round =>
                clear ROx BBx
                obtain ⟨k, hk, rfl, rfl, ROx, BBx⟩ := hrel
                by_cases hkm : k < m
                · have hg := (row_cells (l := LL) (by rw [HM.out]; exact ROx.out)).2
                  obtain ⟨g5, rfl, hcs⟩ := hg (by rw [HM.out]; omega)
                  obtain ⟨r1, r2⟩ := hcs k (by rw [HM.out]; exact hkm)
                  obtain ⟨p2, hp2⟩ : ∃ p2, LL.getD k (0, 0) = p2 := ⟨_, rfl⟩
                  have MT := Lib.hid (mem_take (p := (x, y)) (L := LL) (k := k) (by rw [HM.out]; exact hkm))
                  rw [hp2] at r1 r2 MT
                  obtain ⟨x', y'⟩ := p2
                  clear hp2 hg hcs
                  have f1 := old BBx.out EN.out.1; have f2 := old BBx.out EN.out.2
                  have kk0 : (0 : Int) ≤ (k : Int) := by omega
                  have kkm : (k : Int) < (m : Int) := by omega
                  by_cases hin : (x, y) ∈ LL.take k
                  · rw [decide_eq_true hin]
                    have HIN := Lib.hid hin; clear hin
                    go_wp2_with fail
                    have S0 : Hid (∀ W, W = wr.drew → W.cell? ⟨g5, k * 2, none⟩ = some (.int .i64 x') ∧ W.cell? ⟨g5, k * 2 + 1, none⟩ = some (.int .i64 y') ∧ W.cell? ⟨wc.heap.size, i * 2, none⟩ = some (.int .i64 x) ∧ W.cell? ⟨wc.heap.size, i * 2 + 1, none⟩ = some (.int .i64 y)) := by
                      intro W e0; subst e0
                      exact ⟨r1, r2, f1, f2⟩
                    refine wp_region_held_drew (S := fun w' => w'.cell? ⟨g5, k * 2, none⟩ = some (.int .i64 x') ∧ w'.cell? ⟨g5, k * 2 + 1, none⟩ = some (.int .i64 y') ∧ w'.cell? ⟨wc.heap.size, i * 2, none⟩ = some (.int .i64 x) ∧ w'.cell? ⟨wc.heap.size, i * 2 + 1, none⟩ = some (.int .i64 y)) (by kernel_rfl) (S0.out _ rfl) (fun hHeld => ?_)
                    clear S0
                    refine wpAnyH_take (i := 0) (v := ?_) rfl (by kernel_rfl) (by kernel_rfl) (by kernel_rfl) (fun _ _ _ h => h) (Or.inl ⟨by rfl, ?_⟩) (by assumption) ?_
                    rotate_left 1
                    · (intro w hSw; (try dsimp only at hSw); first | (go_simp; done) | (go_simp; with_reducible rfl))
                    simp only [Act.put, List.getElem_toArray, List.getElem_cons_zero, List.setIfInBounds_toArray, List.set_cons_zero, List.set_cons_succ]
                    refine wpAnyH_take (i := 1) (v := ?_) rfl (by kernel_rfl) (by kernel_rfl) (by kernel_rfl) (fun _ _ _ h => h) (Or.inl ⟨by rfl, ?_⟩) (by assumption) ?_
                    rotate_left 1
                    · (intro w hSw; (try dsimp only at hSw); first | (go_simp; done) | (go_simp; with_reducible rfl))
                    simp only [Act.put, List.getElem_toArray, List.getElem_cons_zero, List.getElem_cons_succ, List.setIfInBounds_toArray, List.set_cons_zero, List.set_cons_succ]
                    refine wpAnyH_take (i := 2) (v := undef) rfl (by kernel_rfl) (by kernel_rfl) (by kernel_rfl) (fun _ _ _ h => h) (Or.inr ⟨by rfl, rfl⟩) (by assumption) ?_
                    simp only [Act.put, List.getElem_toArray, List.getElem_cons_zero, List.getElem_cons_succ, List.setIfInBounds_toArray, List.set_cons_zero, List.set_cons_succ]
                    refine wpAnyH_take (i := 3) (v := undef) rfl (by kernel_rfl) (by kernel_rfl) (by kernel_rfl) (fun _ _ _ h => h) (Or.inr ⟨by rfl, rfl⟩) (by assumption) ?_
                    simp only [Act.put, List.getElem_toArray, List.getElem_cons_zero, List.getElem_cons_succ, List.setIfInBounds_toArray, List.set_cons_zero, List.set_cons_succ]
                    refine wpAnyH_take (i := 4) (v := undef) rfl (by kernel_rfl) (by kernel_rfl) (by kernel_rfl) (fun _ _ _ h => h) (Or.inr ⟨by rfl, rfl⟩) (by assumption) ?_
                    simp only [Act.put, List.getElem_toArray, List.getElem_cons_zero, List.getElem_cons_succ, List.setIfInBounds_toArray, List.set_cons_zero, List.set_cons_succ]
                    refine wpAnyH_take (i := 5) (v := undef) rfl (by kernel_rfl) (by kernel_rfl) (by kernel_rfl) (fun _ _ _ h => h) (Or.inr ⟨by rfl, rfl⟩) (by assumption) ?_
                    simp only [Act.put, List.getElem_toArray, List.getElem_cons_zero, List.getElem_cons_succ, List.setIfInBounds_toArray, List.set_cons_zero, List.set_cons_succ]
                    refine wpAnyH_take (i := 6) (v := undef) rfl (by kernel_rfl) (by kernel_rfl) (by kernel_rfl) (fun _ _ _ h => h) (Or.inr ⟨by rfl, rfl⟩) (by assumption) ?_
                    simp only [Act.put, List.getElem_toArray, List.getElem_cons_zero, List.getElem_cons_succ, List.setIfInBounds_toArray, List.set_cons_zero, List.set_cons_succ]
                    refine wpAnyH_take (i := 7) (v := undef) rfl (by kernel_rfl) (by kernel_rfl) (by kernel_rfl) (fun _ _ _ h => h) (Or.inr ⟨by rfl, rfl⟩) (by assumption) ?_
                    simp only [Act.put, List.getElem_toArray, List.getElem_cons_zero, List.getElem_cons_succ, List.setIfInBounds_toArray, List.set_cons_zero, List.set_cons_succ]
                    refine wpAnyH_take (i := 8) (v := undef) rfl (by kernel_rfl) (by kernel_rfl) (by kernel_rfl) (fun _ _ _ h => h) (Or.inr ⟨by rfl, rfl⟩) (by assumption) ?_
                    simp only [Act.put, List.getElem_toArray, List.getElem_cons_zero, List.getElem_cons_succ, List.setIfInBounds_toArray, List.set_cons_zero, List.set_cons_succ]
                    refine wpAnyH_take (i := 9) (v := undef) rfl (by kernel_rfl) (by kernel_rfl) (by kernel_rfl) (fun _ _ _ h => h) (Or.inr ⟨by rfl, rfl⟩) (by assumption) ?_
                    simp only [Act.put, List.getElem_toArray, List.getElem_cons_zero, List.getElem_cons_succ, List.setIfInBounds_toArray, List.set_cons_zero, List.set_cons_succ]
                    refine wpAnyH_take (i := 10) (v := undef) rfl (by kernel_rfl) (by kernel_rfl) (by kernel_rfl) (fun _ _ _ h => h) (Or.inr ⟨by rfl, rfl⟩) (by assumption) ?_
                    simp only [Act.put, List.getElem_toArray, List.getElem_cons_zero, List.getElem_cons_succ, List.setIfInBounds_toArray, List.set_cons_zero, List.set_cons_succ]
                    refine wpAnyH_take (i := 11) (v := ?_) rfl (by kernel_rfl) (by kernel_rfl) (by kernel_rfl) (fun _ _ _ h => h) (Or.inl ⟨by rfl, ?_⟩) (by assumption) ?_
                    rotate_left 1
                    · (intro w hSw; (try dsimp only at hSw); first | (go_simp; done) | (go_simp; with_reducible rfl))
                    simp only [Act.put, List.getElem_toArray, List.getElem_cons_zero, List.getElem_cons_succ, List.setIfInBounds_toArray, List.set_cons_zero, List.set_cons_succ]
                    refine wpAnyH_take (i := 12) (v := ?_) rfl (by kernel_rfl) (by kernel_rfl) (by kernel_rfl) (fun _ _ _ h => h) (Or.inl ⟨by rfl, ?_⟩) (by assumption) ?_
                    rotate_left 1
                    · (intro w hSw; (try dsimp only at hSw); first | (go_simp; done) | (go_simp; with_reducible rfl))
                    simp only [Act.put, List.getElem_toArray, List.getElem_cons_zero, List.getElem_cons_succ, List.setIfInBounds_toArray, List.set_cons_zero, List.set_cons_succ]
                    refine wpAnyH_done (by kernel_rfl) ?_ _
                    clear hHeld
                    have MD : decide ((x, y) ∈ LL.take (k + 1)) = true := decide_eq_true (MT.out.2 (Or.inl HIN.out))
                    have HMD := Lib.hid MD; clear MD
                    have ROy := Lib.hid (row_keep ROx.out (Below.refl wr.heap.size wr).drew); have BBy := Lib.hid BBx.out.drew
                    clear ROx BBx r1 r2 f1 f2
                    go_wp2_with fail
                    go_roundw
                    case rel => exact ⟨k + 1, by omega, by go_num, by rw [HMD.out], ROy, BBy⟩
                    case measure => simp [intOf]; omega
                  · rw [decide_eq_false hin]
                    have HIN := Lib.hid hin; clear hin
                    by_cases hx : x = x'
                    · subst hx
                      by_cases hy : y = y'
                      · subst hy
                        go_wp2_with fail
                        have S0 : Hid (∀ W, W = wr.drew → W.cell? ⟨g5, k * 2, none⟩ = some (.int .i64 x) ∧ W.cell? ⟨g5, k * 2 + 1, none⟩ = some (.int .i64 y) ∧ W.cell? ⟨wc.heap.size, i * 2, none⟩ = some (.int .i64 x) ∧ W.cell? ⟨wc.heap.size, i * 2 + 1, none⟩ = some (.int .i64 y)) := by
                          intro W e0; subst e0
                          exact ⟨r1, r2, f1, f2⟩
                        refine wp_region_held_drew (S := fun w' => w'.cell? ⟨g5, k * 2, none⟩ = some (.int .i64 x) ∧ w'.cell? ⟨g5, k * 2 + 1, none⟩ = some (.int .i64 y) ∧ w'.cell? ⟨wc.heap.size, i * 2, none⟩ = some (.int .i64 x) ∧ w'.cell? ⟨wc.heap.size, i * 2 + 1, none⟩ = some (.int .i64 y)) (by kernel_rfl) (S0.out _ rfl) (fun hHeld => ?_)
                        clear S0
                        refine wpAnyH_take (i := 0) (v := ?_) rfl (by kernel_rfl) (by kernel_rfl) (by kernel_rfl) (fun _ _ _ h => h) (Or.inl ⟨by rfl, ?_⟩) (by assumption) ?_
                        rotate_left 1
                        · (intro w hSw; (try dsimp only at hSw); first | (go_simp; done) | (go_simp; with_reducible rfl))
                        simp only [Act.put, List.getElem_toArray, List.getElem_cons_zero, List.setIfInBounds_toArray, List.set_cons_zero, List.set_cons_succ]
                        refine wpAnyH_take (i := 1) (v := ?_) rfl (by kernel_rfl) (by kernel_rfl) (by kernel_rfl) (fun _ _ _ h => h) (Or.inl ⟨by rfl, ?_⟩) (by assumption) ?_
                        rotate_left 1
                        · (intro w hSw; (try dsimp only at hSw); first | (go_simp; done) | (go_simp; with_reducible rfl))
                        simp only [Act.put, List.getElem_toArray, List.getElem_cons_zero, List.getElem_cons_succ, List.setIfInBounds_toArray, List.set_cons_zero, List.set_cons_succ]
                        refine wpAnyH_take (i := 2) (v := ?_) rfl (by kernel_rfl) (by kernel_rfl) (by kernel_rfl) (fun _ _ _ h => h) (Or.inl ⟨by rfl, ?_⟩) (by assumption) ?_
                        rotate_left 1
                        · (intro w hSw; (try dsimp only at hSw); first | (go_simp; done) | (go_simp; with_reducible rfl))
                        simp only [Act.put, List.getElem_toArray, List.getElem_cons_zero, List.getElem_cons_succ, List.setIfInBounds_toArray, List.set_cons_zero, List.set_cons_succ]
                        refine wpAnyH_take (i := 3) (v := ?_) rfl (by kernel_rfl) (by kernel_rfl) (by kernel_rfl) (fun _ _ _ h => h) (Or.inl ⟨by rfl, ?_⟩) (by assumption) ?_
                        rotate_left 1
                        · (intro w hSw; (try dsimp only at hSw); first | (go_simp; done) | (go_simp; with_reducible rfl))
                        simp only [Act.put, List.getElem_toArray, List.getElem_cons_zero, List.getElem_cons_succ, List.setIfInBounds_toArray, List.set_cons_zero, List.set_cons_succ]
                        refine wpAnyH_take (i := 4) (v := ?_) rfl (by kernel_rfl) (by kernel_rfl) (by kernel_rfl) (fun _ _ _ h => h) (Or.inl ⟨by rfl, ?_⟩) (by assumption) ?_
                        rotate_left 1
                        · (intro w hSw; (try dsimp only at hSw); first | (go_simp; done) | (go_simp; with_reducible rfl))
                        simp only [Act.put, List.getElem_toArray, List.getElem_cons_zero, List.getElem_cons_succ, List.setIfInBounds_toArray, List.set_cons_zero, List.set_cons_succ]
                        refine wpAnyH_take (i := 5) (v := ?_) rfl (by kernel_rfl) (by kernel_rfl) (by kernel_rfl) (fun _ _ _ h => h) (Or.inl ⟨by rfl, ?_⟩) (by assumption) ?_
                        rotate_left 1
                        · (intro w hSw; (try dsimp only at hSw); first | (go_simp; done) | (go_simp; with_reducible rfl))
                        simp only [Act.put, List.getElem_toArray, List.getElem_cons_zero, List.getElem_cons_succ, List.setIfInBounds_toArray, List.set_cons_zero, List.set_cons_succ]
                        refine wpAnyH_take (i := 6) (v := ?_) rfl (by kernel_rfl) (by kernel_rfl) (by kernel_rfl) (fun _ _ _ h => h) (Or.inl ⟨by rfl, ?_⟩) (by assumption) ?_
                        rotate_left 1
                        · (intro w hSw; (try dsimp only at hSw); first | (go_simp; done) | (go_simp; with_reducible rfl))
                        simp only [Act.put, List.getElem_toArray, List.getElem_cons_zero, List.getElem_cons_succ, List.setIfInBounds_toArray, List.set_cons_zero, List.set_cons_succ]
                        refine wpAnyH_take (i := 7) (v := ?_) rfl (by kernel_rfl) (by kernel_rfl) (by kernel_rfl) (fun _ _ _ h => h) (Or.inl ⟨by rfl, ?_⟩) (by assumption) ?_
                        rotate_left 1
                        · (intro w hSw; (try dsimp only at hSw); first | (go_simp; done) | (go_simp; with_reducible rfl))
                        simp only [Act.put, List.getElem_toArray, List.getElem_cons_zero, List.getElem_cons_succ, List.setIfInBounds_toArray, List.set_cons_zero, List.set_cons_succ]
                        refine wpAnyH_take (i := 8) (v := ?_) rfl (by kernel_rfl) (by kernel_rfl) (by kernel_rfl) (fun _ _ _ h => h) (Or.inl ⟨by rfl, ?_⟩) (by assumption) ?_
                        rotate_left 1
                        · (intro w hSw; (try dsimp only at hSw); first | (go_simp; done) | (go_simp; with_reducible rfl))
                        simp only [Act.put, List.getElem_toArray, List.getElem_cons_zero, List.getElem_cons_succ, List.setIfInBounds_toArray, List.set_cons_zero, List.set_cons_succ]
                        refine wpAnyH_take (i := 9) (v := ?_) rfl (by kernel_rfl) (by kernel_rfl) (by kernel_rfl) (fun _ _ _ h => h) (Or.inl ⟨by rfl, ?_⟩) (by assumption) ?_
                        rotate_left 1
                        · (intro w hSw; (try dsimp only at hSw); first | (go_simp; done) | (go_simp; with_reducible rfl))
                        simp only [Act.put, List.getElem_toArray, List.getElem_cons_zero, List.getElem_cons_succ, List.setIfInBounds_toArray, List.set_cons_zero, List.set_cons_succ]
                        refine wpAnyH_take (i := 10) (v := ?_) rfl (by kernel_rfl) (by kernel_rfl) (by kernel_rfl) (fun _ _ _ h => h) (Or.inl ⟨by rfl, ?_⟩) (by assumption) ?_
                        rotate_left 1
                        · (intro w hSw; (try dsimp only at hSw); first | (go_simp; done) | (go_simp; with_reducible rfl))
                        simp only [Act.put, List.getElem_toArray, List.getElem_cons_zero, List.getElem_cons_succ, List.setIfInBounds_toArray, List.set_cons_zero, List.set_cons_succ]
                        refine wpAnyH_take (i := 11) (v := ?_) rfl (by kernel_rfl) (by kernel_rfl) (by kernel_rfl) (fun _ _ _ h => h) (Or.inl ⟨by rfl, ?_⟩) (by assumption) ?_
                        rotate_left 1
                        · (intro w hSw; (try dsimp only at hSw); first | (go_simp; done) | (go_simp; with_reducible rfl))
                        simp only [Act.put, List.getElem_toArray, List.getElem_cons_zero, List.getElem_cons_succ, List.setIfInBounds_toArray, List.set_cons_zero, List.set_cons_succ]
                        refine wpAnyH_take (i := 12) (v := ?_) rfl (by kernel_rfl) (by kernel_rfl) (by kernel_rfl) (fun _ _ _ h => h) (Or.inl ⟨by rfl, ?_⟩) (by assumption) ?_
                        rotate_left 1
                        · (intro w hSw; (try dsimp only at hSw); first | (go_simp; done) | (go_simp; with_reducible rfl))
                        simp only [Act.put, List.getElem_toArray, List.getElem_cons_zero, List.getElem_cons_succ, List.setIfInBounds_toArray, List.set_cons_zero, List.set_cons_succ]
                        refine wpAnyH_done (by kernel_rfl) ?_ _
                        clear hHeld
                        have MD : decide ((x, y) ∈ LL.take (k + 1)) = true := decide_eq_true (MT.out.2 (Or.inr (by first | rfl | trivial)))
                        have HMD := Lib.hid MD; clear MD
                        have ROy := Lib.hid (row_keep ROx.out (Below.refl wr.heap.size wr).drew); have BBy := Lib.hid BBx.out.drew
                        clear ROx BBx r1 r2 f1 f2
                        go_wp2_with fail
                        go_roundw
                        case rel => exact ⟨k + 1, by omega, by go_num, by rw [HMD.out], ROy, BBy⟩
                        case measure => simp [intOf]; omega
                      · have hy' : ¬ y' = y := fun e0 => hy e0.symm
                        go_wp2_with fail
                        have S0 : Hid (∀ W, W = wr.drew → W.cell? ⟨g5, k * 2, none⟩ = some (.int .i64 x) ∧ W.cell? ⟨g5, k * 2 + 1, none⟩ = some (.int .i64 y') ∧ W.cell? ⟨wc.heap.size, i * 2, none⟩ = some (.int .i64 x) ∧ W.cell? ⟨wc.heap.size, i * 2 + 1, none⟩ = some (.int .i64 y)) := by
                          intro W e0; subst e0
                          exact ⟨r1, r2, f1, f2⟩
                        refine wp_region_held_drew (S := fun w' => w'.cell? ⟨g5, k * 2, none⟩ = some (.int .i64 x) ∧ w'.cell? ⟨g5, k * 2 + 1, none⟩ = some (.int .i64 y') ∧ w'.cell? ⟨wc.heap.size, i * 2, none⟩ = some (.int .i64 x) ∧ w'.cell? ⟨wc.heap.size, i * 2 + 1, none⟩ = some (.int .i64 y)) (by kernel_rfl) (S0.out _ rfl) (fun hHeld => ?_)
                        clear S0
                        refine wpAnyH_take (i := 0) (v := ?_) rfl (by kernel_rfl) (by kernel_rfl) (by kernel_rfl) (fun _ _ _ h => h) (Or.inl ⟨by rfl, ?_⟩) (by assumption) ?_
                        rotate_left 1
                        · (intro w hSw; (try dsimp only at hSw); first | (go_simp; done) | (go_simp; with_reducible rfl))
                        simp only [Act.put, List.getElem_toArray, List.getElem_cons_zero, List.setIfInBounds_toArray, List.set_cons_zero, List.set_cons_succ]
                        refine wpAnyH_take (i := 1) (v := ?_) rfl (by kernel_rfl) (by kernel_rfl) (by kernel_rfl) (fun _ _ _ h => h) (Or.inl ⟨by rfl, ?_⟩) (by assumption) ?_
                        rotate_left 1
                        · (intro w hSw; (try dsimp only at hSw); first | (go_simp; done) | (go_simp; with_reducible rfl))
                        simp only [Act.put, List.getElem_toArray, List.getElem_cons_zero, List.getElem_cons_succ, List.setIfInBounds_toArray, List.set_cons_zero, List.set_cons_succ]
                        refine wpAnyH_take (i := 2) (v := ?_) rfl (by kernel_rfl) (by kernel_rfl) (by kernel_rfl) (fun _ _ _ h => h) (Or.inl ⟨by rfl, ?_⟩) (by assumption) ?_
                        rotate_left 1
                        · (intro w hSw; (try dsimp only at hSw); first | (go_simp; done) | (go_simp; with_reducible rfl))
                        simp only [Act.put, List.getElem_toArray, List.getElem_cons_zero, List.getElem_cons_succ, List.setIfInBounds_toArray, List.set_cons_zero, List.set_cons_succ]
                        refine wpAnyH_take (i := 3) (v := ?_) rfl (by kernel_rfl) (by kernel_rfl) (by kernel_rfl) (fun _ _ _ h => h) (Or.inl ⟨by rfl, ?_⟩) (by assumption) ?_
                        rotate_left 1
                        · (intro w hSw; (try dsimp only at hSw); first | (go_simp; done) | (go_simp; with_reducible rfl))
                        simp only [Act.put, List.getElem_toArray, List.getElem_cons_zero, List.getElem_cons_succ, List.setIfInBounds_toArray, List.set_cons_zero, List.set_cons_succ]
                        refine wpAnyH_take (i := 4) (v := ?_) rfl (by kernel_rfl) (by kernel_rfl) (by kernel_rfl) (fun _ _ _ h => h) (Or.inl ⟨by rfl, ?_⟩) (by assumption) ?_
                        rotate_left 1
                        · (intro w hSw; (try dsimp only at hSw); first | (go_simp; done) | (go_simp; with_reducible rfl))
                        simp only [Act.put, List.getElem_toArray, List.getElem_cons_zero, List.getElem_cons_succ, List.setIfInBounds_toArray, List.set_cons_zero, List.set_cons_succ]
                        refine wpAnyH_take (i := 5) (v := ?_) rfl (by kernel_rfl) (by kernel_rfl) (by kernel_rfl) (fun _ _ _ h => h) (Or.inl ⟨by rfl, ?_⟩) (by assumption) ?_
                        rotate_left 1
                        · (intro w hSw; (try dsimp only at hSw); first | (go_simp; done) | (go_simp; with_reducible rfl))
                        simp only [Act.put, List.getElem_toArray, List.getElem_cons_zero, List.getElem_cons_succ, List.setIfInBounds_toArray, List.set_cons_zero, List.set_cons_succ]
                        refine wpAnyH_take (i := 6) (v := ?_) rfl (by kernel_rfl) (by kernel_rfl) (by kernel_rfl) (fun _ _ _ h => h) (Or.inl ⟨by rfl, ?_⟩) (by assumption) ?_
                        rotate_left 1
                        · (intro w hSw; (try dsimp only at hSw); first | (go_simp; done) | (go_simp; with_reducible rfl))
                        simp only [Act.put, List.getElem_toArray, List.getElem_cons_zero, List.getElem_cons_succ, List.setIfInBounds_toArray, List.set_cons_zero, List.set_cons_succ]
                        refine wpAnyH_take (i := 7) (v := ?_) rfl (by kernel_rfl) (by kernel_rfl) (by kernel_rfl) (fun _ _ _ h => h) (Or.inl ⟨by rfl, ?_⟩) (by assumption) ?_
                        rotate_left 1
                        · (intro w hSw; (try dsimp only at hSw); first | (go_simp; done) | (go_simp; with_reducible rfl))
                        simp only [Act.put, List.getElem_toArray, List.getElem_cons_zero, List.getElem_cons_succ, List.setIfInBounds_toArray, List.set_cons_zero, List.set_cons_succ]
                        refine wpAnyH_take (i := 8) (v := ?_) rfl (by kernel_rfl) (by kernel_rfl) (by kernel_rfl) (fun _ _ _ h => h) (Or.inl ⟨by rfl, ?_⟩) (by assumption) ?_
                        rotate_left 1
                        · (intro w hSw; (try dsimp only at hSw); first | (go_simp; done) | (go_simp; with_reducible rfl))
                        simp only [Act.put, List.getElem_toArray, List.getElem_cons_zero, List.getElem_cons_succ, List.setIfInBounds_toArray, List.set_cons_zero, List.set_cons_succ]
                        refine wpAnyH_take (i := 9) (v := ?_) rfl (by kernel_rfl) (by kernel_rfl) (by kernel_rfl) (fun _ _ _ h => h) (Or.inl ⟨by rfl, ?_⟩) (by assumption) ?_
                        rotate_left 1
                        · (intro w hSw; (try dsimp only at hSw); first | (go_simp; done) | (go_simp; with_reducible rfl))
                        simp only [Act.put, List.getElem_toArray, List.getElem_cons_zero, List.getElem_cons_succ, List.setIfInBounds_toArray, List.set_cons_zero, List.set_cons_succ]
                        refine wpAnyH_take (i := 10) (v := ?_) rfl (by kernel_rfl) (by kernel_rfl) (by kernel_rfl) (fun _ _ _ h => h) (Or.inl ⟨by rfl, ?_⟩) (by assumption) ?_
                        rotate_left 1
                        · (intro w hSw; (try dsimp only at hSw); first | (go_simp; done) | (go_simp; with_reducible rfl))
                        simp only [Act.put, List.getElem_toArray, List.getElem_cons_zero, List.getElem_cons_succ, List.setIfInBounds_toArray, List.set_cons_zero, List.set_cons_succ]
                        refine wpAnyH_take (i := 11) (v := ?_) rfl (by kernel_rfl) (by kernel_rfl) (by kernel_rfl) (fun _ _ _ h => h) (Or.inl ⟨by rfl, ?_⟩) (by assumption) ?_
                        rotate_left 1
                        · (intro w hSw; (try dsimp only at hSw); first | (go_simp; done) | (go_simp; with_reducible rfl))
                        simp only [Act.put, List.getElem_toArray, List.getElem_cons_zero, List.getElem_cons_succ, List.setIfInBounds_toArray, List.set_cons_zero, List.set_cons_succ]
                        refine wpAnyH_take (i := 12) (v := ?_) rfl (by kernel_rfl) (by kernel_rfl) (by kernel_rfl) (fun _ _ _ h => h) (Or.inl ⟨by rfl, ?_⟩) (by assumption) ?_
                        rotate_left 1
                        · (intro w hSw; (try dsimp only at hSw); first | (go_simp; done) | (go_simp; with_reducible rfl))
                        simp only [Act.put, List.getElem_toArray, List.getElem_cons_zero, List.getElem_cons_succ, List.setIfInBounds_toArray, List.set_cons_zero, List.set_cons_succ]
                        refine wpAnyH_done (by kernel_rfl) ?_ _
                        clear hHeld
                        have MD : decide ((x, y) ∈ LL.take (k + 1)) = false := decide_eq_false (fun h => (MT.out.1 h).elim HIN.out (fun e0 => hy' (by injection e0)))
                        have HMD := Lib.hid MD; clear MD
                        have ROy := Lib.hid (row_keep ROx.out (Below.refl wr.heap.size wr).drew); have BBy := Lib.hid BBx.out.drew
                        clear ROx BBx r1 r2 f1 f2
                        go_wp2_with fail
                        go_roundw
                        case rel => exact ⟨k + 1, by omega, by go_num, by rw [HMD.out], ROy, BBy⟩
                        case measure => simp [intOf]; omega
                    · have hx' : ¬ x' = x := fun e0 => hx e0.symm
                      go_wp2_with fail
                      have S0 : Hid (∀ W, W = wr.drew → W.cell? ⟨g5, k * 2, none⟩ = some (.int .i64 x') ∧ W.cell? ⟨g5, k * 2 + 1, none⟩ = some (.int .i64 y') ∧ W.cell? ⟨wc.heap.size, i * 2, none⟩ = some (.int .i64 x) ∧ W.cell? ⟨wc.heap.size, i * 2 + 1, none⟩ = some (.int .i64 y)) := by
                        intro W e0; subst e0
                        exact ⟨r1, r2, f1, f2⟩
                      refine wp_region_held_drew (S := fun w' => w'.cell? ⟨g5, k * 2, none⟩ = some (.int .i64 x') ∧ w'.cell? ⟨g5, k * 2 + 1, none⟩ = some (.int .i64 y') ∧ w'.cell? ⟨wc.heap.size, i * 2, none⟩ = some (.int .i64 x) ∧ w'.cell? ⟨wc.heap.size, i * 2 + 1, none⟩ = some (.int .i64 y)) (by kernel_rfl) (S0.out _ rfl) (fun hHeld => ?_)
                      clear S0
                      refine wpAnyH_take (i := 0) (v := ?_) rfl (by kernel_rfl) (by kernel_rfl) (by kernel_rfl) (fun _ _ _ h => h) (Or.inl ⟨by rfl, ?_⟩) (by assumption) ?_
                      rotate_left 1
                      · (intro w hSw; (try dsimp only at hSw); first | (go_simp; done) | (go_simp; with_reducible rfl))
                      simp only [Act.put, List.getElem_toArray, List.getElem_cons_zero, List.setIfInBounds_toArray, List.set_cons_zero, List.set_cons_succ]
                      refine wpAnyH_take (i := 1) (v := ?_) rfl (by kernel_rfl) (by kernel_rfl) (by kernel_rfl) (fun _ _ _ h => h) (Or.inl ⟨by rfl, ?_⟩) (by assumption) ?_
                      rotate_left 1
                      · (intro w hSw; (try dsimp only at hSw); first | (go_simp; done) | (go_simp; with_reducible rfl))
                      simp only [Act.put, List.getElem_toArray, List.getElem_cons_zero, List.getElem_cons_succ, List.setIfInBounds_toArray, List.set_cons_zero, List.set_cons_succ]
                      refine wpAnyH_take (i := 2) (v := ?_) rfl (by kernel_rfl) (by kernel_rfl) (by kernel_rfl) (fun _ _ _ h => h) (Or.inl ⟨by rfl, ?_⟩) (by assumption) ?_
                      rotate_left 1
                      · (intro w hSw; (try dsimp only at hSw); first | (go_simp; done) | (go_simp; with_reducible rfl))
                      simp only [Act.put, List.getElem_toArray, List.getElem_cons_zero, List.getElem_cons_succ, List.setIfInBounds_toArray, List.set_cons_zero, List.set_cons_succ]
                      refine wpAnyH_take (i := 3) (v := ?_) rfl (by kernel_rfl) (by kernel_rfl) (by kernel_rfl) (fun _ _ _ h => h) (Or.inl ⟨by rfl, ?_⟩) (by assumption) ?_
                      rotate_left 1
                      · (intro w hSw; (try dsimp only at hSw); first | (go_simp; done) | (go_simp; with_reducible rfl))
                      simp only [Act.put, List.getElem_toArray, List.getElem_cons_zero, List.getElem_cons_succ, List.setIfInBounds_toArray, List.set_cons_zero, List.set_cons_succ]
                      refine wpAnyH_take (i := 4) (v := ?_) rfl (by kernel_rfl) (by kernel_rfl) (by kernel_rfl) (fun _ _ _ h => h) (Or.inl ⟨by rfl, ?_⟩) (by assumption) ?_
                      rotate_left 1
                      · (intro w hSw; (try dsimp only at hSw); first | (go_simp; done) | (go_simp; with_reducible rfl))
                      simp only [Act.put, List.getElem_toArray, List.getElem_cons_zero, List.getElem_cons_succ, List.setIfInBounds_toArray, List.set_cons_zero, List.set_cons_succ]
                      refine wpAnyH_take (i := 5) (v := ?_) rfl (by kernel_rfl) (by kernel_rfl) (by kernel_rfl) (fun _ _ _ h => h) (Or.inl ⟨by rfl, ?_⟩) (by assumption) ?_
                      rotate_left 1
                      · (intro w hSw; (try dsimp only at hSw); first | (go_simp; done) | (go_simp; with_reducible rfl))
                      simp only [Act.put, List.getElem_toArray, List.getElem_cons_zero, List.getElem_cons_succ, List.setIfInBounds_toArray, List.set_cons_zero, List.set_cons_succ]
                      refine wpAnyH_take (i := 6) (v := ?_) rfl (by kernel_rfl) (by kernel_rfl) (by kernel_rfl) (fun _ _ _ h => h) (Or.inl ⟨by rfl, ?_⟩) (by assumption) ?_
                      rotate_left 1
                      · (intro w hSw; (try dsimp only at hSw); first | (go_simp; done) | (go_simp; with_reducible rfl))
                      simp only [Act.put, List.getElem_toArray, List.getElem_cons_zero, List.getElem_cons_succ, List.setIfInBounds_toArray, List.set_cons_zero, List.set_cons_succ]
                      refine wpAnyH_take (i := 7) (v := ?_) rfl (by kernel_rfl) (by kernel_rfl) (by kernel_rfl) (fun _ _ _ h => h) (Or.inl ⟨by rfl, ?_⟩) (by assumption) ?_
                      rotate_left 1
                      · (intro w hSw; (try dsimp only at hSw); first | (go_simp; done) | (go_simp; with_reducible rfl))
                      simp only [Act.put, List.getElem_toArray, List.getElem_cons_zero, List.getElem_cons_succ, List.setIfInBounds_toArray, List.set_cons_zero, List.set_cons_succ]
                      refine wpAnyH_take (i := 8) (v := ?_) rfl (by kernel_rfl) (by kernel_rfl) (by kernel_rfl) (fun _ _ _ h => h) (Or.inl ⟨by rfl, ?_⟩) (by assumption) ?_
                      rotate_left 1
                      · (intro w hSw; (try dsimp only at hSw); first | (go_simp; done) | (go_simp; with_reducible rfl))
                      simp only [Act.put, List.getElem_toArray, List.getElem_cons_zero, List.getElem_cons_succ, List.setIfInBounds_toArray, List.set_cons_zero, List.set_cons_succ]
                      refine wpAnyH_take (i := 9) (v := ?_) rfl (by kernel_rfl) (by kernel_rfl) (by kernel_rfl) (fun _ _ _ h => h) (Or.inl ⟨by rfl, ?_⟩) (by assumption) ?_
                      rotate_left 1
                      · (intro w hSw; (try dsimp only at hSw); first | (go_simp; done) | (go_simp; with_reducible rfl))
                      simp only [Act.put, List.getElem_toArray, List.getElem_cons_zero, List.getElem_cons_succ, List.setIfInBounds_toArray, List.set_cons_zero, List.set_cons_succ]
                      refine wpAnyH_take (i := 10) (v := ?_) rfl (by kernel_rfl) (by kernel_rfl) (by kernel_rfl) (fun _ _ _ h => h) (Or.inl ⟨by rfl, ?_⟩) (by assumption) ?_
                      rotate_left 1
                      · (intro w hSw; (try dsimp only at hSw); first | (go_simp; done) | (go_simp; with_reducible rfl))
                      simp only [Act.put, List.getElem_toArray, List.getElem_cons_zero, List.getElem_cons_succ, List.setIfInBounds_toArray, List.set_cons_zero, List.set_cons_succ]
                      refine wpAnyH_take (i := 11) (v := ?_) rfl (by kernel_rfl) (by kernel_rfl) (by kernel_rfl) (fun _ _ _ h => h) (Or.inl ⟨by rfl, ?_⟩) (by assumption) ?_
                      rotate_left 1
                      · (intro w hSw; (try dsimp only at hSw); first | (go_simp; done) | (go_simp; with_reducible rfl))
                      simp only [Act.put, List.getElem_toArray, List.getElem_cons_zero, List.getElem_cons_succ, List.setIfInBounds_toArray, List.set_cons_zero, List.set_cons_succ]
                      refine wpAnyH_take (i := 12) (v := ?_) rfl (by kernel_rfl) (by kernel_rfl) (by kernel_rfl) (fun _ _ _ h => h) (Or.inl ⟨by rfl, ?_⟩) (by assumption) ?_
                      rotate_left 1
                      · (intro w hSw; (try dsimp only at hSw); first | (go_simp; done) | (go_simp; with_reducible rfl))
                      simp only [Act.put, List.getElem_toArray, List.getElem_cons_zero, List.getElem_cons_succ, List.setIfInBounds_toArray, List.set_cons_zero, List.set_cons_succ]
                      refine wpAnyH_done (by kernel_rfl) ?_ _
                      clear hHeld
                      have MD : decide ((x, y) ∈ LL.take (k + 1)) = false := decide_eq_false (fun h => (MT.out.1 h).elim HIN.out (fun e0 => hx' (by injection e0)))
                      have HMD := Lib.hid MD; clear MD
                      have ROy := Lib.hid (row_keep ROx.out (Below.refl wr.heap.size wr).drew); have BBy := Lib.hid BBx.out.drew
                      clear ROx BBx r1 r2 f1 f2
                      go_wp2_with fail
                      go_roundw
                      case rel => exact ⟨k + 1, by omega, by go_num, by rw [HMD.out], ROy, BBy⟩
                      case measure => simp [intOf]; omega
                · obtain rfl : k = m := by omega
                  have TK : LL.take k = LL := List.take_of_length_le (by rw [HM.out]; omega)
                  rw [TK]
                  clear TK
                  by_cases hin : (x, y) ∈ LL
                  · rw [decide_eq_true hin]
                    have HIN := Lib.hid hin; clear hin
                    go_wp2_with fail
                    have PN : Hid (preL a b c d e f g h (i + 1) = LL) := by show _ = _; rw [PS2.out]; rw [OE.out]; exact step_in HIN.out
                    go_roundw
                    case rel => exact ⟨i + 1, by omega, by go_num, (by show World.ownsRow _ _ _ _ _ _ _; rw [PN.out, HM.out]; exact ROx.out), BBx⟩
                    case measure => simp [intOf]; omega
                  · rw [decide_eq_false hin]
                    have PN : Hid (preL a b c d e f g h (i + 1) = LL ++ [(x, y)]) := by show _ = _; rw [PS2.out, OE.out]; exact step_new hin
                    clear hin
                    have f1 := old BBx.out EN.out.1; have f2 := old BBx.out EN.out.2
                    have hbs : W7.heap.size ≤ wr.heap.size := BBx.out.size
                    go_wp2_with (at_builtin; refine wpList_append_own_at _ rfl _ _ 52 rfl W7.heap.size 23 i0 (.agg #[.int .i64 0, .int .i64 0]) 2 16 Try.underlying52 II.out Z0.out Z1.out Z2.out rfl (by decide) _ _ _ rfl (ROx.out.alloc _) ⟨wr.heap.size, 0, none⟩ 1 1 [.int .i64 x, .int .i64 y] rfl rfl (cells2_new _ _ _ _) (by simp [Value.oneCell']) (by unfold maxLen; omega) (by omega) (by simp; omega) ?_; intro v' w4 hown' hgrow hnil hloc; obtain ⟨a', cap', hv'⟩ := rowf hown'; subst hv'; have R4 := Lib.hid hown'; have GR := Lib.hid hgrow; clear hown' hgrow hloc hnil)
                    have RM := rowm (t := (x, y)) (O := LL) BBx.out (by rw [HM.out]; exact ROx.out) GR.out (by rw [HM.out]; exact R4.out)
                    have R5 := Lib.hid RM.2; have B5 := Lib.hid RM.1; clear RM
                    go_roundw
                    case rel => exact ⟨i + 1, by omega, by go_num, (by show World.ownsRow _ _ _ _ _ _ _; rw [PN.out]; have r := R5.out; simp only [List.length_append, HM.out] at r ⊢; exact r), B5⟩
                    case measure => simp [intOf]; omega
        · obtain rfl : i = 4 := by omega
          have RR := Lib.hid (rel_ref K.out CR.out)
          have LE : Hid ((endL a b c d e f g h).length = m) := by show _ = _; rw [← pre_four, HLL.out]; exact HM.out
          have BF := Lib.hid (HS7.out.1.trans (BB.out.mono HS7.out.1.size))
          by_cases l1 : 1 < m
          · have l1' : (1 : Int) < (m : Int) := by omega
            go_wp2_with fail
            go_ret
            exact ⟨by rw [RR.out, LE.out, if_pos l1]; rfl, BF.out⟩
          · by_cases l2 : m = 1
            · subst l2
              go_wp2_with fail
              go_ret
              exact ⟨by rw [RR.out, LE.out, if_neg (by omega), if_pos rfl]; rfl, BF.out⟩
            · obtain rfl : m = 0 := by omega
              go_wp2_with fail
              go_ret
              exact ⟨by rw [RR.out, LE.out, if_neg (by omega), if_neg (by omega)]; rfl, BF.out⟩
end Go.Proofs.Ytfabfnjfnildhaa
