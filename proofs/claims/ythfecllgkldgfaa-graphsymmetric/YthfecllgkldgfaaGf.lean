/- graph: rows of rows. -/
import Derived.Test.YthfecllgkldgfaaGe
import Derived.Test.YthfecllgkldgfaaWb
namespace Go.Proofs.Ythfecllgkldgfaa
open Go.ChangeShapes Go.WideShapes Go.ChangeAt Go.RowKit Go.Joins Go.Deep

/- a row of rows of numbers -/
def RowsAt (w : World) (v : Value) (ls : List (List Int)) : Prop :=
  ∃ a cap, v = .slice a ls.length cap ∧ (ls = [] ∨ ∃ ob, a = some ⟨ob, 0, none⟩ ∧ ∀ j, j < ls.length → ∃ u, w.cell? ⟨ob, j, none⟩ = some u ∧ IntsAt w u (ls.getD j []))
theorem RowsAt.below {w W : World} {v : Value} {ls : List (List Int)} (h : RowsAt w v ls) (b : Below w.heap.size w W) : RowsAt W v ls := by
  obtain ⟨a, cap, h1, h2⟩ := h
  refine ⟨a, cap, h1, ?_⟩
  rcases h2 with h2 | ⟨ob, e, hc⟩
  · exact Or.inl h2
  · refine Or.inr ⟨ob, e, fun j hj => ?_⟩
    obtain ⟨u, hu, hi⟩ := hc j hj
    exact ⟨u, by rw [b.cell (cell_lt hu)]; exact hu, hi.below b⟩
theorem RowsAt.at_ {w : World} {a : Option Addr} {n cap j : Nat} {ls : List (List Int)} (h : RowsAt w (.slice a n cap) ls) (hj : j < ls.length) : ∃ ob u, a = some ⟨ob, 0, none⟩ ∧ w.cell? ⟨ob, j, none⟩ = some u ∧ IntsAt w u (ls.getD j []) := by
  obtain ⟨a', cap', e, h⟩ := h
  injection e with e1 e2 e3
  subst e1
  rcases h with h | ⟨ob, e, hc⟩
  · rw [h] at hj; exact absurd hj (by simp)
  · obtain ⟨u, h1, h2⟩ := hc j hj
    exact ⟨ob, u, e, h1, h2⟩
def Small (ls : List (List Int)) : Prop := ls.length ≤ 1048576 ∧ ∀ j, j < ls.length → (ls.getD j []).length ≤ 1000000
theorem lists_eq {ls ms : List (List Int)} (hl : ls.length = ms.length) (h : ∀ k, k < ls.length → ls.getD k [] = ms.getD k []) : decide (ls = ms) = true := by
  apply decide_eq_true
  apply List.ext_getElem hl
  intro k h1 h2
  have := h k h1
  rw [List.getD, List.getD, List.getElem?_eq_getElem h1, List.getElem?_eq_getElem h2] at this
  exact this
theorem lists_ne {ls ms : List (List Int)} {k : Nat} (h : ls.getD k [] ≠ ms.getD k []) : decide (ls = ms) = false := by
  apply decide_eq_false; rintro rfl; exact h rfl
theorem equal_b {w W : World} {v u : Value} {l m : List Int} (b : Below w.heap.size w W) (h : IntsAt w v l) (h' : IntsAt w u m) (hl : l.length ≤ 1000000) (hm : m.length ≤ 1000000) : Calls Try.prog 15 #[v, u] W fun e w' => e = .returned (.bool (decide (l = m))) ∧ Below W.heap.size W w' := by
  refine (equal_any (h.below b) (h'.below b) hl hm).mono ?_
  rintro e w' ⟨rfl, q, rfl⟩
  exact ⟨rfl, below_drewN (Below.refl _ _) q⟩
set_option maxRecDepth 100000 in
set_option maxHeartbeats 4000000 in
theorem lists_any {w : World} {v u : Value} {ls ms : List (List Int)} (hv : RowsAt w v ls) (hu : RowsAt w u ms) (sl : Small ls) (sm : Small ms) : Calls Try.prog 37 #[v, u] w fun e w' => e = .returned (.bool (decide (ls = ms))) ∧ Below w.heap.size w w' := by
  have A0 := hv; have A1 := hu
  obtain ⟨a, cap, rfl, _⟩ := hv
  obtain ⟨a', cap', rfl, _⟩ := hu
  by_cases hlm : ls.length = ms.length
  · have HLM := Lib.hid hlm; have SL := Lib.hid sl; have SM := Lib.hid sm
    have A0' := Lib.hid A0; have A1' := Lib.hid A1
    obtain ⟨n, hn⟩ : ∃ n, ls.length = n := ⟨_, rfl⟩
    have HN := Lib.hid hn
    obtain ⟨V, hV⟩ : ∃ V, decide (ls = ms) = V := ⟨_, rfl⟩
    have HV := Lib.hid hV
    rw [hV]
    rw [← hlm] at A1' ⊢
    rw [hn] at A0' A1' ⊢
    clear A0 A1 hlm hn sl sm hV
    go_enter Try.func37, Try.ntmps37
    go_wp2_with fail
    go_loopw [5] (fun s wr => ∃ k : Nat, k ≤ n ∧ s = .int .i64 (k : Int) ∧ Hid (∀ j, j < k → ls.getD j [] = ms.getD j []) ∧ Hid (Below w.heap.size w wr)) (fun s _ => n - (intOf s).toNat)
    case atStart => exact ⟨0, Nat.zero_le _, rfl, fun j hj => absurd hj (by omega), Below.refl _ _⟩
    case round =>
      obtain ⟨k, hk, rfl, GG, BW⟩ := hrel
      by_cases hkn : k < n
      · obtain ⟨ob, x, rfl, cx, ix⟩ := (A0'.out.below BW.out).at_ (j := k) (by rw [HN.out]; exact hkn)
        obtain ⟨ob', y, rfl, cy, iy⟩ := (A1'.out.below BW.out).at_ (j := k) (by rw [← HLM.out, HN.out]; exact hkn)
        have IX := Lib.hid ix; have IY := Lib.hid iy
        obtain ⟨ax, capx, hx⟩ := ix.form
        obtain ⟨ay, capy, hy⟩ := iy.form
        have LX : Hid ((ls.getD k []).length ≤ 1000000) := SL.out.2 k (by rw [HN.out]; exact hkn)
        have LY : Hid ((ms.getD k []).length ≤ 1000000) := SM.out.2 k (by rw [← HLM.out, HN.out]; exact hkn)
        obtain ⟨k1, hk1⟩ : ∃ k1, k + 1 = k1 := ⟨_, rfl⟩
        have HK := Lib.hid hk1
        have k0 : (0 : Int) ≤ (k : Int) := by omega
        have kl : (k : Int) < (n : Int) := by omega
        have e1 : (k : Int) + 1 = (k1 : Int) := by omega
        have e2 : IntKind.i64.wrap (k1 : Int) = (k1 : Int) := by rw [IntKind.wrap_i64]; have := SL.out.1; have := HN.out; omega
        have EQ := Lib.hid (fun W (b : Below wr.heap.size wr W) => equal_b b ix iy LX.out LY.out)
        obtain ⟨EB, hEB⟩ : ∃ EB, decide (ls.getD k [] = ms.getD k []) = EB := ⟨_, rfl⟩
        rw [hEB] at EQ
        have HE := Lib.hid hEB
        clear ix iy hk1 hx hy hEB IX IY
        go_wp2_with fail
        have S0 : Hid (∀ W, W = wr.drew → Below wr.heap.size wr W ∧ W.cell? ⟨ob, k, none⟩ = some x ∧ W.cell? ⟨ob', k, none⟩ = some y) := by
          intro W e0; subst e0
          exact ⟨(Below.refl _ _).drew, cx, cy⟩
        refine wp_region_held_drew (S := fun W => Below wr.heap.size wr W ∧ W.cell? ⟨ob, k, none⟩ = some x ∧ W.cell? ⟨ob', k, none⟩ = some y) (by kernel_rfl) (S0.out _ rfl) (fun hHeld => ?_)
        clear S0
        refine wpAnyH_take (i := 0) (v := ?_) rfl (by kernel_rfl) (by kernel_rfl) (by kernel_rfl) (fun _ _ _ h => h) (Or.inl ⟨by rfl, ?_⟩) (by assumption) ?_
        rotate_left 1
        · (intro w hSw; (try dsimp only at hSw); first | (go_simp; done) | (go_simp; with_reducible rfl))
        simp only [Act.put, List.getElem_toArray, List.getElem_cons_zero, List.setIfInBounds_toArray, List.set_cons_zero, List.set_cons_succ]
        refine wpAnyH_take (i := 1) (v := ?_) rfl (by kernel_rfl) (by kernel_rfl) (by kernel_rfl) (fun _ _ _ h => h) (Or.inl ⟨by rfl, ?_⟩) (by assumption) ?_
        rotate_left 1
        · (intro w hSw; (try dsimp only at hSw); first | (go_simp; done) | (go_simp; with_reducible rfl))
        simp only [Act.put, List.getElem_toArray, List.getElem_cons_zero, List.getElem_cons_succ, List.setIfInBounds_toArray, List.set_cons_zero, List.set_cons_succ]
        refine wpAnyH_take (i := 2) (v := ?_) rfl (by kernel_rfl) (by kernel_rfl) (by kernel_rfl) (fun _ _ _ h => h) (Or.inl ⟨by rfl, ?_⟩) (by assumption) ?_
        rotate_left 1
        · (intro w hSw; (try dsimp only at hSw); first | (go_simp; done) | (go_simp; with_reducible rfl))
        simp only [Act.put, List.getElem_toArray, List.getElem_cons_zero, List.getElem_cons_succ, List.setIfInBounds_toArray, List.set_cons_zero, List.set_cons_succ]
        refine wpAnyH_take (i := 3) (v := ?_) rfl (by kernel_rfl) (by kernel_rfl) (by kernel_rfl) (fun _ _ _ h => h) (Or.inl ⟨by rfl, ?_⟩) (by assumption) ?_
        rotate_left 1
        · (intro w hSw; (try dsimp only at hSw); first | (go_simp; done) | (go_simp; with_reducible rfl))
        simp only [Act.put, List.getElem_toArray, List.getElem_cons_zero, List.getElem_cons_succ, List.setIfInBounds_toArray, List.set_cons_zero, List.set_cons_succ]
        refine wpAnyH_take (i := 4) (v := ?_) rfl (by kernel_rfl) (by kernel_rfl) (by kernel_rfl) (fun _ _ _ h => h) (Or.inl ⟨by rfl, ?_⟩) (by assumption) ?_
        rotate_left 1
        · (intro w hSw; (try dsimp only at hSw); first | (go_simp; done) | (go_simp; with_reducible rfl))
        simp only [Act.put, List.getElem_toArray, List.getElem_cons_zero, List.getElem_cons_succ, List.setIfInBounds_toArray, List.set_cons_zero, List.set_cons_succ]
        refine wpAnyH_take (i := 5) (v := ?_) rfl (by kernel_rfl) (by kernel_rfl) (by kernel_rfl) (fun _ _ _ h => h) (Or.inl ⟨by rfl, ?_⟩) (by assumption) ?_
        rotate_left 1
        · (intro w hSw; (try dsimp only at hSw); first | (go_simp; done) | (go_simp; with_reducible rfl))
        simp only [Act.put, List.getElem_toArray, List.getElem_cons_zero, List.getElem_cons_succ, List.setIfInBounds_toArray, List.set_cons_zero, List.set_cons_succ]
        refine wpAnyH_take (i := 6) (v := ?_) rfl (by kernel_rfl) (by kernel_rfl) (by kernel_rfl) (fun _ _ _ h => h) (Or.inl ⟨by rfl, ?_⟩) (by assumption) ?_
        rotate_left 1
        · (intro w hSw; (try dsimp only at hSw); first | (go_simp; done) | (go_simp; with_reducible rfl))
        simp only [Act.put, List.getElem_toArray, List.getElem_cons_zero, List.getElem_cons_succ, List.setIfInBounds_toArray, List.set_cons_zero, List.set_cons_succ]
        refine wpAnyH_take (i := 7) (v := ?_) rfl (by kernel_rfl) (by kernel_rfl) (by kernel_rfl) (fun _ _ _ h => h) (Or.inl ⟨by rfl, ?_⟩) (by assumption) ?_
        rotate_left 1
        · (intro w hSw; (try dsimp only at hSw); first | (go_simp; done) | (go_simp; with_reducible rfl))
        simp only [Act.put, List.getElem_toArray, List.getElem_cons_zero, List.getElem_cons_succ, List.setIfInBounds_toArray, List.set_cons_zero, List.set_cons_succ]
        refine wpAnyH_ready (rs := [8]) (by kernel_rfl) (by simp) ?_
        refine AllReadyH.cons rfl (fun K hK => ?_) AllReadyH.nil
        have hS1 := Lib.hid hHeld
        go_simp
        go_wp2_with (go_at_call 15; (with_reducible refine (EQ.out _ hS1.out.1).mono ?_); rintro en w8 ⟨rfl, b8⟩)
        refine hK.out _ _ ⟨hS1.out.1.trans (b8.mono hS1.out.1.size), by rw [b8.cell (cell_lt hS1.out.2.1)]; exact hS1.out.2.1, by rw [b8.cell (cell_lt hS1.out.2.2)]; exact hS1.out.2.2⟩ (fun hHeld2 => ?_)
        clear hK K hHeld hS1 b8; have hHeld := hHeld2; clear hHeld2
        refine wpAnyH_take (i := 9) (v := ?_) rfl (by kernel_rfl) (by kernel_rfl) (by kernel_rfl) (fun _ _ _ h => h) (Or.inl ⟨by rfl, ?_⟩) (by assumption) ?_
        rotate_left 1
        · (intro w hSw; (try dsimp only at hSw); first | (go_simp; done) | (go_simp; with_reducible rfl))
        simp only [Act.put, List.getElem_toArray, List.getElem_cons_zero, List.getElem_cons_succ, List.setIfInBounds_toArray, List.set_cons_zero, List.set_cons_succ]
        have B8 := Lib.hid (BW.out.trans (hHeld.1.mono BW.out.size))
        refine wpAnyH_done (by kernel_rfl) ?_ _
        clear hHeld
        cases EB
        · have VV := Lib.hid (HV.out.symm.trans (lists_ne (of_decide_eq_false HE.out)))
          clear GG EQ HE
          go_wp2_with fail
          go_ret
          exact ⟨by rw [VV.out]; rfl, B8.out⟩
        · have G2 : Hid (∀ j, j < k1 → ls.getD j [] = ms.getD j []) := by
            intro j hj
            by_cases e : j = k
            · rw [e]; exact of_decide_eq_true HE.out
            · exact GG.out j (by have := HK.out; omega)
          clear GG EQ HE
          go_wp2_with fail
          go_roundw
          case measure => simp [intOf]; have := HK.out; omega
          case rel => exact ⟨k1, by have := HK.out; omega, rfl, G2, B8⟩
      · have kl : ¬ (k : Int) < (n : Int) := by omega
        have VV := Lib.hid (HV.out.symm.trans (lists_eq HLM.out (fun j hj => GG.out j (by rw [HN.out] at hj; omega))))
        go_wp2_with fail
        go_ret
        exact ⟨by rw [VV.out]; rfl, BW.out⟩
  · have VV := Lib.hid (show decide (ls = ms) = false from decide_eq_false (fun e => hlm (by rw [e])))
    obtain ⟨V, hV⟩ : ∃ V, decide (ls = ms) = V := ⟨_, rfl⟩
    rw [hV] at VV ⊢
    have h1 : ((ls.length : Int) == (ms.length : Int)) = false := by simp; omega
    obtain ⟨n, hn⟩ : ∃ n, ls.length = n := ⟨_, rfl⟩
    obtain ⟨n', hn'⟩ : ∃ n', ms.length = n' := ⟨_, rfl⟩
    rw [hn] at h1 ⊢
    rw [hn'] at h1 ⊢
    clear A0 A1 hlm hn hn' sl sm hV
    go_enter Try.func37, Try.ntmps37
    go_wp2_with fail
    go_ret
    exact ⟨by rw [VV.out]; rfl, Below.refl _ _⟩
end Go.Proofs.Ythfecllgkldgfaa
