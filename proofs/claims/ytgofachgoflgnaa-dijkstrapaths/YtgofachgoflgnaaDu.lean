/- dijkstra: the reference's Path. -/
import Derived.Test.YtgofachgoflgnaaDt
import Derived.Test.YtgofachgoflgnaaDo
namespace Go.Proofs.Ytgofachgoflgnaa
open Go.ChangeShapes Go.WideShapes Go.ChangeAt Go.RowKit Go.Joins Go.Deep
theorem s_keep4 {W1 W W' : World} {B0 bD o : Nat} {u v z : Value} (hb : B0 < W1.heap.size) (hd : bD < W1.heap.size) (b : Below W.heap.size W W') (h : Below W1.heap.size W1 W ∧ W.cell? ⟨B0, 0, none⟩ = some u ∧ W.cell? ⟨B0, 1, none⟩ = some v ∧ W.cell? ⟨bD, o, none⟩ = some z) : Below W1.heap.size W1 W' ∧ W'.cell? ⟨B0, 0, none⟩ = some u ∧ W'.cell? ⟨B0, 1, none⟩ = some v ∧ W'.cell? ⟨bD, o, none⟩ = some z :=
  ⟨h.1.trans (b.mono h.1.size), by rw [b.cell (by have := h.1.size; show B0 < _; omega)]; exact h.2.1, by rw [b.cell (by have := h.1.size; show B0 < _; omega)]; exact h.2.2.1, by rw [b.cell (by have := h.1.size; show bD < _; omega)]; exact h.2.2.2⟩
def RPost (ars : List (Int × Int)) (ws : List Int) (N s t : Int) (w : World) (e : Ending) (w' : World) : Prop :=
  (∃ c : Int, c ≠ 0 ∧ ckv N ars ws [s, t] = c ∧ e = .returned (.tuple #[nilV, .int .i64 0, .int .i64 c]) ∧ Below w.heap.size w w') ∨
  (∃ (m q r : Nat) (d : List Int), N = (m : Int) ∧ s = (q : Int) ∧ t = (r : Int) ∧ q < m ∧ r < m ∧ OkW m ars ws ∧ IsD ars ws m q d ∧ d.getD r 0 = INF ∧ e = .returned (.tuple #[nilV, .int .i64 0, .int .i64 18]) ∧ Below w.heap.size w w') ∨
  (∃ (m q r : Nat) (d : List Int) (u : Value), N = (m : Int) ∧ s = (q : Int) ∧ t = (r : Int) ∧ q < m ∧ r < m ∧ OkW m ars ws ∧ IsD ars ws m q d ∧ d.getD r 0 < INF ∧ e = .returned (.tuple #[u, .int .i64 (d.getD r 0), .int .i64 0]) ∧ Below w.heap.size w w')
set_option maxRecDepth 100000 in
set_option maxHeartbeats 8000000 in
theorem pathr_any {w : World} {N s t : Int} {v u : Value} {ars : List (Int × Int)} {ws : List Int} (A : ArcsAt w v ars) (U : IntsAt w u ws) : Calls Try.prog 18 #[gv N v, u, .int .i64 s, .int .i64 t] w (RPost ars ws N s t w) := by
  have A0 := A; have U0 := U
  obtain ⟨a, cap, rfl, _⟩ := A
  obtain ⟨ua, uc, rfl⟩ := U.form
  have CK := Lib.hid (fun W (b : Below w.heap.size w W) => ckr_any (N := N) (A0.below b) (U0.below b))
  have FR := Lib.hid (fun W (b : Below w.heap.size w W) => fromr_any (N := N) (s := s) (A0.below b) (U0.below b))
  obtain ⟨n, hn⟩ : ∃ n, ars.length = n := ⟨_, rfl⟩
  obtain ⟨k, hk⟩ : ∃ k, ws.length = k := ⟨_, rfl⟩
  have HA : Hid (ArcsAt w (.slice a n cap) ars) := by have h := A0; rw [hn] at h; exact h
  have HU : Hid (IntsAt w (.slice ua k uc) ws) := by have h := U0; rw [hk] at h; exact h
  rw [hn, hk] at CK FR
  rw [hn, hk]
  obtain ⟨gB, hgB⟩ : ∃ gB, w.heap.size = gB := ⟨_, rfl⟩
  obtain ⟨W1, hW1⟩ : ∃ W1, w.alloc (.cells #[.int .i64 N, .slice a n cap] 24) = W1 := ⟨_, rfl⟩
  have r1 : Row W1 gB 24 [.int .i64 N, .slice a n cap] := by rw [← hW1, ← hgB]; exact Row.new _ _ _
  have g0 := r1.cell (i := 0) rfl; have g1 := r1.cell (i := 1) rfl
  have b1 : Below w.heap.size w W1 := by rw [← hW1]; exact below_al _ _
  have B1 := Lib.hid b1; have R1 := Lib.hid r1
  clear A0 U0 U b1 r1 hn hk
  by_cases hc : ck N ars ws = 0
  · rw [hc] at CK
    obtain ⟨m, rfl, O⟩ := ck_ok hc
    have HO := Lib.hid O
    by_cases hs : s < 0 ∨ (m : Int) ≤ s ∨ t < 0 ∨ (m : Int) ≤ t
    · by_cases h0 : s < 0
      · have V : Hid (ckv (m : Int) ars ws [s, t] = 2) := by show _ = _; rw [ckv_ok hc, if_pos ⟨s, List.mem_cons_self .., Or.inl h0⟩]
        have d0 : decide (s < 0) = true := by simpa using h0
        clear hc O h0
        go_enter Try.func18, Try.ntmps18
        go_wp2_with fail
        refine (CK.out _ B1.out).mono ?_; rintro e w4 ⟨rfl, b⟩
        have B4 := Lib.hid (B1.out.trans (b.mono B1.out.size))
        have r4 := R1.out.below b R1.out.lt
        clear b g0 g1 hW1
        have g0 := r4.cell (i := 0) rfl; have g1 := r4.cell (i := 1) rfl
        clear r4
        go_wp2_with fail
        go_ret3
        exact Or.inl ⟨2, by decide, V.out, rfl, B4.out⟩
      · have d0 : decide (s < 0) = false := by simpa using h0
        by_cases h1 : (m : Int) ≤ s
        · have V : Hid (ckv (m : Int) ars ws [s, t] = 2) := by show _ = _; rw [ckv_ok hc, if_pos ⟨s, List.mem_cons_self .., Or.inr h1⟩]
          have d1 : decide ((m : Int) ≤ s) = true := by simpa using h1
          clear hc O h0 h1
          go_enter Try.func18, Try.ntmps18
          go_wp2_with fail
          refine (CK.out _ B1.out).mono ?_; rintro e w4 ⟨rfl, b⟩
          have B4 := Lib.hid (B1.out.trans (b.mono B1.out.size))
          have r4 := R1.out.below b R1.out.lt
          clear b g0 g1 hW1
          have g0 := r4.cell (i := 0) rfl; have g1 := r4.cell (i := 1) rfl
          clear r4
          go_wp2_with fail
          go_ret3
          exact Or.inl ⟨2, by decide, V.out, rfl, B4.out⟩
        · have d1 : decide ((m : Int) ≤ s) = false := by simpa using h1
          by_cases h2 : t < 0
          · have V : Hid (ckv (m : Int) ars ws [s, t] = 2) := by show _ = _; rw [ckv_ok hc, if_pos ⟨t, List.mem_cons_of_mem _ (List.mem_singleton.2 rfl), Or.inl h2⟩]
            have d2 : decide (t < 0) = true := by simpa using h2
            clear hc O h0 h1 h2
            go_enter Try.func18, Try.ntmps18
            go_wp2_with fail
            refine (CK.out _ B1.out).mono ?_; rintro e w4 ⟨rfl, b⟩
            have B4 := Lib.hid (B1.out.trans (b.mono B1.out.size))
            have r4 := R1.out.below b R1.out.lt
            clear b g0 g1 hW1
            have g0 := r4.cell (i := 0) rfl; have g1 := r4.cell (i := 1) rfl
            clear r4
            go_wp2_with fail
            go_ret3
            exact Or.inl ⟨2, by decide, V.out, rfl, B4.out⟩
          · have d2 : decide (t < 0) = false := by simpa using h2
            by_cases h3 : (m : Int) ≤ t
            · have V : Hid (ckv (m : Int) ars ws [s, t] = 2) := by show _ = _; rw [ckv_ok hc, if_pos ⟨t, List.mem_cons_of_mem _ (List.mem_singleton.2 rfl), Or.inr h3⟩]
              have d3 : decide ((m : Int) ≤ t) = true := by simpa using h3
              clear hc O h0 h1 h2 h3
              go_enter Try.func18, Try.ntmps18
              go_wp2_with fail
              refine (CK.out _ B1.out).mono ?_; rintro e w4 ⟨rfl, b⟩
              have B4 := Lib.hid (B1.out.trans (b.mono B1.out.size))
              have r4 := R1.out.below b R1.out.lt
              clear b g0 g1 hW1
              have g0 := r4.cell (i := 0) rfl; have g1 := r4.cell (i := 1) rfl
              clear r4
              go_wp2_with fail
              go_ret3
              exact Or.inl ⟨2, by decide, V.out, rfl, B4.out⟩
            · exact absurd hs (by simp; omega)
    · obtain ⟨q, rfl⟩ : ∃ q : Nat, s = (q : Int) := ⟨s.toNat, by omega⟩
      obtain ⟨r, rfl⟩ : ∃ r : Nat, t = (r : Int) := ⟨t.toNat, by omega⟩
      have hq : q < m := by omega
      have hr : r < m := by omega
      have HQ := Lib.hid hq; have HR := Lib.hid hr
      have h0 : ¬ (q : Int) < 0 := by omega
      have h0' : decide ((q : Int) < 0) = false := by simp
      have h1 : ¬ (m : Int) ≤ (q : Int) := by omega
      have h1' : decide (m ≤ q) = false := by simp; omega
      have h2 : ¬ (r : Int) < 0 := by omega
      have h2' : decide ((r : Int) < 0) = false := by simp
      have h3 : ¬ (m : Int) ≤ (r : Int) := by omega
      have h3' : decide (m ≤ r) = false := by simp; omega
      clear hc O hs hq hr
      go_enter Try.func18, Try.ntmps18
      go_wp2_with fail
      refine (CK.out _ B1.out).mono ?_; rintro e w4 ⟨rfl, b⟩
      have B4 := Lib.hid (B1.out.trans (b.mono B1.out.size))
      have R4 := Lib.hid (R1.out.below b R1.out.lt)
      clear b g0 g1 hW1 B1 R1
      have g0 := R4.out.cell (i := 0) rfl; have g1 := R4.out.cell (i := 1) rfl
      go_wp2_with fail
      refine (FR.out _ B4.out).mono ?_; intro e w5 hp
      rcases hp with ⟨c, hc0, hcv, _⟩ | ⟨m', q', uD, d, hm', hq', hqm, O', rfl, hd, hi, b⟩
      · exact absurd (hcv.symm.trans (ckv_one HO.out HQ.out)) hc0
      obtain rfl : m = m' := by omega
      obtain rfl : q = q' := by omega
      have B5 := Lib.hid (B4.out.trans (b.mono B4.out.size))
      have R5 := Lib.hid (R4.out.below b R4.out.lt)
      have ID5 := Lib.hid hd; have HI5 := Lib.hid hi
      obtain ⟨aD, cD, hDe⟩ : ∃ aD cD, uD = .slice aD m cD := by obtain ⟨x, y, e⟩ := hi.form; rw [hd.len] at e; exact ⟨x, y, e⟩
      subst hDe
      obtain ⟨bD, oD, hae, dr⟩ := hi.at (k := r) (by rw [hd.len]; exact HR.out)
      subst hae
      obtain ⟨dt, hdt⟩ : ∃ dt, d.getD r 0 = dt := ⟨_, rfl⟩
      rw [hdt] at dr
      have HDT := Lib.hid hdt; have HDR := Lib.hid dr
      have TOP : Hid (dt ≤ INF) := by have h := hd.top r HR.out; rw [hdt] at h; exact h
      have r0 : (0 : Int) ≤ (r : Int) := by omega
      have rl : (r : Int) < (m : Int) := by have := HR.out; omega
      clear b g0 g1 hd hi hdt R4 hm' hq' hqm O' h0 h0' h1 h1' h2 h2' h3 h3'
      have g0 := R5.out.cell (i := 0) rfl; have g1 := R5.out.cell (i := 1) rfl
      by_cases hI : dt = INF
      · have d1 : decide (1152921504606846976 ≤ dt) = true := by rw [hI]; decide
        have V : Hid (d.getD r 0 = INF) := by rw [HDT.out]; exact hI
        clear hI
        go_wp2_with fail
        go_ret3
        exact Or.inr (Or.inl ⟨m, q, r, d, rfl, rfl, rfl, HQ.out, HR.out, HO.out, ID5.out, V.out, rfl, B5.out⟩)
      have d1 : decide (1152921504606846976 ≤ dt) = false := by have h := TOP.out; unfold INF at h hI; simp; omega
      have V : Hid (d.getD r 0 < INF) := by rw [HDT.out]; have h := TOP.out; show dt < INF; omega
      clear hI
      have WY := Lib.hid (fun W (b : Below w5.heap.size w5 W) => way_any ((HA.out.below B5.out).below b) ((HU.out.below B5.out).below b) (HI5.out.below b) HO.out HQ.out HR.out ID5.out V.out)
      have LTB : Hid (gB < w5.heap.size) := R5.out.lt
      have LTD : Hid (bD < w5.heap.size) := cell_lt HDR.out
      go_wp2_with fail
      have S0 : Hid (∀ W, W = w5.drew → Below w5.heap.size w5 W ∧ W.cell? ⟨gB, 0, none⟩ = some (.int .i64 (m : Int)) ∧ W.cell? ⟨gB, 1, none⟩ = some (.slice a n cap) ∧ W.cell? ⟨bD, oD + r, none⟩ = some (.int .i64 dt)) := by
        intro W e0; subst e0
        exact ⟨(Below.refl _ _).drew, g0, g1, dr⟩
      refine wp_region_held_drew (S := fun W => Below w5.heap.size w5 W ∧ W.cell? ⟨gB, 0, none⟩ = some (.int .i64 (m : Int)) ∧ W.cell? ⟨gB, 1, none⟩ = some (.slice a n cap) ∧ W.cell? ⟨bD, oD + r, none⟩ = some (.int .i64 dt)) (by kernel_rfl) (S0.out _ rfl) (fun hHeld => ?_)
      clear S0 g0 g1 dr
      refine wpAnyH_take (i := 0) (v := ?_) rfl (by kernel_rfl) (by kernel_rfl) (by kernel_rfl) (fun _ _ _ h => h) (Or.inl ⟨by rfl, ?_⟩) (by assumption) ?_
      rotate_left 1
      · (intro w hSw; (try dsimp only at hSw); first | (go_simp; done) | (go_simp; with_reducible rfl))
      simp only [Act.put, List.getElem_toArray, List.getElem_cons_zero, List.setIfInBounds_toArray, List.set_cons_zero, List.set_cons_succ]
      refine wpAnyH_take (i := 1) (v := ?_) rfl (by kernel_rfl) (by kernel_rfl) (by kernel_rfl) (fun _ _ _ h => h) (Or.inl ⟨by rfl, ?_⟩) (by assumption) ?_
      rotate_left 1
      · (intro w hSw; (try dsimp only at hSw); first | (go_simp; done) | (go_simp; with_reducible rfl))
      simp only [Act.put, List.getElem_toArray, List.getElem_cons_zero, List.getElem_cons_succ, List.setIfInBounds_toArray, List.set_cons_zero, List.set_cons_succ]
      refine wpAnyH_take (i := 2) (v := ?_) rfl (by kernel_rfl) (by kernel_rfl) (by kernel_rfl) (fun _ _ _ h => h) (Or.inl ⟨by rfl, ?_⟩) (by assumption) ?_
      rotate_left 1
      · (intro w hSw; (try dsimp only at hSw); first | (go_simp; done) | (go_simp; with_reducible rfl))
      simp only [Act.put, List.getElem_toArray, List.getElem_cons_zero, List.getElem_cons_succ, List.setIfInBounds_toArray, List.set_cons_zero, List.set_cons_succ]
      refine wpAnyH_take (i := 3) (v := ?_) rfl (by kernel_rfl) (by kernel_rfl) (by kernel_rfl) (fun _ _ _ h => h) (Or.inl ⟨by rfl, ?_⟩) (by assumption) ?_
      rotate_left 1
      · (intro w hSw; (try dsimp only at hSw); first | (go_simp; done) | (go_simp; with_reducible rfl))
      simp only [Act.put, List.getElem_toArray, List.getElem_cons_zero, List.getElem_cons_succ, List.setIfInBounds_toArray, List.set_cons_zero, List.set_cons_succ]
      refine wpAnyH_take (i := 4) (v := ?_) rfl (by kernel_rfl) (by kernel_rfl) (by kernel_rfl) (fun _ _ _ h => h) (Or.inl ⟨by rfl, ?_⟩) (by assumption) ?_
      rotate_left 1
      · (intro w hSw; (try dsimp only at hSw); first | (go_simp; done) | (go_simp; with_reducible rfl))
      simp only [Act.put, List.getElem_toArray, List.getElem_cons_zero, List.getElem_cons_succ, List.setIfInBounds_toArray, List.set_cons_zero, List.set_cons_succ]
      refine wpAnyH_take (i := 6) (v := ?_) rfl (by kernel_rfl) (by kernel_rfl) (by kernel_rfl) (fun _ _ _ h => h) (Or.inl ⟨by rfl, ?_⟩) (by assumption) ?_
      rotate_left 1
      · (intro w hSw; (try dsimp only at hSw); first | (go_simp; done) | (go_simp; with_reducible rfl))
      simp only [Act.put, List.getElem_toArray, List.getElem_cons_zero, List.getElem_cons_succ, List.setIfInBounds_toArray, List.set_cons_zero, List.set_cons_succ]
      refine wpAnyH_take (i := 7) (v := ?_) rfl (by kernel_rfl) (by kernel_rfl) (by kernel_rfl) (fun _ _ _ h => h) (Or.inl ⟨by rfl, ?_⟩) (by assumption) ?_
      rotate_left 1
      · (intro w hSw; (try dsimp only at hSw); first | (go_simp; done) | (go_simp; with_reducible rfl))
      simp only [Act.put, List.getElem_toArray, List.getElem_cons_zero, List.getElem_cons_succ, List.setIfInBounds_toArray, List.set_cons_zero, List.set_cons_succ]
      refine wpAnyH_take (i := 8) (v := ?_) rfl (by kernel_rfl) (by kernel_rfl) (by kernel_rfl) (fun _ _ _ h => h) (Or.inl ⟨by rfl, ?_⟩) (by assumption) ?_
      rotate_left 1
      · (intro w hSw; (try dsimp only at hSw); first | (go_simp; done) | (go_simp; with_reducible rfl))
      simp only [Act.put, List.getElem_toArray, List.getElem_cons_zero, List.getElem_cons_succ, List.setIfInBounds_toArray, List.set_cons_zero, List.set_cons_succ]
      refine wpAnyH_take (i := 9) (v := ?_) rfl (by kernel_rfl) (by kernel_rfl) (by kernel_rfl) (fun _ _ _ h => h) (Or.inl ⟨by rfl, ?_⟩) (by assumption) ?_
      rotate_left 1
      · (intro w hSw; (try dsimp only at hSw); first | (go_simp; done) | (go_simp; with_reducible rfl))
      simp only [Act.put, List.getElem_toArray, List.getElem_cons_zero, List.getElem_cons_succ, List.setIfInBounds_toArray, List.set_cons_zero, List.set_cons_succ]
      refine wpAnyH_ready (rs := [5]) (by kernel_rfl) (by simp) ?_
      refine AllReadyH.cons rfl (fun K hK => ?_) AllReadyH.nil
      have hS1 := Lib.hid hHeld
      go_simp
      go_wp2_with (go_at_call 28; (with_reducible refine (WY.out _ hS1.out.1).mono ?_); rintro en v1 ⟨⟨xa, xk, xc, rfl⟩, b1⟩)
      refine hK.out _ _ (s_keep4 LTB.out LTD.out b1 hS1.out) (fun hHeld2 => ?_)
      clear b1
      clear hK K hHeld hS1; have hHeld := hHeld2; clear hHeld2
      refine wpAnyH_take (i := 10) (v := ?_) rfl (by kernel_rfl) (by kernel_rfl) (by kernel_rfl) (fun _ _ _ h => h) (Or.inl ⟨by rfl, ?_⟩) (by assumption) ?_
      rotate_left 1
      · (intro w hSw; (try dsimp only at hSw); first | (go_simp; done) | (go_simp; with_reducible rfl))
      simp only [Act.put, List.getElem_toArray, List.getElem_cons_zero, List.getElem_cons_succ, List.setIfInBounds_toArray, List.set_cons_zero, List.set_cons_succ]
      refine wpAnyH_take (i := 11) (v := ?_) rfl (by kernel_rfl) (by kernel_rfl) (by kernel_rfl) (fun _ _ _ h => h) (Or.inl ⟨by rfl, ?_⟩) (by assumption) ?_
      rotate_left 1
      · (intro w hSw; (try dsimp only at hSw); first | (go_simp; done) | (go_simp; with_reducible rfl))
      simp only [Act.put, List.getElem_toArray, List.getElem_cons_zero, List.getElem_cons_succ, List.setIfInBounds_toArray, List.set_cons_zero, List.set_cons_succ]
      refine wpAnyH_take (i := 12) (v := ?_) rfl (by kernel_rfl) (by kernel_rfl) (by kernel_rfl) (fun _ _ _ h => h) (Or.inl ⟨by rfl, ?_⟩) (by assumption) ?_
      rotate_left 1
      · (intro w hSw; (try dsimp only at hSw); first | (go_simp; done) | (go_simp; with_reducible rfl))
      simp only [Act.put, List.getElem_toArray, List.getElem_cons_zero, List.getElem_cons_succ, List.setIfInBounds_toArray, List.set_cons_zero, List.set_cons_succ]
      have FB := Lib.hid (B5.out.trans (hHeld.1.mono B5.out.size))
      refine wpAnyH_done (by kernel_rfl) ?_ _
      clear hHeld
      go_wp2_with fail
      go_ret3
      exact Or.inr (Or.inr ⟨m, q, r, d, _, rfl, rfl, rfl, HQ.out, HR.out, HO.out, ID5.out, V.out, by rw [HDT.out]; rfl, FB.out⟩)
  · obtain ⟨c, hcc⟩ : ∃ c, ck N ars ws = c := ⟨_, rfl⟩
    have V : Hid (ckv N ars ws [s, t] = c) := by show _ = _; rw [ckv_no hc, hcc]
    rw [hcc] at CK hc
    have HZ := Lib.hid hc
    have c1 : (c == 0) = false := by simpa using hc
    have c2 : (c != 0) = true := by simpa using hc
    clear hc hcc
    go_enter Try.func18, Try.ntmps18
    go_wp2_with fail
    refine (CK.out _ B1.out).mono ?_; rintro e w4 ⟨rfl, b⟩
    have B4 := Lib.hid (B1.out.trans (b.mono B1.out.size))
    clear b g0 g1 hW1
    go_wp2_with fail
    go_ret3
    exact Or.inl ⟨c, HZ.out, V.out, rfl, B4.out⟩
end Go.Proofs.Ytgofachgoflgnaa
