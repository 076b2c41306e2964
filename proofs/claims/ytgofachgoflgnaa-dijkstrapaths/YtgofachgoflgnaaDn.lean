/- dijkstra: DijkstraDists. -/
import Derived.Test.YtgofachgoflgnaaDm
import Derived.ChangeSame
import Derived.Deep.Slices
import Derived.Deep.SlicePairs
namespace Go.Proofs.Ytgofachgoflgnaa
open Go.ChangeShapes Go.WideShapes Go.ChangeAt Go.RowKit Go.Joins Go.Deep

theorem arcs_nil (w : World) : ArcsAt w nilV [] := ⟨none, 0, rfl, fun _ => ⟨rfl, rfl⟩, Or.inl rfl⟩
theorem gc3 : Try.prog.cellsOf 3 = 1 := by kernel_rfl
theorem gc31 : Try.prog.cellsOf 22 = 1 := by kernel_rfl
theorem gc33 : Try.prog.cellsOf 24 = 2 := by kernel_rfl
theorem gc45 : Try.prog.cellsOf 47 = 2 := by kernel_rfl
def IsG (w : World) (v : Value) : Prop := ∃ N u ars, v = gv N u ∧ ArcsAt w u ars
theorem array2 {α : Type} {cs : Array α} (h : cs.size = 2) : ∃ a b, cs = #[a, b] := by
  obtain ⟨l⟩ := cs
  match l, h with
  | [a, b], _ => exact ⟨a, b, rfl⟩
theorem graph_open {H : Type} {enc : TypeId × Value → H} {W : World} {base b0 : Nat} {spare : Nat → Bool} {held : Bool} {r : Reach} {v : Value} {d : DataW H} {p : List MemPlace}
    (hv : Value.okWide Try.prog W r b0 24 v) (h : DataW.Trod enc Try.prog W base spare held 24 v d p) : IsG W v := by
  obtain ⟨cs, rfl, hsz⟩ := okWide_struct Try.underlying24 hv
  obtain ⟨c0, c1, rfl⟩ := array2 (hsz.trans gc33)
  obtain ⟨fuel, hf⟩ := h
  obtain ⟨y0, y1, n, _, _, h0, h1⟩ := trod_struct2 Try.underlying24 hf
  rw [gc3] at h0
  rw [gc31] at h1
  obtain ⟨x0, e0, _, k0⟩ := DataW.trod_int Try.underlying3 h0
  simp [Value.cells] at e0
  subst e0
  rcases Deep.open_slice Try.underlying22 h1 with ⟨hcs, _⟩ | ⟨a, len, cap, m, n', D, Pl, hcs, _, hl, hm, hmm, _, hi⟩
  · simp [Value.cells] at hcs
    subst hcs
    exact ⟨x0, _, [], rfl, arcs_nil W⟩
  · simp [Value.cells] at hcs
    subst hcs
    have hlm : len ≤ m := by rw [hmm]; split <;> omega
    have key : ∀ j, j < len → ∃ z : Int × Int, W.cell? (a.add (j * 2)) = some (.int .i64 z.1) ∧ W.cell? (a.add (j * 2 + 1)) = some (.int .i64 z.2) := by
      intro j hj
      obtain ⟨cs', hc, ht⟩ := hi j (by omega)
      rw [gc45] at hc
      obtain ⟨_, hcl, hat⟩ := World.cells?_some hc
      obtain ⟨z0, z1, n2, _, _, t0, t1⟩ := trod_struct2 Try.underlying47 ht
      obtain ⟨x, ex, _, wx⟩ := DataW.trod_int Try.underlying3 t0
      obtain ⟨y, ey, _, wy⟩ := DataW.trod_int Try.underlying3 t1
      rw [gc3] at ex ey
      match cs', hcl with
      | [q0, q1], _ =>
        simp at ex ey
        subst ex ey
        refine ⟨(x, y), ?_, ?_⟩
        · have := hat 0 (by omega); simpa [Addr.add] using this
        · have := hat 1 (by omega); rw [Deep.add_add] at this; simpa using this
    obtain ⟨g, hg⟩ := choose_lt key
    refine ⟨x0, _, (List.range len).map g, rfl, some a, cap, by simp, fun e => (by cases e), ?_⟩
    by_cases hz : len = 0
    · left; subst hz; rfl
    · right
      obtain ⟨b, off, spot⟩ := a
      have c0 := (hg 0 (by omega)).1
      have hspot : spot = none := by simpa [Addr.add] using World.cell?_spot c0
      subst hspot
      refine ⟨b, off, rfl, ?_, fun i hi' => ?_⟩
      · rw [Addr.add_lit] at c0; exact cell_lt c0
      · have hi2 : i < len := by simpa using hi'
        obtain ⟨h1, h2⟩ := hg i hi2
        rw [Addr.add_lit] at h1 h2
        rw [h1]
        have e3 : ((List.range len).map g).getD i (0, 0) = g i := by simp [List.getD, hi2]
        rw [e3]
        exact ⟨rfl, h2⟩
def IsInts (w : World) (v : Value) : Prop := ∃ l, IntsAt w v l ∧ l.length ≤ maxLen
theorem ints_open {H : Type} {enc : TypeId × Value → H} {W : World} {base b0 : Nat} {spare : Nat → Bool} {held : Bool} {r : Reach} {v : Value} {d : DataW H} {p : List MemPlace}
    (hv : Value.okWide Try.prog W r b0 25 v) (h : DataW.Trod enc Try.prog W base spare held 25 v d p) : IsInts W v := by
  obtain ⟨a0, len, cap0, rfl⟩ := okWide_slice Try.underlying25 hv
  obtain ⟨fuel, hf⟩ := h
  rcases Deep.open_slice Try.underlying25 hf with ⟨hcs, _⟩ | ⟨a, len', cap, m, n', D, Pl, hcs, _, hl, hm, hmm, _, hi⟩
  · simp [Value.cells] at hcs
    obtain ⟨rfl, rfl, rfl⟩ := hcs
    exact ⟨[], ints_nil W, Nat.zero_le _⟩
  · simp [Value.cells] at hcs
    obtain ⟨rfl, rfl, rfl⟩ := hcs
    have hlm : len ≤ m := by rw [hmm]; split <;> omega
    have key : ∀ i, i < len → ∃ c : Int, W.cell? (a.add i) = some (.int .i64 c) := by
      intro i hi'
      obtain ⟨cs', hc, ht⟩ := hi i (by omega)
      rw [gc3] at hc
      obtain ⟨_, hcl, hat⟩ := World.cells?_some hc
      obtain ⟨x, ex, _, wx⟩ := DataW.trod_int Try.underlying3 ht
      have := hat 0 (by omega)
      rw [ex] at this
      exact ⟨x, by simpa [Addr.add] using this⟩
    obtain ⟨g, hg⟩ := choose_lt key
    refine ⟨(List.range len).map g, ⟨some a, cap0, by simp, by simp; omega, ?_⟩, by simp; omega⟩
    by_cases hz : len = 0
    · left; subst hz; rfl
    · right
      obtain ⟨b, off, spot⟩ := a
      have c0 := hg 0 (by omega)
      have hspot : spot = none := by simpa [Addr.add] using World.cell?_spot c0
      subst hspot
      refine ⟨b, off, rfl, ?_, fun i hi' => ?_⟩
      · rw [Addr.add_lit] at c0; exact cell_lt c0
      · have hi2 : i < len := by simpa using hi'
        have h1 := hg i hi2
        rw [Addr.add_lit] at h1
        rw [h1]; simp [List.getD, hi2]
/- what From and To say, as a code and a row -/
def DR (al ars : List (Int × Int)) (ws : List Int) (N s c : Int) (l : List Int) : Prop :=
  (c ≠ 0 ∧ ckv N ars ws [s] = c ∧ l = []) ∨ (∃ m q : Nat, N = (m : Int) ∧ s = (q : Int) ∧ q < m ∧ OkW m ars ws ∧ c = 0 ∧ IsD al ws m q l)
theorem ckv_one {m q : Nat} {ars : List (Int × Int)} {ws : List Int} (O : OkW m ars ws) (hq : q < m) : ckv (m : Int) ars ws [(q : Int)] = 0 := by
  rw [ckv_ok (ok_ck O), if_neg]
  rintro ⟨x, hx, ho⟩
  rw [List.mem_singleton] at hx
  subst hx
  unfold out at ho; omega
theorem DR.unique {al ars : List (Int × Int)} {ws : List Int} {N s c c' : Int} {l l' : List Int} (h : DR al ars ws N s c l) (k : DR al ars ws N s c' l') : c = c' ∧ l = l' := by
  rcases h with ⟨h1, h2, rfl⟩ | ⟨m, q, rfl, rfl, hq, O, rfl, D⟩
  · rcases k with ⟨k1, k2, rfl⟩ | ⟨m', q', rfl, rfl, hq, O, rfl, D⟩
    · exact ⟨h2.symm.trans k2, rfl⟩
    · rw [ckv_one O hq] at h2; exact absurd h2.symm h1
  · rcases k with ⟨k1, k2, rfl⟩ | ⟨m', q', e1, e2, hq', O', rfl, D'⟩
    · rw [ckv_one O hq] at k2; exact absurd k2.symm k1
    · obtain rfl : m = m' := by omega
      obtain rfl : q = q' := by omega
      exact ⟨rfl, D.unique D'⟩
theorem DR.small {al ars : List (Int × Int)} {ws : List Int} {N s c : Int} {l : List Int} (h : DR al ars ws N s c l) (hN : N ≤ 12) : l.length ≤ 12 := by
  rcases h with ⟨_, _, rfl⟩ | ⟨m, q, rfl, rfl, hq, O, rfl, D⟩
  · simp
  · rw [D.len]; omega
def DQ (al ars : List (Int × Int)) (ws : List Int) (N s : Int) (w : World) (e : Ending) (w' : World) : Prop := ∃ (u : Value) (c : Int) (l : List Int), e = .returned (.tuple #[u, .int .i64 c]) ∧ DR al ars ws N s c l ∧ IntsAt w' u l ∧ Below w.heap.size w w'
theorem dq_of {al ars : List (Int × Int)} {ws : List Int} {N s : Int} {w : World} {e : Ending} {w' : World} (h : DPost al ars ws N s w e w') : DQ al ars ws N s w e w' := by
  rcases h with ⟨c, h1, h2, rfl, b⟩ | ⟨m, q, u, d, rfl, rfl, hq, O, rfl, D, hi, b⟩
  · exact ⟨_, c, [], rfl, Or.inl ⟨h1, h2, rfl⟩, ints_nil _, b⟩
  · exact ⟨u, 0, d, rfl, Or.inr ⟨m, q, rfl, rfl, hq, O, rfl, D⟩, hi, b⟩
theorem s_keep3 {W1 W W' : World} {B0 : Nat} {u v : Value} (hb : B0 < W1.heap.size) (b : Below W.heap.size W W') (h : Below W1.heap.size W1 W ∧ W.cell? ⟨B0, 0, none⟩ = some u ∧ W.cell? ⟨B0, 1, none⟩ = some v) : Below W1.heap.size W1 W' ∧ W'.cell? ⟨B0, 0, none⟩ = some u ∧ W'.cell? ⟨B0, 1, none⟩ = some v :=
  ⟨h.1.trans (b.mono h.1.size), by rw [b.cell (by have := h.1.size; show B0 < _; omega)]; exact h.2.1, by rw [b.cell (by have := h.1.size; show B0 < _; omega)]; exact h.2.2⟩
/- what a law of two graphs' worth of arguments begins with -/
set_option maxRecDepth 100000 in
set_option maxHeartbeats 8000000 in
theorem dists_few {w : World} {N s : Int} {v u : Value} {ars : List (Int × Int)} {ws : List Int} (A : ArcsAt w v ars) (U : IntsAt w u ws) (hf : fewD N ars.length ws.length = true) : Calls Try.prog 3 #[gv N v, u, .int .i64 s] w fun e w' => e = .returned (.bool true) ∧ Below w.heap.size w w' := by
  have A0 := A; have U0 := U
  obtain ⟨a, cap, rfl, _⟩ := A
  obtain ⟨ua, uc, rfl⟩ := U.form
  have F12 : Hid (N ≤ 12) := by unfold fewD at hf; simp at hf; exact hf.1
  have FW := few_any N ars.length cap ws.length uc a ua
  rw [hf] at FW
  have FF := Lib.hid FW
  have C1 := Lib.hid (fun W (b : Below w.heap.size w W) => from_any (N := N) (s := s) (A0.below b) (U0.below b))
  have C2 := Lib.hid (fun W (b : Below w.heap.size w W) => fromr_any (N := N) (s := s) (A0.below b) (U0.below b))
  have C3 := Lib.hid (fun W (b : Below w.heap.size w W) => to_any (N := N) (s := s) (A0.below b) (U0.below b))
  have C4 := Lib.hid (fun W (b : Below w.heap.size w W) => tor_any (N := N) (s := s) (A0.below b) (U0.below b))
  have K1 := Lib.hid (fun W (b : Below w.heap.size w W) => ck_any (N := N) (A0.below b) (U0.below b))
  have K2 := Lib.hid (fun W (b : Below w.heap.size w W) => ckr_any (N := N) (A0.below b) (U0.below b))
  obtain ⟨n, hn⟩ : ∃ n, ars.length = n := ⟨_, rfl⟩
  obtain ⟨k, hk⟩ : ∃ k, ws.length = k := ⟨_, rfl⟩
  obtain ⟨cc, hcc⟩ : ∃ cc, ck N ars ws = cc := ⟨_, rfl⟩
  rw [hn, hk] at FF C1 C2 C3 C4 K1 K2
  rw [hcc] at K1 K2
  rw [hn, hk]
  obtain ⟨gB, hgB⟩ : ∃ gB, w.heap.size = gB := ⟨_, rfl⟩
  obtain ⟨W1, hW1⟩ : ∃ W1, w.alloc (.cells #[.int .i64 N, .slice a n cap] 24) = W1 := ⟨_, rfl⟩
  have r1 : Row W1 gB 24 [.int .i64 N, .slice a n cap] := by rw [← hW1, ← hgB]; exact Row.new _ _ _
  have q0 := r1.cell (i := 0) rfl; have q1 := r1.cell (i := 1) rfl
  have b1 : Below w.heap.size w W1 := by rw [← hW1]; exact below_al _ _
  have B1 := Lib.hid b1; have R1 := Lib.hid r1
  clear A0 U0 U b1 r1 hn hk hf FW hcc
  go_enter Try.func3, Try.ntmps3
  go_wp2_with fail
  refine (FF.out _).mono ?_; rintro e w2 ⟨rfl, b⟩
  have B2 := Lib.hid (B1.out.trans (b.mono B1.out.size)); have R2 := Lib.hid (R1.out.below b R1.out.lt)
  clear b q0 q1 hW1
  have q0 := R2.out.cell (i := 0) rfl; have q1 := R2.out.cell (i := 1) rfl
  go_wp2_with fail
  refine (C1.out _ B2.out).mono ?_; rintro e w3 hp3
  obtain ⟨u3, c3, l3, rfl, d3, i3, b⟩ := dq_of hp3
  have D3 := Lib.hid d3; have I3 := Lib.hid i3
  have B3 := Lib.hid (B2.out.trans (b.mono B2.out.size)); have R3 := Lib.hid (R2.out.below b R2.out.lt); have BX23 := Lib.hid b
  clear b hp3 d3 i3 q0 q1
  have q0 := R3.out.cell (i := 0) rfl; have q1 := R3.out.cell (i := 1) rfl
  go_wp2_with fail
  refine (C2.out _ B3.out).mono ?_; rintro e w4 hp4
  obtain ⟨u4, c4, l4, rfl, d4, i4, b⟩ := dq_of hp4
  have D4 := Lib.hid d4; have I4 := Lib.hid i4
  have B4 := Lib.hid (B3.out.trans (b.mono B3.out.size)); have R4 := Lib.hid (R3.out.below b R3.out.lt); have BX34 := Lib.hid b
  clear b hp4 d4 i4 q0 q1
  have q0 := R4.out.cell (i := 0) rfl; have q1 := R4.out.cell (i := 1) rfl
  go_wp2_with fail
  refine (C3.out _ B4.out).mono ?_; rintro e w5 hp5
  obtain ⟨u5, c5, l5, rfl, d5, i5, b⟩ := dq_of hp5
  have D5 := Lib.hid d5; have I5 := Lib.hid i5
  have B5 := Lib.hid (B4.out.trans (b.mono B4.out.size)); have R5 := Lib.hid (R4.out.below b R4.out.lt); have BX45 := Lib.hid b
  clear b hp5 d5 i5 q0 q1
  have q0 := R5.out.cell (i := 0) rfl; have q1 := R5.out.cell (i := 1) rfl
  go_wp2_with fail
  refine (C4.out _ B5.out).mono ?_; rintro e w6 hp6
  obtain ⟨u6, c6, l6, rfl, d6, i6, b⟩ := dq_of hp6
  have D6 := Lib.hid d6; have I6 := Lib.hid i6
  have B6 := Lib.hid (B5.out.trans (b.mono B5.out.size)); have R6 := Lib.hid (R5.out.below b R5.out.lt); have BX56 := Lib.hid b
  clear b hp6 d6 i6 q0 q1
  have BX46 := Lib.hid (BX45.out.trans (BX56.out.mono BX45.out.size))
  obtain ⟨e1, e2⟩ := D3.out.unique D4.out
  obtain ⟨e3, e4⟩ := D5.out.unique D6.out
  subst e1 e2 e3 e4
  have q0 := R6.out.cell (i := 0) rfl; have q1 := R6.out.cell (i := 1) rfl
  obtain ⟨wE, hwE⟩ : ∃ wE, w6 = wE := ⟨_, rfl⟩
  subst hwE
  have BE := B6; have R9 := R6
  have CK := Lib.hid (fun W (b : Below w6.heap.size w6 W) => K1.out W (BE.out.trans (b.mono BE.out.size)))
  have CR := Lib.hid (fun W (b : Below w6.heap.size w6 W) => K2.out W (BE.out.trans (b.mono BE.out.size)))
  have E1 := Lib.hid (fun W (b : Below w6.heap.size w6 W) => equal_t (((I3.out.below BX34.out).below BX46.out).below b) ((I4.out.below BX46.out).below b) (by have := D3.out.small F12.out; omega))
  have E2 := Lib.hid (fun W (b : Below w6.heap.size w6 W) => equal_t ((I5.out.below BX56.out).below b) (I6.out.below b) (by have := D5.out.small F12.out; omega))
  go_wp2_with fail
  have S0 : Hid (∀ W, W = w6.drew → Below w6.heap.size w6 W ∧ W.cell? ⟨gB, 0, none⟩ = some (.int .i64 N) ∧ W.cell? ⟨gB, 1, none⟩ = some (.slice a n cap)) := by
    intro W e0; subst e0
    exact ⟨(Below.refl _ _).drew, q0, q1⟩
  refine wp_region_held_drew (S := fun W => Below w6.heap.size w6 W ∧ W.cell? ⟨gB, 0, none⟩ = some (.int .i64 N) ∧ W.cell? ⟨gB, 1, none⟩ = some (.slice a n cap)) (by kernel_rfl) (S0.out _ rfl) (fun hHeld => ?_)
  clear S0 q0 q1
  refine wpAnyH_take (i := 0) (v := ?_) rfl (by kernel_rfl) (by kernel_rfl) (by kernel_rfl) (fun _ _ _ h => h) (Or.inl ⟨by rfl, ?_⟩) (by assumption) ?_
  rotate_left 1
  · (intro w hSw; (try dsimp only at hSw); first | (go_simp; done) | (go_simp; with_reducible rfl))
  simp only [Act.put, List.getElem_toArray, List.getElem_cons_zero, List.setIfInBounds_toArray, List.set_cons_zero, List.set_cons_succ]
  refine wpAnyH_take (i := 1) (v := ?_) rfl (by kernel_rfl) (by kernel_rfl) (by kernel_rfl) (fun _ _ _ h => h) (Or.inl ⟨by rfl, ?_⟩) (by assumption) ?_
  rotate_left 1
  · (intro w hSw; (try dsimp only at hSw); first | (go_simp; done) | (go_simp; with_reducible rfl))
  simp only [Act.put, List.getElem_toArray, List.getElem_cons_zero, List.getElem_cons_succ, List.setIfInBounds_toArray, List.set_cons_zero, List.set_cons_succ]
  refine wpAnyH_take (i := 3) (v := ?_) rfl (by kernel_rfl) (by kernel_rfl) (by kernel_rfl) (fun _ _ _ h => h) (Or.inl ⟨by rfl, ?_⟩) (by assumption) ?_
  rotate_left 1
  · (intro w hSw; (try dsimp only at hSw); first | (go_simp; done) | (go_simp; with_reducible rfl))
  simp only [Act.put, List.getElem_toArray, List.getElem_cons_zero, List.getElem_cons_succ, List.setIfInBounds_toArray, List.set_cons_zero, List.set_cons_succ]
  refine wpAnyH_take (i := 4) (v := ?_) rfl (by kernel_rfl) (by kernel_rfl) (by kernel_rfl) (fun _ _ _ h => h) (Or.inl ⟨by rfl, ?_⟩) (by assumption) ?_
  rotate_left 1
  · (intro w hSw; (try dsimp only at hSw); first | (go_simp; done) | (go_simp; with_reducible rfl))
  simp only [Act.put, List.getElem_toArray, List.getElem_cons_zero, List.getElem_cons_succ, List.setIfInBounds_toArray, List.set_cons_zero, List.set_cons_succ]
  refine wpAnyH_ready (rs := [2]) (by kernel_rfl) (by simp) ?_
  refine AllReadyH.cons rfl (fun K hK => ?_) AllReadyH.nil
  have hS1 := Lib.hid hHeld
  go_simp
  go_wp2_with (go_at_call 14; (with_reducible refine (CK.out _ hS1.out.1).mono ?_); rintro en v1 ⟨rfl, b1⟩)
  refine hK.out _ _ (s_keep3 R9.out.lt b1 hS1.out) (fun hHeld2 => ?_)
  clear b1
  clear hK K hHeld hS1; have hHeld := hHeld2; clear hHeld2
  refine wpAnyH_ready (rs := [5]) (by kernel_rfl) (by simp) ?_
  refine AllReadyH.cons rfl (fun K hK => ?_) AllReadyH.nil
  have hS1 := Lib.hid hHeld
  go_simp
  go_wp2_with (go_at_call 15; (with_reducible refine (CR.out _ hS1.out.1).mono ?_); rintro en v2 ⟨rfl, b2⟩)
  refine hK.out _ _ (s_keep3 R9.out.lt b2 hS1.out) (fun hHeld2 => ?_)
  clear b2
  clear hK K hHeld hS1; have hHeld := hHeld2; clear hHeld2
  refine wpAnyH_take (i := 6) (v := ?_) rfl (by kernel_rfl) (by kernel_rfl) (by kernel_rfl) (fun _ _ _ h => h) (Or.inl ⟨by rfl, ?_⟩) (by assumption) ?_
  rotate_left 1
  · (intro w hSw; (try dsimp only at hSw); first | (go_simp; done) | (go_simp; with_reducible rfl))
  simp only [Act.put, List.getElem_toArray, List.getElem_cons_zero, List.getElem_cons_succ, List.setIfInBounds_toArray, List.set_cons_zero, List.set_cons_succ]
  refine wpAnyH_take (i := 7) (v := ?_) rfl (by kernel_rfl) (by kernel_rfl) (by kernel_rfl) (fun _ _ _ h => h) (Or.inl ⟨by rfl, ?_⟩) (by assumption) ?_
  rotate_left 1
  · (intro w hSw; (try dsimp only at hSw); first | (go_simp; done) | (go_simp; with_reducible rfl))
  simp only [Act.put, List.getElem_toArray, List.getElem_cons_zero, List.getElem_cons_succ, List.setIfInBounds_toArray, List.set_cons_zero, List.set_cons_succ]
  refine wpAnyH_take (i := 8) (v := ?_) rfl (by kernel_rfl) (by kernel_rfl) (by kernel_rfl) (fun _ _ _ h => h) (Or.inl ⟨by rfl, ?_⟩) (by assumption) ?_
  rotate_left 1
  · (intro w hSw; (try dsimp only at hSw); first | (go_simp; done) | (go_simp; with_reducible rfl))
  simp only [Act.put, List.getElem_toArray, List.getElem_cons_zero, List.getElem_cons_succ, List.setIfInBounds_toArray, List.set_cons_zero, List.set_cons_succ]
  refine wpAnyH_take (i := 9) (v := ?_) rfl (by kernel_rfl) (by kernel_rfl) (by kernel_rfl) (fun _ _ _ h => h) (Or.inl ⟨by rfl, ?_⟩) (by assumption) ?_
  rotate_left 1
  · (intro w hSw; (try dsimp only at hSw); first | (go_simp; done) | (go_simp; with_reducible rfl))
  simp only [Act.put, List.getElem_toArray, List.getElem_cons_zero, List.getElem_cons_succ, List.setIfInBounds_toArray, List.set_cons_zero, List.set_cons_succ]
  refine wpAnyH_take (i := 10) (v := ?_) rfl (by kernel_rfl) (by kernel_rfl) (by kernel_rfl) (fun _ _ _ h => h) (Or.inl ⟨by rfl, ?_⟩) (by assumption) ?_
  rotate_left 1
  · (intro w hSw; (try dsimp only at hSw); first | (go_simp; done) | (go_simp; with_reducible rfl))
  simp only [Act.put, List.getElem_toArray, List.getElem_cons_zero, List.getElem_cons_succ, List.setIfInBounds_toArray, List.set_cons_zero, List.set_cons_succ]
  refine wpAnyH_take (i := 11) (v := ?_) rfl (by kernel_rfl) (by kernel_rfl) (by kernel_rfl) (fun _ _ _ h => h) (Or.inl ⟨by rfl, ?_⟩) (by assumption) ?_
  rotate_left 1
  · (intro w hSw; (try dsimp only at hSw); first | (go_simp; done) | (go_simp; with_reducible rfl))
  simp only [Act.put, List.getElem_toArray, List.getElem_cons_zero, List.getElem_cons_succ, List.setIfInBounds_toArray, List.set_cons_zero, List.set_cons_succ]
  refine wpAnyH_take (i := 12) (v := ?_) rfl (by kernel_rfl) (by kernel_rfl) (by kernel_rfl) (fun _ _ _ h => h) (Or.inl ⟨by rfl, ?_⟩) (by assumption) ?_
  rotate_left 1
  · (intro w hSw; (try dsimp only at hSw); first | (go_simp; done) | (go_simp; with_reducible rfl))
  simp only [Act.put, List.getElem_toArray, List.getElem_cons_zero, List.getElem_cons_succ, List.setIfInBounds_toArray, List.set_cons_zero, List.set_cons_succ]
  refine wpAnyH_take (i := 13) (v := ?_) rfl (by kernel_rfl) (by kernel_rfl) (by kernel_rfl) (fun _ _ _ h => h) (Or.inl ⟨by rfl, ?_⟩) (by assumption) ?_
  rotate_left 1
  · (intro w hSw; (try dsimp only at hSw); first | (go_simp; done) | (go_simp; with_reducible rfl))
  simp only [Act.put, List.getElem_toArray, List.getElem_cons_zero, List.getElem_cons_succ, List.setIfInBounds_toArray, List.set_cons_zero, List.set_cons_succ]
  refine wpAnyH_take (i := 14) (v := ?_) rfl (by kernel_rfl) (by kernel_rfl) (by kernel_rfl) (fun _ _ _ h => h) (Or.inl ⟨by rfl, ?_⟩) (by assumption) ?_
  rotate_left 1
  · (intro w hSw; (try dsimp only at hSw); first | (go_simp; done) | (go_simp; with_reducible rfl))
  simp only [Act.put, List.getElem_toArray, List.getElem_cons_zero, List.getElem_cons_succ, List.setIfInBounds_toArray, List.set_cons_zero, List.set_cons_succ]
  refine wpAnyH_ready (rs := [15]) (by kernel_rfl) (by simp) ?_
  refine AllReadyH.cons rfl (fun K hK => ?_) AllReadyH.nil
  have hS1 := Lib.hid hHeld
  go_simp
  go_wp2_with (go_at_call 16; (with_reducible refine (E1.out _ hS1.out.1).mono ?_); rintro en v3 ⟨rfl, b3⟩)
  refine hK.out _ _ (s_keep3 R9.out.lt b3 hS1.out) (fun hHeld2 => ?_)
  clear b3
  clear hK K hHeld hS1; have hHeld := hHeld2; clear hHeld2
  refine wpAnyH_take (i := 16) (v := ?_) rfl (by kernel_rfl) (by kernel_rfl) (by kernel_rfl) (fun _ _ _ h => h) (Or.inl ⟨by rfl, ?_⟩) (by assumption) ?_
  rotate_left 1
  · (intro w hSw; (try dsimp only at hSw); first | (go_simp; done) | (go_simp; with_reducible rfl))
  simp only [Act.put, List.getElem_toArray, List.getElem_cons_zero, List.getElem_cons_succ, List.setIfInBounds_toArray, List.set_cons_zero, List.set_cons_succ]
  refine wpAnyH_take (i := 17) (v := ?_) rfl (by kernel_rfl) (by kernel_rfl) (by kernel_rfl) (fun _ _ _ h => h) (Or.inl ⟨by rfl, ?_⟩) (by assumption) ?_
  rotate_left 1
  · (intro w hSw; (try dsimp only at hSw); first | (go_simp; done) | (go_simp; with_reducible rfl))
  simp only [Act.put, List.getElem_toArray, List.getElem_cons_zero, List.getElem_cons_succ, List.setIfInBounds_toArray, List.set_cons_zero, List.set_cons_succ]
  refine wpAnyH_take (i := 18) (v := ?_) rfl (by kernel_rfl) (by kernel_rfl) (by kernel_rfl) (fun _ _ _ h => h) (Or.inl ⟨by rfl, ?_⟩) (by assumption) ?_
  rotate_left 1
  · (intro w hSw; (try dsimp only at hSw); first | (go_simp; done) | (go_simp; with_reducible rfl))
  simp only [Act.put, List.getElem_toArray, List.getElem_cons_zero, List.getElem_cons_succ, List.setIfInBounds_toArray, List.set_cons_zero, List.set_cons_succ]
  refine wpAnyH_take (i := 19) (v := ?_) rfl (by kernel_rfl) (by kernel_rfl) (by kernel_rfl) (fun _ _ _ h => h) (Or.inl ⟨by rfl, ?_⟩) (by assumption) ?_
  rotate_left 1
  · (intro w hSw; (try dsimp only at hSw); first | (go_simp; done) | (go_simp; with_reducible rfl))
  simp only [Act.put, List.getElem_toArray, List.getElem_cons_zero, List.getElem_cons_succ, List.setIfInBounds_toArray, List.set_cons_zero, List.set_cons_succ]
  refine wpAnyH_take (i := 20) (v := ?_) rfl (by kernel_rfl) (by kernel_rfl) (by kernel_rfl) (fun _ _ _ h => h) (Or.inl ⟨by rfl, ?_⟩) (by assumption) ?_
  rotate_left 1
  · (intro w hSw; (try dsimp only at hSw); first | (go_simp; done) | (go_simp; with_reducible rfl))
  simp only [Act.put, List.getElem_toArray, List.getElem_cons_zero, List.getElem_cons_succ, List.setIfInBounds_toArray, List.set_cons_zero, List.set_cons_succ]
  refine wpAnyH_take (i := 21) (v := ?_) rfl (by kernel_rfl) (by kernel_rfl) (by kernel_rfl) (fun _ _ _ h => h) (Or.inl ⟨by rfl, ?_⟩) (by assumption) ?_
  rotate_left 1
  · (intro w hSw; (try dsimp only at hSw); first | (go_simp; done) | (go_simp; with_reducible rfl))
  simp only [Act.put, List.getElem_toArray, List.getElem_cons_zero, List.getElem_cons_succ, List.setIfInBounds_toArray, List.set_cons_zero, List.set_cons_succ]
  refine wpAnyH_take (i := 22) (v := ?_) rfl (by kernel_rfl) (by kernel_rfl) (by kernel_rfl) (fun _ _ _ h => h) (Or.inl ⟨by rfl, ?_⟩) (by assumption) ?_
  rotate_left 1
  · (intro w hSw; (try dsimp only at hSw); first | (go_simp; done) | (go_simp; with_reducible rfl))
  simp only [Act.put, List.getElem_toArray, List.getElem_cons_zero, List.getElem_cons_succ, List.setIfInBounds_toArray, List.set_cons_zero, List.set_cons_succ]
  refine wpAnyH_take (i := 23) (v := ?_) rfl (by kernel_rfl) (by kernel_rfl) (by kernel_rfl) (fun _ _ _ h => h) (Or.inl ⟨by rfl, ?_⟩) (by assumption) ?_
  rotate_left 1
  · (intro w hSw; (try dsimp only at hSw); first | (go_simp; done) | (go_simp; with_reducible rfl))
  simp only [Act.put, List.getElem_toArray, List.getElem_cons_zero, List.getElem_cons_succ, List.setIfInBounds_toArray, List.set_cons_zero, List.set_cons_succ]
  refine wpAnyH_take (i := 24) (v := ?_) rfl (by kernel_rfl) (by kernel_rfl) (by kernel_rfl) (fun _ _ _ h => h) (Or.inl ⟨by rfl, ?_⟩) (by assumption) ?_
  rotate_left 1
  · (intro w hSw; (try dsimp only at hSw); first | (go_simp; done) | (go_simp; with_reducible rfl))
  simp only [Act.put, List.getElem_toArray, List.getElem_cons_zero, List.getElem_cons_succ, List.setIfInBounds_toArray, List.set_cons_zero, List.set_cons_succ]
  refine wpAnyH_ready (rs := [25]) (by kernel_rfl) (by simp) ?_
  refine AllReadyH.cons rfl (fun K hK => ?_) AllReadyH.nil
  have hS1 := Lib.hid hHeld
  go_simp
  go_wp2_with (go_at_call 16; (with_reducible refine (E2.out _ hS1.out.1).mono ?_); rintro en v4 ⟨rfl, b4⟩)
  refine hK.out _ _ (s_keep3 R9.out.lt b4 hS1.out) (fun hHeld2 => ?_)
  clear b4
  clear hK K hHeld hS1; have hHeld := hHeld2; clear hHeld2
  refine wpAnyH_take (i := 26) (v := ?_) rfl (by kernel_rfl) (by kernel_rfl) (by kernel_rfl) (fun _ _ _ h => h) (Or.inl ⟨by rfl, ?_⟩) (by assumption) ?_
  rotate_left 1
  · (intro w hSw; (try dsimp only at hSw); first | (go_simp; done) | (go_simp; with_reducible rfl))
  simp only [Act.put, List.getElem_toArray, List.getElem_cons_zero, List.getElem_cons_succ, List.setIfInBounds_toArray, List.set_cons_zero, List.set_cons_succ]
  refine wpAnyH_take (i := 27) (v := ?_) rfl (by kernel_rfl) (by kernel_rfl) (by kernel_rfl) (fun _ _ _ h => h) (Or.inl ⟨by rfl, ?_⟩) (by assumption) ?_
  rotate_left 1
  · (intro w hSw; (try dsimp only at hSw); first | (go_simp; done) | (go_simp; with_reducible rfl))
  simp only [Act.put, List.getElem_toArray, List.getElem_cons_zero, List.getElem_cons_succ, List.setIfInBounds_toArray, List.set_cons_zero, List.set_cons_succ]
  refine wpAnyH_ready (rs := [28]) (by kernel_rfl) (by simp) ?_
  refine AllReadyH.cons rfl (fun K hK => ?_) AllReadyH.nil
  have hS1 := Lib.hid hHeld
  go_simp
  go_wp2_with (go_at_call 9; (with_reducible refine (lives38_any _).mono ?_); rintro en v5 ⟨rfl, b5⟩)
  refine hK.out _ _ (s_keep3 R9.out.lt b5 hS1.out) (fun hHeld2 => ?_)
  clear b5
  clear hK K hHeld hS1; have hHeld := hHeld2; clear hHeld2
  refine wpAnyH_take (i := 29) (v := ?_) rfl (by kernel_rfl) (by kernel_rfl) (by kernel_rfl) (fun _ _ _ h => h) (Or.inl ⟨by rfl, ?_⟩) (by assumption) ?_
  rotate_left 1
  · (intro w hSw; (try dsimp only at hSw); first | (go_simp; done) | (go_simp; with_reducible rfl))
  simp only [Act.put, List.getElem_toArray, List.getElem_cons_zero, List.getElem_cons_succ, List.setIfInBounds_toArray, List.set_cons_zero, List.set_cons_succ]
  refine wpAnyH_take (i := 30) (v := ?_) rfl (by kernel_rfl) (by kernel_rfl) (by kernel_rfl) (fun _ _ _ h => h) (Or.inl ⟨by rfl, ?_⟩) (by assumption) ?_
  rotate_left 1
  · (intro w hSw; (try dsimp only at hSw); first | (go_simp; done) | (go_simp; with_reducible rfl))
  simp only [Act.put, List.getElem_toArray, List.getElem_cons_zero, List.getElem_cons_succ, List.setIfInBounds_toArray, List.set_cons_zero, List.set_cons_succ]
  have FB := Lib.hid (BE.out.trans (hHeld.1.mono BE.out.size))
  refine wpAnyH_done (by kernel_rfl) ?_ _
  clear hHeld
  go_wp2_with fail
  go_ret
  exact ⟨rfl, FB.out⟩
theorem dists_many {w : World} {N s : Int} {n cap k uc : Nat} {a ua : Option Addr} (hf : fewD N n k = false) : Calls Try.prog 3 #[gv N (.slice a n cap), .slice ua k uc, .int .i64 s] w fun e w' => e = .returned (.bool true) ∧ Below w.heap.size w w' := by
  obtain ⟨W1, hW1⟩ : ∃ W1, w.alloc (.cells #[.int .i64 N, .slice a n cap] 24) = W1 := ⟨_, rfl⟩
  have r1 : Row W1 w.heap.size 24 [.int .i64 N, .slice a n cap] := by rw [← hW1]; exact Row.new _ _ _
  have b1 : Below w.heap.size w W1 := by rw [← hW1]; exact below_al _ _
  have FW := few_any N n cap k uc a ua
  rw [hf] at FW
  have FF := Lib.hid FW; have BB := Lib.hid b1
  have q0 := r1.cell (i := 0) rfl; have q1 := r1.cell (i := 1) rfl
  clear FW b1 r1 hf
  go_enter Try.func3, Try.ntmps3
  go_wp2_with fail
  refine (FF.out _).mono ?_; rintro e w3 ⟨rfl, b⟩
  have B3 := Lib.hid (BB.out.trans (b.mono BB.out.size))
  clear b
  go_wp2_with fail
  refine (lives38_any _).mono ?_; rintro e w4 ⟨rfl, b⟩
  have B4 := Lib.hid (B3.out.trans (b.mono B3.out.size))
  clear b
  go_wp2_with fail
  go_ret
  exact ⟨rfl, B4.out⟩
abbrev dijkstraDists_zero0 : Value := gv 0 nilV
theorem dijkstraDists_open0 {H : Type} {enc : TypeId × Value → H} {W : World} {base b0 : Nat} {spare : Nat → Bool} {held : Bool} {r : Reach} {v : Value} {d : DataW H} {p : List MemPlace}
    (hv : Value.okWide Try.prog W r b0 24 v) (h : DataW.Trod enc Try.prog W base spare held 24 v d p) : IsG W v := graph_open hv h
theorem dijkstraDists_open1 {H : Type} {enc : TypeId × Value → H} {W : World} {base b0 : Nat} {spare : Nat → Bool} {held : Bool} {r : Reach} {v : Value} {d : DataW H} {p : List MemPlace}
    (hv : Value.okWide Try.prog W r b0 25 v) (h : DataW.Trod enc Try.prog W base spare held 25 v d p) : IsInts W v := ints_open hv h
theorem dijkstraDists_walk (v u : Value) (s : Int) (w : World) (h : IsG w v) (h1 : IsInts w u) (_ : (Lit.int .i64 s).wf = true) : Calls Try.prog 3 #[v, u, .int .i64 s] w fun e w' => e = .returned (.bool true) ∧ Below w.heap.size w w' := by
  obtain ⟨N, x, ars, rfl, ha⟩ := h
  obtain ⟨ws, hw, _⟩ := h1
  by_cases hf : fewD N ars.length ws.length = true
  · exact dists_few ha hw hf
  · obtain ⟨a, cap, rfl, _⟩ := ha
    obtain ⟨ua, uc, rfl⟩ := hw.form
    exact dists_many (by simpa using hf)
end Go.Proofs.Ytgofachgoflgnaa
