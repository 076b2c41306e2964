/- pq: the reference's Pop. -/
import Derived.Test.YtdohmlkocbdomaaPw
namespace Go.Proofs.Ytdohmlkocbdomaa
open Go.ChangeShapes Go.WideShapes Go.ChangeAt Go.RowKit Go.Joins Go.Deep

/- the best of the first k items -/
def Best (ins : List Bool) (ks : List Int) (k : Nat) (best : Int) : Prop :=
  (best = -1 ∧ ∀ Z, Z < k → ins.getD Z false = false) ∨ ∃ X : Nat, X < k ∧ best = (X : Int) ∧ ins.getD X false = true ∧ ∀ Z, Z < k → ins.getD Z false = true → leK ks X Z
theorem best_no {ins : List Bool} {ks : List Int} {k : Nat} {best : Int} (h : Best ins ks k best) (hk : ins.getD k false = false) : Best ins ks (k + 1) best := by
  rcases h with ⟨h1, h2⟩ | ⟨X, h1, h2, h3, h4⟩
  · refine Or.inl ⟨h1, fun Z hZ => ?_⟩
    by_cases e : Z = k
    · rw [e]; exact hk
    · exact h2 Z (by omega)
  · refine Or.inr ⟨X, by omega, h2, h3, fun Z hZ hi => ?_⟩
    by_cases e : Z = k
    · rw [e, hk] at hi; cases hi
    · exact h4 Z (by omega) hi
theorem leK_refl (ks : List Int) (a : Nat) : leK ks a a := ((leK_ord ks).total a a).elim id id
theorem best_first {ins : List Bool} {ks : List Int} {k : Nat} (h : Best ins ks k (-1)) (hk : ins.getD k false = true) : Best ins ks (k + 1) (k : Int) := by
  rcases h with ⟨_, h2⟩ | ⟨X, _, h2, _⟩
  · refine Or.inr ⟨k, by omega, rfl, hk, fun Z hZ hi => ?_⟩
    by_cases e : Z = k
    · rw [e]; exact leK_refl _ _
    · rw [h2 Z (by omega)] at hi; cases hi
  · omega
theorem best_less {ins : List Bool} {ks : List Int} {k Y : Nat} (h : Best ins ks k (Y : Int)) (hk : ins.getD k false = true) (hl : ks.getD k 0 < ks.getD Y 0) : Best ins ks (k + 1) (k : Int) := by
  rcases h with ⟨h1, _⟩ | ⟨X, h1, h2, h3, h4⟩
  · omega
  · obtain rfl : X = Y := by omega
    refine Or.inr ⟨k, by omega, rfl, hk, fun Z hZ hi => ?_⟩
    by_cases e : Z = k
    · rw [e]; exact leK_refl _ _
    · have := h4 Z (by omega) hi
      unfold leK bfr at this ⊢
      simp only [decide_eq_true_eq] at this ⊢
      omega
theorem best_keep {ins : List Bool} {ks : List Int} {k Y : Nat} (h : Best ins ks k (Y : Int)) (hl : ¬ ks.getD k 0 < ks.getD Y 0) : Best ins ks (k + 1) (Y : Int) := by
  rcases h with ⟨h1, _⟩ | ⟨X, h1, h2, h3, h4⟩
  · omega
  · obtain rfl : X = Y := by omega
    refine Or.inr ⟨X, by omega, rfl, h3, fun Z hZ hi => ?_⟩
    by_cases e : Z = k
    · rw [e]; unfold leK bfr; simp only [decide_eq_true_eq]; omega
    · exact h4 Z (by omega) hi
theorem best_none {ins : List Bool} {ks : List Int} {n : Nat} (hl : ins.length = n) (h : Best ins ks n (-1)) : ins.count true = 0 := by
  rcases h with ⟨_, h2⟩ | ⟨X, _, h2, _⟩
  · rw [List.count_eq_zero]
    intro hm
    obtain ⟨i, hi, e⟩ := List.getElem_of_mem hm
    have := h2 i (by omega)
    rw [List.getD, List.getElem?_eq_getElem hi] at this
    simp [e] at this
  · omega
theorem best_some {ins : List Bool} {ks : List Int} {n X : Nat} (hl : ins.length = n) (h : Best ins ks n (X : Int)) : Least ins ks X := by
  rcases h with ⟨h1, _⟩ | ⟨Y, h1, h2, h3, h4⟩
  · omega
  · obtain rfl : Y = X := by omega
    exact ⟨by omega, h3, fun Z hZ hi => h4 Z (by omega) hi⟩
structure PW (w wr : World) (ib kb n : Nat) (ins : List Bool) (ks : List Int) : Prop where
  a : Row wr w.heap.size 29 [sl ib n, sl kb n]
  z : Row wr (w.heap.size + 1) 29 [.slice none 0 0, .slice none 0 0]
  p : Row wr (w.heap.size + 2) 44 [.int .i64 0, .int .i64 0, .bool false]
  r : RefS wr ib kb n ins ks
  b : Below w.heap.size w wr
theorem PW.drew {w wr : World} {ib kb n : Nat} {ins : List Bool} {ks : List Int} (h : PW w wr ib kb n ins ks) : PW w wr.drew ib kb n ins ks :=
  ⟨h.a.same rfl, h.z.same rfl, h.p.same rfl, h.r.same rfl rfl, h.b.drew⟩
theorem pw_new {w : World} {ib kb n : Nat} {ins : List Bool} {ks : List Int} (R : RefS w ib kb n ins ks) : ∃ W1 W2 W3, w.alloc (.cells #[sl ib n, sl kb n] 29) = W1 ∧ W1.alloc (.cells #[.slice none 0 0, .slice none 0 0] 29) = W2 ∧ W2.alloc (.cells #[.int .i64 0, .int .i64 0, .bool false] 44) = W3 ∧ W1.heap.size = w.heap.size + 1 ∧ W2.heap.size = w.heap.size + 2 ∧ PW w W3 ib kb n ins ks := by
  obtain ⟨W1, W2, h1, h2, z1, B⟩ := bx_new w ib kb n
  refine ⟨W1, W2, _, h1, h2, rfl, z1, B.sz, B.a.alloc _, B.z.alloc _, ?_, ?_, B.b.alloc (by rw [B.sz]; omega) _⟩
  · have := Row.new W2 44 [.int .i64 0, .int .i64 0, .bool false]
    rw [B.sz] at this; exact this
  · exact R.below (B.b.alloc (by rw [B.sz]; omega) _)
theorem put3 {W : World} {b : Nat} {v0 v1 v2 : Value} (y0 y1 y2 : Value) (h : Row W b 44 [v0, v1, v2]) : ∃ W9, ((W.setCell ⟨b, 0, none⟩ y0).setCell ⟨b, 1, none⟩ y1).setCell ⟨b, 2, none⟩ y2 = W9 ∧ Row W9 b 44 [y0, y1, y2] ∧ FrF (fun k => k = b) W W9 :=
  ⟨_, rfl, ((h.set (i := 0) y0).set (i := 1) y1).set (i := 2) y2, ((FrF.setCell (F := fun k => k = b) W (a := ⟨b, 0, none⟩) rfl _).trans (FrF.setCell (F := fun k => k = b) _ (a := ⟨b, 1, none⟩) rfl _) (fun _ _ h => h)).trans (FrF.setCell (F := fun k => k = b) _ (a := ⟨b, 2, none⟩) rfl _) (fun _ _ h => h)⟩
def RPop (ib kb n : Nat) (ins : List Bool) (ks : List Int) (w : World) (e : Ending) (w' : World) : Prop :=
  ∃ a k b ins2, PopR ins ks a k b ins2 ∧ e = .returned (.tuple #[rv ib kb n, .agg #[.int .i64 a, .int .i64 k, .bool b]]) ∧ RefS w' ib kb n ins2 ks ∧ FrF (IK ib kb) w w'
set_option maxRecDepth 100000 in
set_option maxHeartbeats 8000000 in
theorem rpop_any {w : World} {ib kb n : Nat} {ins : List Bool} {ks : List Int} (R : RefS w ib kb n ins ks) (hn : n ≤ 1048576) :
    Calls Try.prog 18 #[rv ib kb n] w (RPop ib kb n ins ks w) := by
  obtain ⟨W1, W2, W3, hW1, hW2, hW3, z1, z2, P⟩ := pw_new R
  have PW0 := Lib.hid P; have RR := Lib.hid R; have HN := Lib.hid hn
  obtain ⟨B0, hB0⟩ : ∃ B0, w.heap.size = B0 := ⟨_, rfl⟩
  have HB0 := Lib.hid hB0
  have z1' : W1.heap.size = B0 + 1 := by omega
  have z2' : W2.heap.size = B0 + 2 := by omega
  clear P R hn z1 z2
  go_enter Try.func18, Try.ntmps18
  go_wp2_with fail
  clear hW1 hW2 hW3 z1' z2'
  go_loopw [4, 5] (fun s4 s5 wr => ∃ (k : Nat) (bb : Int), k ≤ n ∧ s4 = .int .i64 bb ∧ s5 = .int .i64 (k : Int) ∧ Hid (Best ins ks k bb) ∧ Hid (PW w wr ib kb n ins ks)) (fun _ s5 _ => n - (intOf s5).toNat)
  case atStart => exact ⟨0, -1, Nat.zero_le _, rfl, rfl, Or.inl ⟨rfl, fun Z hZ => absurd hZ (by omega)⟩, PW0⟩
  case round =>
    clear PW0
    obtain ⟨k, bb, hk, rfl, rfl, HB, PW⟩ := hrel
    have a' := PW.out.a
    rw [HB0.out] at a'
    have q0 := a'.cell (i := 0) rfl; have q1 := a'.cell (i := 1) rfl
    clear a'
    by_cases hkn : k < n
    · obtain ⟨k1, hk1⟩ : ∃ k1, k + 1 = k1 := ⟨_, rfl⟩
      have HK := Lib.hid hk1
      have k0 : (0 : Int) ≤ (k : Int) := by omega
      have kl : (k : Int) < (n : Int) := by omega
      have e1 : (k : Int) + 1 = (k1 : Int) := by omega
      have e2 : IntKind.i64.wrap (k1 : Int) = (k1 : Int) := by rw [IntKind.wrap_i64]; have := HN.out; omega
      have ci := PW.out.r.ci hkn; have ck := PW.out.r.ck hkn
      obtain ⟨kk, hkk⟩ : ∃ kk, ks.getD k 0 = kk := ⟨_, rfl⟩
      rw [hkk] at ck
      have HKK := Lib.hid hkk
      clear hk1 hkk
      cases hb : ins.getD k false
      · rw [hb] at ci
        have HI := Lib.hid hb
        clear hb
        obtain ⟨Y, hY⟩ : ∃ Y, k = Y := ⟨_, rfl⟩
        obtain ⟨ky, hky⟩ : ∃ ky, kk = ky := ⟨_, rfl⟩
        have cy : wr.cell? ⟨kb, Y, none⟩ = some (.int .i64 ky) := by rw [← hY, ← hky]; exact ck
        clear hY hky
        go_wp2_with fail
        have S0 : Hid (∀ W, W = wr.drew → Below wr.heap.size wr W ∧ W.cell? ⟨B0, 0, none⟩ = some (sl ib n) ∧ W.cell? ⟨B0, 1, none⟩ = some (sl kb n) ∧ W.cell? ⟨ib, k, none⟩ = some (.bool false) ∧ W.cell? ⟨kb, k, none⟩ = some (.int .i64 kk) ∧ W.cell? ⟨kb, Y, none⟩ = some (.int .i64 ky)) := by
          intro W e0; subst e0
          exact ⟨(Below.refl _ _).drew, q0, q1, ci, ck, cy⟩
        refine wp_region_held_drew (S := fun W => Below wr.heap.size wr W ∧ W.cell? ⟨B0, 0, none⟩ = some (sl ib n) ∧ W.cell? ⟨B0, 1, none⟩ = some (sl kb n) ∧ W.cell? ⟨ib, k, none⟩ = some (.bool false) ∧ W.cell? ⟨kb, k, none⟩ = some (.int .i64 kk) ∧ W.cell? ⟨kb, Y, none⟩ = some (.int .i64 ky)) (by kernel_rfl) (S0.out _ rfl) (fun hHeld => ?_)
        clear S0
        refine wpAnyH_take (i := 0) (v := ?_) rfl (by kernel_rfl) (by kernel_rfl) (by kernel_rfl) (fun _ _ _ h => h) (Or.inl ⟨by rfl, ?_⟩) (by assumption) ?_
        rotate_left 1
        · (intro w hSw; (try dsimp only at hSw); first | (go_simp; done) | (go_simp; with_reducible rfl))
        simp only [Act.put, List.getElem_toArray, List.getElem_cons_zero, List.setIfInBounds_toArray, List.set_cons_zero, List.set_cons_succ]
        refine wpAnyH_take (i := 1) (v := ?_) rfl (by kernel_rfl) (by kernel_rfl) (by kernel_rfl) (fun _ _ _ h => h) (Or.inl ⟨by rfl, ?_⟩) (by assumption) ?_
        rotate_left 1
        · (intro w hSw; (try dsimp only at hSw); first | (go_simp; done) | (go_simp; with_reducible rfl))
        simp only [Act.put, List.getElem_toArray, List.getElem_cons_zero, List.getElem_cons_succ, List.setIfInBounds_toArray, List.set_cons_zero, List.set_cons_succ]
        refine wpAnyH_take (i := 2) (v := ?_) rfl (by kernel_rfl) (by kernel_rfl) (by kernel_rfl) (fun _ _ _ h => h) (Or.inl ⟨by rfl, ?_⟩) (by assumption) ?_
        rotate_left 1
        · (intro w hSw; (try dsimp only at hSw); first | (go_simp; done) | (go_simp; with_reducible rfl))
        simp only [Act.put, List.getElem_toArray, List.getElem_cons_zero, List.getElem_cons_succ, List.setIfInBounds_toArray, List.set_cons_zero, List.set_cons_succ]
        refine wpAnyH_take (i := 3) (v := ?_) rfl (by kernel_rfl) (by kernel_rfl) (by kernel_rfl) (fun _ _ _ h => h) (Or.inl ⟨by rfl, ?_⟩) (by assumption) ?_
        rotate_left 1
        · (intro w hSw; (try dsimp only at hSw); first | (go_simp; done) | (go_simp; with_reducible rfl))
        simp only [Act.put, List.getElem_toArray, List.getElem_cons_zero, List.getElem_cons_succ, List.setIfInBounds_toArray, List.set_cons_zero, List.set_cons_succ]
        refine wpAnyH_take (i := 4) (v := ?_) rfl (by kernel_rfl) (by kernel_rfl) (by kernel_rfl) (fun _ _ _ h => h) (Or.inl ⟨by rfl, ?_⟩) (by assumption) ?_
        rotate_left 1
        · (intro w hSw; (try dsimp only at hSw); first | (go_simp; done) | (go_simp; with_reducible rfl))
        simp only [Act.put, List.getElem_toArray, List.getElem_cons_zero, List.getElem_cons_succ, List.setIfInBounds_toArray, List.set_cons_zero, List.set_cons_succ]
        refine wpAnyH_take (i := 5) (v := ?_) rfl (by kernel_rfl) (by kernel_rfl) (by kernel_rfl) (fun _ _ _ h => h) (Or.inl ⟨by rfl, ?_⟩) (by assumption) ?_
        rotate_left 1
        · (intro w hSw; (try dsimp only at hSw); first | (go_simp; done) | (go_simp; with_reducible rfl))
        simp only [Act.put, List.getElem_toArray, List.getElem_cons_zero, List.getElem_cons_succ, List.setIfInBounds_toArray, List.set_cons_zero, List.set_cons_succ]
        refine wpAnyH_take (i := 6) (v := undef) rfl (by kernel_rfl) (by kernel_rfl) (by kernel_rfl) (fun _ _ _ h => h) (Or.inr ⟨by rfl, rfl⟩) (by assumption) ?_
        simp only [Act.put, List.getElem_toArray, List.getElem_cons_zero, List.getElem_cons_succ, List.setIfInBounds_toArray, List.set_cons_zero, List.set_cons_succ]
        refine wpAnyH_take (i := 7) (v := undef) rfl (by kernel_rfl) (by kernel_rfl) (by kernel_rfl) (fun _ _ _ h => h) (Or.inr ⟨by rfl, rfl⟩) (by assumption) ?_
        simp only [Act.put, List.getElem_toArray, List.getElem_cons_zero, List.getElem_cons_succ, List.setIfInBounds_toArray, List.set_cons_zero, List.set_cons_succ]
        refine wpAnyH_take (i := 8) (v := undef) rfl (by kernel_rfl) (by kernel_rfl) (by kernel_rfl) (fun _ _ _ h => h) (Or.inr ⟨by rfl, rfl⟩) (by assumption) ?_
        simp only [Act.put, List.getElem_toArray, List.getElem_cons_zero, List.getElem_cons_succ, List.setIfInBounds_toArray, List.set_cons_zero, List.set_cons_succ]
        refine wpAnyH_take (i := 9) (v := undef) rfl (by kernel_rfl) (by kernel_rfl) (by kernel_rfl) (fun _ _ _ h => h) (Or.inr ⟨by rfl, rfl⟩) (by assumption) ?_
        simp only [Act.put, List.getElem_toArray, List.getElem_cons_zero, List.getElem_cons_succ, List.setIfInBounds_toArray, List.set_cons_zero, List.set_cons_succ]
        refine wpAnyH_take (i := 10) (v := undef) rfl (by kernel_rfl) (by kernel_rfl) (by kernel_rfl) (fun _ _ _ h => h) (Or.inr ⟨by rfl, rfl⟩) (by assumption) ?_
        simp only [Act.put, List.getElem_toArray, List.getElem_cons_zero, List.getElem_cons_succ, List.setIfInBounds_toArray, List.set_cons_zero, List.set_cons_succ]
        refine wpAnyH_take (i := 11) (v := undef) rfl (by kernel_rfl) (by kernel_rfl) (by kernel_rfl) (fun _ _ _ h => h) (Or.inr ⟨by rfl, rfl⟩) (by assumption) ?_
        simp only [Act.put, List.getElem_toArray, List.getElem_cons_zero, List.getElem_cons_succ, List.setIfInBounds_toArray, List.set_cons_zero, List.set_cons_succ]
        refine wpAnyH_take (i := 12) (v := undef) rfl (by kernel_rfl) (by kernel_rfl) (by kernel_rfl) (fun _ _ _ h => h) (Or.inr ⟨by rfl, rfl⟩) (by assumption) ?_
        simp only [Act.put, List.getElem_toArray, List.getElem_cons_zero, List.getElem_cons_succ, List.setIfInBounds_toArray, List.set_cons_zero, List.set_cons_succ]
        refine wpAnyH_take (i := 13) (v := undef) rfl (by kernel_rfl) (by kernel_rfl) (by kernel_rfl) (fun _ _ _ h => h) (Or.inr ⟨by rfl, rfl⟩) (by assumption) ?_
        simp only [Act.put, List.getElem_toArray, List.getElem_cons_zero, List.getElem_cons_succ, List.setIfInBounds_toArray, List.set_cons_zero, List.set_cons_succ]
        refine wpAnyH_take (i := 14) (v := undef) rfl (by kernel_rfl) (by kernel_rfl) (by kernel_rfl) (fun _ _ _ h => h) (Or.inr ⟨by rfl, rfl⟩) (by assumption) ?_
        simp only [Act.put, List.getElem_toArray, List.getElem_cons_zero, List.getElem_cons_succ, List.setIfInBounds_toArray, List.set_cons_zero, List.set_cons_succ]
        refine wpAnyH_take (i := 15) (v := undef) rfl (by kernel_rfl) (by kernel_rfl) (by kernel_rfl) (fun _ _ _ h => h) (Or.inr ⟨by rfl, rfl⟩) (by assumption) ?_
        simp only [Act.put, List.getElem_toArray, List.getElem_cons_zero, List.getElem_cons_succ, List.setIfInBounds_toArray, List.set_cons_zero, List.set_cons_succ]
        refine wpAnyH_take (i := 16) (v := undef) rfl (by kernel_rfl) (by kernel_rfl) (by kernel_rfl) (fun _ _ _ h => h) (Or.inr ⟨by rfl, rfl⟩) (by assumption) ?_
        simp only [Act.put, List.getElem_toArray, List.getElem_cons_zero, List.getElem_cons_succ, List.setIfInBounds_toArray, List.set_cons_zero, List.set_cons_succ]
        refine wpAnyH_take (i := 17) (v := undef) rfl (by kernel_rfl) (by kernel_rfl) (by kernel_rfl) (fun _ _ _ h => h) (Or.inr ⟨by rfl, rfl⟩) (by assumption) ?_
        simp only [Act.put, List.getElem_toArray, List.getElem_cons_zero, List.getElem_cons_succ, List.setIfInBounds_toArray, List.set_cons_zero, List.set_cons_succ]
        refine wpAnyH_take (i := 18) (v := undef) rfl (by kernel_rfl) (by kernel_rfl) (by kernel_rfl) (fun _ _ _ h => h) (Or.inr ⟨by rfl, rfl⟩) (by assumption) ?_
        simp only [Act.put, List.getElem_toArray, List.getElem_cons_zero, List.getElem_cons_succ, List.setIfInBounds_toArray, List.set_cons_zero, List.set_cons_succ]
        refine wpAnyH_take (i := 19) (v := undef) rfl (by kernel_rfl) (by kernel_rfl) (by kernel_rfl) (fun _ _ _ h => h) (Or.inr ⟨by rfl, rfl⟩) (by assumption) ?_
        simp only [Act.put, List.getElem_toArray, List.getElem_cons_zero, List.getElem_cons_succ, List.setIfInBounds_toArray, List.set_cons_zero, List.set_cons_succ]
        refine wpAnyH_take (i := 20) (v := undef) rfl (by kernel_rfl) (by kernel_rfl) (by kernel_rfl) (fun _ _ _ h => h) (Or.inr ⟨by rfl, rfl⟩) (by assumption) ?_
        simp only [Act.put, List.getElem_toArray, List.getElem_cons_zero, List.getElem_cons_succ, List.setIfInBounds_toArray, List.set_cons_zero, List.set_cons_succ]
        refine wpAnyH_take (i := 21) (v := ?_) rfl (by kernel_rfl) (by kernel_rfl) (by kernel_rfl) (fun _ _ _ h => h) (Or.inl ⟨by rfl, ?_⟩) (by assumption) ?_
        rotate_left 1
        · (intro w hSw; (try dsimp only at hSw); first | (go_simp; done) | (go_simp; with_reducible rfl))
        simp only [Act.put, List.getElem_toArray, List.getElem_cons_zero, List.getElem_cons_succ, List.setIfInBounds_toArray, List.set_cons_zero, List.set_cons_succ]
        refine wpAnyH_done (by kernel_rfl) ?_ _
        clear hHeld
        go_wp2_with fail
        go_roundw
        case measure => simp [intOf]; have := HK.out; omega
        case rel => exact ⟨k1, bb, by have := HK.out; omega, rfl, rfl, by have h := best_no HB.out HI.out; rw [HK.out] at h; exact h, PW.out.drew⟩
      · rw [hb] at ci
        have HI := Lib.hid hb
        clear hb
        rcases HB.out with ⟨hb1, _⟩ | ⟨Y, hYk, hYb, _⟩
        · obtain rfl : bb = -1 := hb1
          obtain ⟨Y, hY⟩ : ∃ Y, k = Y := ⟨_, rfl⟩
          obtain ⟨ky, hky⟩ : ∃ ky, kk = ky := ⟨_, rfl⟩
          have cy : wr.cell? ⟨kb, Y, none⟩ = some (.int .i64 ky) := by rw [← hY, ← hky]; exact ck
          clear hY hky
          go_wp2_with fail
          have S0 : Hid (∀ W, W = wr.drew → Below wr.heap.size wr W ∧ W.cell? ⟨B0, 0, none⟩ = some (sl ib n) ∧ W.cell? ⟨B0, 1, none⟩ = some (sl kb n) ∧ W.cell? ⟨ib, k, none⟩ = some (.bool true) ∧ W.cell? ⟨kb, k, none⟩ = some (.int .i64 kk) ∧ W.cell? ⟨kb, Y, none⟩ = some (.int .i64 ky)) := by
            intro W e0; subst e0
            exact ⟨(Below.refl _ _).drew, q0, q1, ci, ck, cy⟩
          refine wp_region_held_drew (S := fun W => Below wr.heap.size wr W ∧ W.cell? ⟨B0, 0, none⟩ = some (sl ib n) ∧ W.cell? ⟨B0, 1, none⟩ = some (sl kb n) ∧ W.cell? ⟨ib, k, none⟩ = some (.bool true) ∧ W.cell? ⟨kb, k, none⟩ = some (.int .i64 kk) ∧ W.cell? ⟨kb, Y, none⟩ = some (.int .i64 ky)) (by kernel_rfl) (S0.out _ rfl) (fun hHeld => ?_)
          clear S0
          refine wpAnyH_take (i := 0) (v := ?_) rfl (by kernel_rfl) (by kernel_rfl) (by kernel_rfl) (fun _ _ _ h => h) (Or.inl ⟨by rfl, ?_⟩) (by assumption) ?_
          rotate_left 1
          · (intro w hSw; (try dsimp only at hSw); first | (go_simp; done) | (go_simp; with_reducible rfl))
          simp only [Act.put, List.getElem_toArray, List.getElem_cons_zero, List.setIfInBounds_toArray, List.set_cons_zero, List.set_cons_succ]
          refine wpAnyH_take (i := 1) (v := ?_) rfl (by kernel_rfl) (by kernel_rfl) (by kernel_rfl) (fun _ _ _ h => h) (Or.inl ⟨by rfl, ?_⟩) (by assumption) ?_
          rotate_left 1
          · (intro w hSw; (try dsimp only at hSw); first | (go_simp; done) | (go_simp; with_reducible rfl))
          simp only [Act.put, List.getElem_toArray, List.getElem_cons_zero, List.getElem_cons_succ, List.setIfInBounds_toArray, List.set_cons_zero, List.set_cons_succ]
          refine wpAnyH_take (i := 2) (v := ?_) rfl (by kernel_rfl) (by kernel_rfl) (by kernel_rfl) (fun _ _ _ h => h) (Or.inl ⟨by rfl, ?_⟩) (by assumption) ?_
          rotate_left 1
          · (intro w hSw; (try dsimp only at hSw); first | (go_simp; done) | (go_simp; with_reducible rfl))
          simp only [Act.put, List.getElem_toArray, List.getElem_cons_zero, List.getElem_cons_succ, List.setIfInBounds_toArray, List.set_cons_zero, List.set_cons_succ]
          refine wpAnyH_take (i := 3) (v := ?_) rfl (by kernel_rfl) (by kernel_rfl) (by kernel_rfl) (fun _ _ _ h => h) (Or.inl ⟨by rfl, ?_⟩) (by assumption) ?_
          rotate_left 1
          · (intro w hSw; (try dsimp only at hSw); first | (go_simp; done) | (go_simp; with_reducible rfl))
          simp only [Act.put, List.getElem_toArray, List.getElem_cons_zero, List.getElem_cons_succ, List.setIfInBounds_toArray, List.set_cons_zero, List.set_cons_succ]
          refine wpAnyH_take (i := 4) (v := ?_) rfl (by kernel_rfl) (by kernel_rfl) (by kernel_rfl) (fun _ _ _ h => h) (Or.inl ⟨by rfl, ?_⟩) (by assumption) ?_
          rotate_left 1
          · (intro w hSw; (try dsimp only at hSw); first | (go_simp; done) | (go_simp; with_reducible rfl))
          simp only [Act.put, List.getElem_toArray, List.getElem_cons_zero, List.getElem_cons_succ, List.setIfInBounds_toArray, List.set_cons_zero, List.set_cons_succ]
          refine wpAnyH_take (i := 5) (v := ?_) rfl (by kernel_rfl) (by kernel_rfl) (by kernel_rfl) (fun _ _ _ h => h) (Or.inl ⟨by rfl, ?_⟩) (by assumption) ?_
          rotate_left 1
          · (intro w hSw; (try dsimp only at hSw); first | (go_simp; done) | (go_simp; with_reducible rfl))
          simp only [Act.put, List.getElem_toArray, List.getElem_cons_zero, List.getElem_cons_succ, List.setIfInBounds_toArray, List.set_cons_zero, List.set_cons_succ]
          refine wpAnyH_take (i := 6) (v := ?_) rfl (by kernel_rfl) (by kernel_rfl) (by kernel_rfl) (fun _ _ _ h => h) (Or.inl ⟨by rfl, ?_⟩) (by assumption) ?_
          rotate_left 1
          · (intro w hSw; (try dsimp only at hSw); first | (go_simp; done) | (go_simp; with_reducible rfl))
          simp only [Act.put, List.getElem_toArray, List.getElem_cons_zero, List.getElem_cons_succ, List.setIfInBounds_toArray, List.set_cons_zero, List.set_cons_succ]
          refine wpAnyH_take (i := 7) (v := ?_) rfl (by kernel_rfl) (by kernel_rfl) (by kernel_rfl) (fun _ _ _ h => h) (Or.inl ⟨by rfl, ?_⟩) (by assumption) ?_
          rotate_left 1
          · (intro w hSw; (try dsimp only at hSw); first | (go_simp; done) | (go_simp; with_reducible rfl))
          simp only [Act.put, List.getElem_toArray, List.getElem_cons_zero, List.getElem_cons_succ, List.setIfInBounds_toArray, List.set_cons_zero, List.set_cons_succ]
          refine wpAnyH_take (i := 8) (v := ?_) rfl (by kernel_rfl) (by kernel_rfl) (by kernel_rfl) (fun _ _ _ h => h) (Or.inl ⟨by rfl, ?_⟩) (by assumption) ?_
          rotate_left 1
          · (intro w hSw; (try dsimp only at hSw); first | (go_simp; done) | (go_simp; with_reducible rfl))
          simp only [Act.put, List.getElem_toArray, List.getElem_cons_zero, List.getElem_cons_succ, List.setIfInBounds_toArray, List.set_cons_zero, List.set_cons_succ]
          refine wpAnyH_take (i := 9) (v := undef) rfl (by kernel_rfl) (by kernel_rfl) (by kernel_rfl) (fun _ _ _ h => h) (Or.inr ⟨by rfl, rfl⟩) (by assumption) ?_
          simp only [Act.put, List.getElem_toArray, List.getElem_cons_zero, List.getElem_cons_succ, List.setIfInBounds_toArray, List.set_cons_zero, List.set_cons_succ]
          refine wpAnyH_take (i := 10) (v := undef) rfl (by kernel_rfl) (by kernel_rfl) (by kernel_rfl) (fun _ _ _ h => h) (Or.inr ⟨by rfl, rfl⟩) (by assumption) ?_
          simp only [Act.put, List.getElem_toArray, List.getElem_cons_zero, List.getElem_cons_succ, List.setIfInBounds_toArray, List.set_cons_zero, List.set_cons_succ]
          refine wpAnyH_take (i := 11) (v := undef) rfl (by kernel_rfl) (by kernel_rfl) (by kernel_rfl) (fun _ _ _ h => h) (Or.inr ⟨by rfl, rfl⟩) (by assumption) ?_
          simp only [Act.put, List.getElem_toArray, List.getElem_cons_zero, List.getElem_cons_succ, List.setIfInBounds_toArray, List.set_cons_zero, List.set_cons_succ]
          refine wpAnyH_take (i := 12) (v := undef) rfl (by kernel_rfl) (by kernel_rfl) (by kernel_rfl) (fun _ _ _ h => h) (Or.inr ⟨by rfl, rfl⟩) (by assumption) ?_
          simp only [Act.put, List.getElem_toArray, List.getElem_cons_zero, List.getElem_cons_succ, List.setIfInBounds_toArray, List.set_cons_zero, List.set_cons_succ]
          refine wpAnyH_take (i := 13) (v := undef) rfl (by kernel_rfl) (by kernel_rfl) (by kernel_rfl) (fun _ _ _ h => h) (Or.inr ⟨by rfl, rfl⟩) (by assumption) ?_
          simp only [Act.put, List.getElem_toArray, List.getElem_cons_zero, List.getElem_cons_succ, List.setIfInBounds_toArray, List.set_cons_zero, List.set_cons_succ]
          refine wpAnyH_take (i := 14) (v := undef) rfl (by kernel_rfl) (by kernel_rfl) (by kernel_rfl) (fun _ _ _ h => h) (Or.inr ⟨by rfl, rfl⟩) (by assumption) ?_
          simp only [Act.put, List.getElem_toArray, List.getElem_cons_zero, List.getElem_cons_succ, List.setIfInBounds_toArray, List.set_cons_zero, List.set_cons_succ]
          refine wpAnyH_take (i := 15) (v := undef) rfl (by kernel_rfl) (by kernel_rfl) (by kernel_rfl) (fun _ _ _ h => h) (Or.inr ⟨by rfl, rfl⟩) (by assumption) ?_
          simp only [Act.put, List.getElem_toArray, List.getElem_cons_zero, List.getElem_cons_succ, List.setIfInBounds_toArray, List.set_cons_zero, List.set_cons_succ]
          refine wpAnyH_take (i := 16) (v := undef) rfl (by kernel_rfl) (by kernel_rfl) (by kernel_rfl) (fun _ _ _ h => h) (Or.inr ⟨by rfl, rfl⟩) (by assumption) ?_
          simp only [Act.put, List.getElem_toArray, List.getElem_cons_zero, List.getElem_cons_succ, List.setIfInBounds_toArray, List.set_cons_zero, List.set_cons_succ]
          refine wpAnyH_take (i := 17) (v := undef) rfl (by kernel_rfl) (by kernel_rfl) (by kernel_rfl) (fun _ _ _ h => h) (Or.inr ⟨by rfl, rfl⟩) (by assumption) ?_
          simp only [Act.put, List.getElem_toArray, List.getElem_cons_zero, List.getElem_cons_succ, List.setIfInBounds_toArray, List.set_cons_zero, List.set_cons_succ]
          refine wpAnyH_take (i := 18) (v := undef) rfl (by kernel_rfl) (by kernel_rfl) (by kernel_rfl) (fun _ _ _ h => h) (Or.inr ⟨by rfl, rfl⟩) (by assumption) ?_
          simp only [Act.put, List.getElem_toArray, List.getElem_cons_zero, List.getElem_cons_succ, List.setIfInBounds_toArray, List.set_cons_zero, List.set_cons_succ]
          refine wpAnyH_take (i := 19) (v := undef) rfl (by kernel_rfl) (by kernel_rfl) (by kernel_rfl) (fun _ _ _ h => h) (Or.inr ⟨by rfl, rfl⟩) (by assumption) ?_
          simp only [Act.put, List.getElem_toArray, List.getElem_cons_zero, List.getElem_cons_succ, List.setIfInBounds_toArray, List.set_cons_zero, List.set_cons_succ]
          refine wpAnyH_take (i := 20) (v := ?_) rfl (by kernel_rfl) (by kernel_rfl) (by kernel_rfl) (fun _ _ _ h => h) (Or.inl ⟨by rfl, ?_⟩) (by assumption) ?_
          rotate_left 1
          · (intro w hSw; (try dsimp only at hSw); first | (go_simp; done) | (go_simp; with_reducible rfl))
          simp only [Act.put, List.getElem_toArray, List.getElem_cons_zero, List.getElem_cons_succ, List.setIfInBounds_toArray, List.set_cons_zero, List.set_cons_succ]
          refine wpAnyH_take (i := 21) (v := ?_) rfl (by kernel_rfl) (by kernel_rfl) (by kernel_rfl) (fun _ _ _ h => h) (Or.inl ⟨by rfl, ?_⟩) (by assumption) ?_
          rotate_left 1
          · (intro w hSw; (try dsimp only at hSw); first | (go_simp; done) | (go_simp; with_reducible rfl))
          simp only [Act.put, List.getElem_toArray, List.getElem_cons_zero, List.getElem_cons_succ, List.setIfInBounds_toArray, List.set_cons_zero, List.set_cons_succ]
          refine wpAnyH_done (by kernel_rfl) ?_ _
          clear hHeld
          go_wp2_with fail
          go_roundw
          case measure => simp [intOf]; have := HK.out; omega
          case rel => exact ⟨k1, (k : Int), by have := HK.out; omega, rfl, rfl, by have h := best_first HB.out HI.out; rw [HK.out] at h; exact h, PW.out.drew⟩
        · obtain rfl : bb = (Y : Int) := hYb
          have y0 : (0 : Int) ≤ (Y : Int) := by omega
          have y0' : ¬ (Y : Int) < 0 := by omega
          have y1 : (Y : Int) < (n : Int) := by omega
          have cy := PW.out.r.ck (X := Y) (by omega)
          obtain ⟨ky, hky⟩ : ∃ ky, ks.getD Y 0 = ky := ⟨_, rfl⟩
          rw [hky] at cy
          have HKY := Lib.hid hky
          clear hky hYk
          by_cases hlt0 : kk < ky
          · have hlt := Lib.hid hlt0
            go_wp2_with fail
            have S0 : Hid (∀ W, W = wr.drew → Below wr.heap.size wr W ∧ W.cell? ⟨B0, 0, none⟩ = some (sl ib n) ∧ W.cell? ⟨B0, 1, none⟩ = some (sl kb n) ∧ W.cell? ⟨ib, k, none⟩ = some (.bool true) ∧ W.cell? ⟨kb, k, none⟩ = some (.int .i64 kk) ∧ W.cell? ⟨kb, Y, none⟩ = some (.int .i64 ky)) := by
              intro W e0; subst e0
              exact ⟨(Below.refl _ _).drew, q0, q1, ci, ck, cy⟩
            refine wp_region_held_drew (S := fun W => Below wr.heap.size wr W ∧ W.cell? ⟨B0, 0, none⟩ = some (sl ib n) ∧ W.cell? ⟨B0, 1, none⟩ = some (sl kb n) ∧ W.cell? ⟨ib, k, none⟩ = some (.bool true) ∧ W.cell? ⟨kb, k, none⟩ = some (.int .i64 kk) ∧ W.cell? ⟨kb, Y, none⟩ = some (.int .i64 ky)) (by kernel_rfl) (S0.out _ rfl) (fun hHeld => ?_)
            clear S0
            refine wpAnyH_take (i := 0) (v := ?_) rfl (by kernel_rfl) (by kernel_rfl) (by kernel_rfl) (fun _ _ _ h => h) (Or.inl ⟨by rfl, ?_⟩) (by assumption) ?_
            rotate_left 1
            · (intro w hSw; (try dsimp only at hSw); first | (go_simp; done) | (go_simp; with_reducible rfl))
            simp only [Act.put, List.getElem_toArray, List.getElem_cons_zero, List.setIfInBounds_toArray, List.set_cons_zero, List.set_cons_succ]
            refine wpAnyH_take (i := 1) (v := ?_) rfl (by kernel_rfl) (by kernel_rfl) (by kernel_rfl) (fun _ _ _ h => h) (Or.inl ⟨by rfl, ?_⟩) (by assumption) ?_
            rotate_left 1
            · (intro w hSw; (try dsimp only at hSw); first | (go_simp; done) | (go_simp; with_reducible rfl))
            simp only [Act.put, List.getElem_toArray, List.getElem_cons_zero, List.getElem_cons_succ, List.setIfInBounds_toArray, List.set_cons_zero, List.set_cons_succ]
            refine wpAnyH_take (i := 2) (v := ?_) rfl (by kernel_rfl) (by kernel_rfl) (by kernel_rfl) (fun _ _ _ h => h) (Or.inl ⟨by rfl, ?_⟩) (by assumption) ?_
            rotate_left 1
            · (intro w hSw; (try dsimp only at hSw); first | (go_simp; done) | (go_simp; with_reducible rfl))
            simp only [Act.put, List.getElem_toArray, List.getElem_cons_zero, List.getElem_cons_succ, List.setIfInBounds_toArray, List.set_cons_zero, List.set_cons_succ]
            refine wpAnyH_take (i := 3) (v := ?_) rfl (by kernel_rfl) (by kernel_rfl) (by kernel_rfl) (fun _ _ _ h => h) (Or.inl ⟨by rfl, ?_⟩) (by assumption) ?_
            rotate_left 1
            · (intro w hSw; (try dsimp only at hSw); first | (go_simp; done) | (go_simp; with_reducible rfl))
            simp only [Act.put, List.getElem_toArray, List.getElem_cons_zero, List.getElem_cons_succ, List.setIfInBounds_toArray, List.set_cons_zero, List.set_cons_succ]
            refine wpAnyH_take (i := 4) (v := ?_) rfl (by kernel_rfl) (by kernel_rfl) (by kernel_rfl) (fun _ _ _ h => h) (Or.inl ⟨by rfl, ?_⟩) (by assumption) ?_
            rotate_left 1
            · (intro w hSw; (try dsimp only at hSw); first | (go_simp; done) | (go_simp; with_reducible rfl))
            simp only [Act.put, List.getElem_toArray, List.getElem_cons_zero, List.getElem_cons_succ, List.setIfInBounds_toArray, List.set_cons_zero, List.set_cons_succ]
            refine wpAnyH_take (i := 5) (v := ?_) rfl (by kernel_rfl) (by kernel_rfl) (by kernel_rfl) (fun _ _ _ h => h) (Or.inl ⟨by rfl, ?_⟩) (by assumption) ?_
            rotate_left 1
            · (intro w hSw; (try dsimp only at hSw); first | (go_simp; done) | (go_simp; with_reducible rfl))
            simp only [Act.put, List.getElem_toArray, List.getElem_cons_zero, List.getElem_cons_succ, List.setIfInBounds_toArray, List.set_cons_zero, List.set_cons_succ]
            refine wpAnyH_take (i := 6) (v := ?_) rfl (by kernel_rfl) (by kernel_rfl) (by kernel_rfl) (fun _ _ _ h => h) (Or.inl ⟨by rfl, ?_⟩) (by assumption) ?_
            rotate_left 1
            · (intro w hSw; (try dsimp only at hSw); first | (go_simp; done) | (go_simp; with_reducible rfl))
            simp only [Act.put, List.getElem_toArray, List.getElem_cons_zero, List.getElem_cons_succ, List.setIfInBounds_toArray, List.set_cons_zero, List.set_cons_succ]
            refine wpAnyH_take (i := 7) (v := ?_) rfl (by kernel_rfl) (by kernel_rfl) (by kernel_rfl) (fun _ _ _ h => h) (Or.inl ⟨by rfl, ?_⟩) (by assumption) ?_
            rotate_left 1
            · (intro w hSw; (try dsimp only at hSw); first | (go_simp; done) | (go_simp; with_reducible rfl))
            simp only [Act.put, List.getElem_toArray, List.getElem_cons_zero, List.getElem_cons_succ, List.setIfInBounds_toArray, List.set_cons_zero, List.set_cons_succ]
            refine wpAnyH_take (i := 8) (v := ?_) rfl (by kernel_rfl) (by kernel_rfl) (by kernel_rfl) (fun _ _ _ h => h) (Or.inl ⟨by rfl, ?_⟩) (by assumption) ?_
            rotate_left 1
            · (intro w hSw; (try dsimp only at hSw); first | (go_simp; done) | (go_simp; with_reducible rfl))
            simp only [Act.put, List.getElem_toArray, List.getElem_cons_zero, List.getElem_cons_succ, List.setIfInBounds_toArray, List.set_cons_zero, List.set_cons_succ]
            refine wpAnyH_take (i := 9) (v := ?_) rfl (by kernel_rfl) (by kernel_rfl) (by kernel_rfl) (fun _ _ _ h => h) (Or.inl ⟨by rfl, ?_⟩) (by assumption) ?_
            rotate_left 1
            · (intro w hSw; (try dsimp only at hSw); first | (go_simp; done) | (go_simp; with_reducible rfl))
            simp only [Act.put, List.getElem_toArray, List.getElem_cons_zero, List.getElem_cons_succ, List.setIfInBounds_toArray, List.set_cons_zero, List.set_cons_succ]
            refine wpAnyH_take (i := 10) (v := ?_) rfl (by kernel_rfl) (by kernel_rfl) (by kernel_rfl) (fun _ _ _ h => h) (Or.inl ⟨by rfl, ?_⟩) (by assumption) ?_
            rotate_left 1
            · (intro w hSw; (try dsimp only at hSw); first | (go_simp; done) | (go_simp; with_reducible rfl))
            simp only [Act.put, List.getElem_toArray, List.getElem_cons_zero, List.getElem_cons_succ, List.setIfInBounds_toArray, List.set_cons_zero, List.set_cons_succ]
            refine wpAnyH_take (i := 11) (v := ?_) rfl (by kernel_rfl) (by kernel_rfl) (by kernel_rfl) (fun _ _ _ h => h) (Or.inl ⟨by rfl, ?_⟩) (by assumption) ?_
            rotate_left 1
            · (intro w hSw; (try dsimp only at hSw); first | (go_simp; done) | (go_simp; with_reducible rfl))
            simp only [Act.put, List.getElem_toArray, List.getElem_cons_zero, List.getElem_cons_succ, List.setIfInBounds_toArray, List.set_cons_zero, List.set_cons_succ]
            refine wpAnyH_take (i := 12) (v := ?_) rfl (by kernel_rfl) (by kernel_rfl) (by kernel_rfl) (fun _ _ _ h => h) (Or.inl ⟨by rfl, ?_⟩) (by assumption) ?_
            rotate_left 1
            · (intro w hSw; (try dsimp only at hSw); first | (go_simp; done) | (go_simp; with_reducible rfl))
            simp only [Act.put, List.getElem_toArray, List.getElem_cons_zero, List.getElem_cons_succ, List.setIfInBounds_toArray, List.set_cons_zero, List.set_cons_succ]
            refine wpAnyH_take (i := 13) (v := ?_) rfl (by kernel_rfl) (by kernel_rfl) (by kernel_rfl) (fun _ _ _ h => h) (Or.inl ⟨by rfl, ?_⟩) (by assumption) ?_
            rotate_left 1
            · (intro w hSw; (try dsimp only at hSw); first | (go_simp; done) | (go_simp; with_reducible rfl))
            simp only [Act.put, List.getElem_toArray, List.getElem_cons_zero, List.getElem_cons_succ, List.setIfInBounds_toArray, List.set_cons_zero, List.set_cons_succ]
            refine wpAnyH_take (i := 14) (v := ?_) rfl (by kernel_rfl) (by kernel_rfl) (by kernel_rfl) (fun _ _ _ h => h) (Or.inl ⟨by rfl, ?_⟩) (by assumption) ?_
            rotate_left 1
            · (intro w hSw; (try dsimp only at hSw); first | (go_simp; done) | (go_simp; with_reducible rfl))
            simp only [Act.put, List.getElem_toArray, List.getElem_cons_zero, List.getElem_cons_succ, List.setIfInBounds_toArray, List.set_cons_zero, List.set_cons_succ]
            refine wpAnyH_take (i := 15) (v := ?_) rfl (by kernel_rfl) (by kernel_rfl) (by kernel_rfl) (fun _ _ _ h => h) (Or.inl ⟨by rfl, ?_⟩) (by assumption) ?_
            rotate_left 1
            · (intro w hSw; (try dsimp only at hSw); first | (go_simp; done) | (go_simp; with_reducible rfl))
            simp only [Act.put, List.getElem_toArray, List.getElem_cons_zero, List.getElem_cons_succ, List.setIfInBounds_toArray, List.set_cons_zero, List.set_cons_succ]
            refine wpAnyH_take (i := 16) (v := ?_) rfl (by kernel_rfl) (by kernel_rfl) (by kernel_rfl) (fun _ _ _ h => h) (Or.inl ⟨by rfl, ?_⟩) (by assumption) ?_
            rotate_left 1
            · (intro w hSw; (try dsimp only at hSw); first | (go_simp; done) | (go_simp; with_reducible rfl))
            simp only [Act.put, List.getElem_toArray, List.getElem_cons_zero, List.getElem_cons_succ, List.setIfInBounds_toArray, List.set_cons_zero, List.set_cons_succ]
            refine wpAnyH_take (i := 17) (v := ?_) rfl (by kernel_rfl) (by kernel_rfl) (by kernel_rfl) (fun _ _ _ h => h) (Or.inl ⟨by rfl, ?_⟩) (by assumption) ?_
            rotate_left 1
            · (intro w hSw; (try dsimp only at hSw); first | (go_simp; done) | (go_simp; with_reducible rfl))
            simp only [Act.put, List.getElem_toArray, List.getElem_cons_zero, List.getElem_cons_succ, List.setIfInBounds_toArray, List.set_cons_zero, List.set_cons_succ]
            refine wpAnyH_take (i := 18) (v := ?_) rfl (by kernel_rfl) (by kernel_rfl) (by kernel_rfl) (fun _ _ _ h => h) (Or.inl ⟨by rfl, ?_⟩) (by assumption) ?_
            rotate_left 1
            · (intro w hSw; (try dsimp only at hSw); first | (go_simp; done) | (go_simp; with_reducible rfl))
            simp only [Act.put, List.getElem_toArray, List.getElem_cons_zero, List.getElem_cons_succ, List.setIfInBounds_toArray, List.set_cons_zero, List.set_cons_succ]
            refine wpAnyH_take (i := 19) (v := ?_) rfl (by kernel_rfl) (by kernel_rfl) (by kernel_rfl) (fun _ _ _ h => h) (Or.inl ⟨by rfl, ?_⟩) (by assumption) ?_
            rotate_left 1
            · (intro w hSw; (try dsimp only at hSw); first | (go_simp; done) | (go_simp; with_reducible rfl))
            simp only [Act.put, List.getElem_toArray, List.getElem_cons_zero, List.getElem_cons_succ, List.setIfInBounds_toArray, List.set_cons_zero, List.set_cons_succ]
            refine wpAnyH_take (i := 20) (v := ?_) rfl (by kernel_rfl) (by kernel_rfl) (by kernel_rfl) (fun _ _ _ h => h) (Or.inl ⟨by rfl, ?_⟩) (by assumption) ?_
            rotate_left 1
            · (intro w hSw; (try dsimp only at hSw); first | (go_simp; done) | (go_simp; with_reducible rfl))
            simp only [Act.put, List.getElem_toArray, List.getElem_cons_zero, List.getElem_cons_succ, List.setIfInBounds_toArray, List.set_cons_zero, List.set_cons_succ]
            refine wpAnyH_take (i := 21) (v := ?_) rfl (by kernel_rfl) (by kernel_rfl) (by kernel_rfl) (fun _ _ _ h => h) (Or.inl ⟨by rfl, ?_⟩) (by assumption) ?_
            rotate_left 1
            · (intro w hSw; (try dsimp only at hSw); first | (go_simp; done) | (go_simp; with_reducible rfl))
            simp only [Act.put, List.getElem_toArray, List.getElem_cons_zero, List.getElem_cons_succ, List.setIfInBounds_toArray, List.set_cons_zero, List.set_cons_succ]
            refine wpAnyH_done (by kernel_rfl) ?_ _
            clear hHeld
            go_wp2_with fail
            go_roundw
            case measure => simp [intOf]; have := HK.out; omega
            case rel => exact ⟨k1, (k : Int), by have := HK.out; omega, rfl, rfl, by have h := best_less HB.out HI.out (by rw [HKK.out, HKY.out]; exact hlt.out); rw [HK.out] at h; exact h, PW.out.drew⟩
          · have hlt := Lib.hid hlt0
            go_wp2_with fail
            have S0 : Hid (∀ W, W = wr.drew → Below wr.heap.size wr W ∧ W.cell? ⟨B0, 0, none⟩ = some (sl ib n) ∧ W.cell? ⟨B0, 1, none⟩ = some (sl kb n) ∧ W.cell? ⟨ib, k, none⟩ = some (.bool true) ∧ W.cell? ⟨kb, k, none⟩ = some (.int .i64 kk) ∧ W.cell? ⟨kb, Y, none⟩ = some (.int .i64 ky)) := by
              intro W e0; subst e0
              exact ⟨(Below.refl _ _).drew, q0, q1, ci, ck, cy⟩
            refine wp_region_held_drew (S := fun W => Below wr.heap.size wr W ∧ W.cell? ⟨B0, 0, none⟩ = some (sl ib n) ∧ W.cell? ⟨B0, 1, none⟩ = some (sl kb n) ∧ W.cell? ⟨ib, k, none⟩ = some (.bool true) ∧ W.cell? ⟨kb, k, none⟩ = some (.int .i64 kk) ∧ W.cell? ⟨kb, Y, none⟩ = some (.int .i64 ky)) (by kernel_rfl) (S0.out _ rfl) (fun hHeld => ?_)
            clear S0
            refine wpAnyH_take (i := 0) (v := ?_) rfl (by kernel_rfl) (by kernel_rfl) (by kernel_rfl) (fun _ _ _ h => h) (Or.inl ⟨by rfl, ?_⟩) (by assumption) ?_
            rotate_left 1
            · (intro w hSw; (try dsimp only at hSw); first | (go_simp; done) | (go_simp; with_reducible rfl))
            simp only [Act.put, List.getElem_toArray, List.getElem_cons_zero, List.setIfInBounds_toArray, List.set_cons_zero, List.set_cons_succ]
            refine wpAnyH_take (i := 1) (v := ?_) rfl (by kernel_rfl) (by kernel_rfl) (by kernel_rfl) (fun _ _ _ h => h) (Or.inl ⟨by rfl, ?_⟩) (by assumption) ?_
            rotate_left 1
            · (intro w hSw; (try dsimp only at hSw); first | (go_simp; done) | (go_simp; with_reducible rfl))
            simp only [Act.put, List.getElem_toArray, List.getElem_cons_zero, List.getElem_cons_succ, List.setIfInBounds_toArray, List.set_cons_zero, List.set_cons_succ]
            refine wpAnyH_take (i := 2) (v := ?_) rfl (by kernel_rfl) (by kernel_rfl) (by kernel_rfl) (fun _ _ _ h => h) (Or.inl ⟨by rfl, ?_⟩) (by assumption) ?_
            rotate_left 1
            · (intro w hSw; (try dsimp only at hSw); first | (go_simp; done) | (go_simp; with_reducible rfl))
            simp only [Act.put, List.getElem_toArray, List.getElem_cons_zero, List.getElem_cons_succ, List.setIfInBounds_toArray, List.set_cons_zero, List.set_cons_succ]
            refine wpAnyH_take (i := 3) (v := ?_) rfl (by kernel_rfl) (by kernel_rfl) (by kernel_rfl) (fun _ _ _ h => h) (Or.inl ⟨by rfl, ?_⟩) (by assumption) ?_
            rotate_left 1
            · (intro w hSw; (try dsimp only at hSw); first | (go_simp; done) | (go_simp; with_reducible rfl))
            simp only [Act.put, List.getElem_toArray, List.getElem_cons_zero, List.getElem_cons_succ, List.setIfInBounds_toArray, List.set_cons_zero, List.set_cons_succ]
            refine wpAnyH_take (i := 4) (v := ?_) rfl (by kernel_rfl) (by kernel_rfl) (by kernel_rfl) (fun _ _ _ h => h) (Or.inl ⟨by rfl, ?_⟩) (by assumption) ?_
            rotate_left 1
            · (intro w hSw; (try dsimp only at hSw); first | (go_simp; done) | (go_simp; with_reducible rfl))
            simp only [Act.put, List.getElem_toArray, List.getElem_cons_zero, List.getElem_cons_succ, List.setIfInBounds_toArray, List.set_cons_zero, List.set_cons_succ]
            refine wpAnyH_take (i := 5) (v := ?_) rfl (by kernel_rfl) (by kernel_rfl) (by kernel_rfl) (fun _ _ _ h => h) (Or.inl ⟨by rfl, ?_⟩) (by assumption) ?_
            rotate_left 1
            · (intro w hSw; (try dsimp only at hSw); first | (go_simp; done) | (go_simp; with_reducible rfl))
            simp only [Act.put, List.getElem_toArray, List.getElem_cons_zero, List.getElem_cons_succ, List.setIfInBounds_toArray, List.set_cons_zero, List.set_cons_succ]
            refine wpAnyH_take (i := 6) (v := ?_) rfl (by kernel_rfl) (by kernel_rfl) (by kernel_rfl) (fun _ _ _ h => h) (Or.inl ⟨by rfl, ?_⟩) (by assumption) ?_
            rotate_left 1
            · (intro w hSw; (try dsimp only at hSw); first | (go_simp; done) | (go_simp; with_reducible rfl))
            simp only [Act.put, List.getElem_toArray, List.getElem_cons_zero, List.getElem_cons_succ, List.setIfInBounds_toArray, List.set_cons_zero, List.set_cons_succ]
            refine wpAnyH_take (i := 7) (v := ?_) rfl (by kernel_rfl) (by kernel_rfl) (by kernel_rfl) (fun _ _ _ h => h) (Or.inl ⟨by rfl, ?_⟩) (by assumption) ?_
            rotate_left 1
            · (intro w hSw; (try dsimp only at hSw); first | (go_simp; done) | (go_simp; with_reducible rfl))
            simp only [Act.put, List.getElem_toArray, List.getElem_cons_zero, List.getElem_cons_succ, List.setIfInBounds_toArray, List.set_cons_zero, List.set_cons_succ]
            refine wpAnyH_take (i := 8) (v := ?_) rfl (by kernel_rfl) (by kernel_rfl) (by kernel_rfl) (fun _ _ _ h => h) (Or.inl ⟨by rfl, ?_⟩) (by assumption) ?_
            rotate_left 1
            · (intro w hSw; (try dsimp only at hSw); first | (go_simp; done) | (go_simp; with_reducible rfl))
            simp only [Act.put, List.getElem_toArray, List.getElem_cons_zero, List.getElem_cons_succ, List.setIfInBounds_toArray, List.set_cons_zero, List.set_cons_succ]
            refine wpAnyH_take (i := 9) (v := ?_) rfl (by kernel_rfl) (by kernel_rfl) (by kernel_rfl) (fun _ _ _ h => h) (Or.inl ⟨by rfl, ?_⟩) (by assumption) ?_
            rotate_left 1
            · (intro w hSw; (try dsimp only at hSw); first | (go_simp; done) | (go_simp; with_reducible rfl))
            simp only [Act.put, List.getElem_toArray, List.getElem_cons_zero, List.getElem_cons_succ, List.setIfInBounds_toArray, List.set_cons_zero, List.set_cons_succ]
            refine wpAnyH_take (i := 10) (v := ?_) rfl (by kernel_rfl) (by kernel_rfl) (by kernel_rfl) (fun _ _ _ h => h) (Or.inl ⟨by rfl, ?_⟩) (by assumption) ?_
            rotate_left 1
            · (intro w hSw; (try dsimp only at hSw); first | (go_simp; done) | (go_simp; with_reducible rfl))
            simp only [Act.put, List.getElem_toArray, List.getElem_cons_zero, List.getElem_cons_succ, List.setIfInBounds_toArray, List.set_cons_zero, List.set_cons_succ]
            refine wpAnyH_take (i := 11) (v := ?_) rfl (by kernel_rfl) (by kernel_rfl) (by kernel_rfl) (fun _ _ _ h => h) (Or.inl ⟨by rfl, ?_⟩) (by assumption) ?_
            rotate_left 1
            · (intro w hSw; (try dsimp only at hSw); first | (go_simp; done) | (go_simp; with_reducible rfl))
            simp only [Act.put, List.getElem_toArray, List.getElem_cons_zero, List.getElem_cons_succ, List.setIfInBounds_toArray, List.set_cons_zero, List.set_cons_succ]
            refine wpAnyH_take (i := 12) (v := ?_) rfl (by kernel_rfl) (by kernel_rfl) (by kernel_rfl) (fun _ _ _ h => h) (Or.inl ⟨by rfl, ?_⟩) (by assumption) ?_
            rotate_left 1
            · (intro w hSw; (try dsimp only at hSw); first | (go_simp; done) | (go_simp; with_reducible rfl))
            simp only [Act.put, List.getElem_toArray, List.getElem_cons_zero, List.getElem_cons_succ, List.setIfInBounds_toArray, List.set_cons_zero, List.set_cons_succ]
            refine wpAnyH_take (i := 13) (v := ?_) rfl (by kernel_rfl) (by kernel_rfl) (by kernel_rfl) (fun _ _ _ h => h) (Or.inl ⟨by rfl, ?_⟩) (by assumption) ?_
            rotate_left 1
            · (intro w hSw; (try dsimp only at hSw); first | (go_simp; done) | (go_simp; with_reducible rfl))
            simp only [Act.put, List.getElem_toArray, List.getElem_cons_zero, List.getElem_cons_succ, List.setIfInBounds_toArray, List.set_cons_zero, List.set_cons_succ]
            refine wpAnyH_take (i := 14) (v := ?_) rfl (by kernel_rfl) (by kernel_rfl) (by kernel_rfl) (fun _ _ _ h => h) (Or.inl ⟨by rfl, ?_⟩) (by assumption) ?_
            rotate_left 1
            · (intro w hSw; (try dsimp only at hSw); first | (go_simp; done) | (go_simp; with_reducible rfl))
            simp only [Act.put, List.getElem_toArray, List.getElem_cons_zero, List.getElem_cons_succ, List.setIfInBounds_toArray, List.set_cons_zero, List.set_cons_succ]
            refine wpAnyH_take (i := 15) (v := ?_) rfl (by kernel_rfl) (by kernel_rfl) (by kernel_rfl) (fun _ _ _ h => h) (Or.inl ⟨by rfl, ?_⟩) (by assumption) ?_
            rotate_left 1
            · (intro w hSw; (try dsimp only at hSw); first | (go_simp; done) | (go_simp; with_reducible rfl))
            simp only [Act.put, List.getElem_toArray, List.getElem_cons_zero, List.getElem_cons_succ, List.setIfInBounds_toArray, List.set_cons_zero, List.set_cons_succ]
            refine wpAnyH_take (i := 16) (v := ?_) rfl (by kernel_rfl) (by kernel_rfl) (by kernel_rfl) (fun _ _ _ h => h) (Or.inl ⟨by rfl, ?_⟩) (by assumption) ?_
            rotate_left 1
            · (intro w hSw; (try dsimp only at hSw); first | (go_simp; done) | (go_simp; with_reducible rfl))
            simp only [Act.put, List.getElem_toArray, List.getElem_cons_zero, List.getElem_cons_succ, List.setIfInBounds_toArray, List.set_cons_zero, List.set_cons_succ]
            refine wpAnyH_take (i := 17) (v := ?_) rfl (by kernel_rfl) (by kernel_rfl) (by kernel_rfl) (fun _ _ _ h => h) (Or.inl ⟨by rfl, ?_⟩) (by assumption) ?_
            rotate_left 1
            · (intro w hSw; (try dsimp only at hSw); first | (go_simp; done) | (go_simp; with_reducible rfl))
            simp only [Act.put, List.getElem_toArray, List.getElem_cons_zero, List.getElem_cons_succ, List.setIfInBounds_toArray, List.set_cons_zero, List.set_cons_succ]
            refine wpAnyH_take (i := 18) (v := ?_) rfl (by kernel_rfl) (by kernel_rfl) (by kernel_rfl) (fun _ _ _ h => h) (Or.inl ⟨by rfl, ?_⟩) (by assumption) ?_
            rotate_left 1
            · (intro w hSw; (try dsimp only at hSw); first | (go_simp; done) | (go_simp; with_reducible rfl))
            simp only [Act.put, List.getElem_toArray, List.getElem_cons_zero, List.getElem_cons_succ, List.setIfInBounds_toArray, List.set_cons_zero, List.set_cons_succ]
            refine wpAnyH_take (i := 19) (v := ?_) rfl (by kernel_rfl) (by kernel_rfl) (by kernel_rfl) (fun _ _ _ h => h) (Or.inl ⟨by rfl, ?_⟩) (by assumption) ?_
            rotate_left 1
            · (intro w hSw; (try dsimp only at hSw); first | (go_simp; done) | (go_simp; with_reducible rfl))
            simp only [Act.put, List.getElem_toArray, List.getElem_cons_zero, List.getElem_cons_succ, List.setIfInBounds_toArray, List.set_cons_zero, List.set_cons_succ]
            refine wpAnyH_take (i := 20) (v := ?_) rfl (by kernel_rfl) (by kernel_rfl) (by kernel_rfl) (fun _ _ _ h => h) (Or.inl ⟨by rfl, ?_⟩) (by assumption) ?_
            rotate_left 1
            · (intro w hSw; (try dsimp only at hSw); first | (go_simp; done) | (go_simp; with_reducible rfl))
            simp only [Act.put, List.getElem_toArray, List.getElem_cons_zero, List.getElem_cons_succ, List.setIfInBounds_toArray, List.set_cons_zero, List.set_cons_succ]
            refine wpAnyH_take (i := 21) (v := ?_) rfl (by kernel_rfl) (by kernel_rfl) (by kernel_rfl) (fun _ _ _ h => h) (Or.inl ⟨by rfl, ?_⟩) (by assumption) ?_
            rotate_left 1
            · (intro w hSw; (try dsimp only at hSw); first | (go_simp; done) | (go_simp; with_reducible rfl))
            simp only [Act.put, List.getElem_toArray, List.getElem_cons_zero, List.getElem_cons_succ, List.setIfInBounds_toArray, List.set_cons_zero, List.set_cons_succ]
            refine wpAnyH_done (by kernel_rfl) ?_ _
            clear hHeld
            go_wp2_with fail
            go_roundw
            case measure => simp [intOf]; have := HK.out; omega
            case rel => exact ⟨k1, (Y : Int), by have := HK.out; omega, rfl, rfl, by have h := best_keep HB.out (by rw [HKK.out, HKY.out]; have := hlt.out; omega); rw [HK.out] at h; exact h, PW.out.drew⟩
    · have kl : ¬ (k : Int) < (n : Int) := by omega
      obtain rfl : k = n := by omega
      have z' := PW.out.z; have p' := PW.out.p
      rw [HB0.out] at z' p'
      rcases HB.out with ⟨hb1, _⟩ | ⟨Y, hYk, hYb, _⟩
      · obtain rfl : bb = -1 := hb1
        have d0 := z'.cell (i := 0) rfl; have d1 := z'.cell (i := 1) rfl; have f0 := z'.fr (i := 0); have f1 := z'.fr (i := 1)
        obtain ⟨W8, hW8, r8, fr8⟩ := put2 (sl ib k) (sl kb k) z'
        have p8 : Row W8 (B0 + 2) 44 [.int .i64 0, .int .i64 0, .bool false] := p'.same (fr8.block _ p'.lt (by omega))
        have m0 := p8.cell (i := 0) rfl; have m1 := p8.cell (i := 1) rfl; have m2 := p8.cell (i := 2) rfl
        have mf0 := p8.fr (i := 0); have mf1 := p8.fr (i := 1); have mf2 := p8.fr (i := 2)
        obtain ⟨W9, hW9, r9, fr9⟩ := put3 (.int .i64 0) (.int .i64 0) (.bool false) p8
        have g0 := (r8.same (fr9.block _ r8.lt (by omega))).cell (i := 0) rfl; have g1 := (r8.same (fr9.block _ r8.lt (by omega))).cell (i := 1) rfl
        have h0 := r9.cell (i := 0) rfl; have h1 := r9.cell (i := 1) rfl; have h2 := r9.cell (i := 2) rfl
        have li := RR.out.i.lt; have lk := RR.out.k.lt
        rw [HB0.out] at li lk
        have R9 : RefS W9 ib kb k ins ks := (PW.out.r.same (fr8.block _ PW.out.r.i.lt (by omega)) (fr8.block _ PW.out.r.k.lt (by omega))).same (fr9.block _ (by have := fr8.size; have := PW.out.r.i.lt; omega) (by omega)) (fr9.block _ (by have := fr8.size; have := PW.out.r.k.lt; omega) (by omega))
        have FW : FrF (IK ib kb) w W9 := ((FrF.of_below (F := IK ib kb) PW.out.b).trans fr8 (fun i hi h => by rw [HB0.out] at hi; omega)).trans fr9 (fun i hi h => by rw [HB0.out] at hi; omega)
        have FIN := Lib.hid (And.intro R9 FW)
        have CN := Lib.hid (best_none PW.out.r.il HB.out)
        clear z' p' r8 fr8 p8 r9 fr9 li lk R9 FW
        go_wp2_with fail
        refine bodyPost_ret (by simp [results, Try.results18, go_sem, g0, g1, h0, h1, h2]; rfl) rfl ?_
        exact ⟨0, 0, false, ins, Or.inl ⟨CN.out, rfl, rfl, rfl, rfl⟩, rfl, FIN.out⟩
      · obtain rfl : bb = (Y : Int) := hYb
        have y0 : (0 : Int) ≤ (Y : Int) := by omega
        have y0' : ¬ (Y : Int) < 0 := by omega
        have y1 : (Y : Int) < (k : Int) := by omega
        have LE := Lib.hid (best_some PW.out.r.il HB.out)
        have ci := PW.out.r.ci hYk; have fi := PW.out.r.i.fr (i := Y)
        rw [LE.out.mem] at ci
        obtain ⟨W4, hW4⟩ : ∃ W4, wr.setCell ⟨ib, Y, none⟩ (.bool false) = W4 := ⟨_, rfl⟩
        have li := RR.out.i.lt; have lk := RR.out.k.lt
        rw [HB0.out] at li lk
        have a' := PW.out.a
        rw [HB0.out] at a'
        have a4 : Row W4 B0 29 [sl ib k, sl kb k] := by rw [← hW4]; exact a'.other (by show B0 ≠ ib; omega)
        have z4 : Row W4 (B0 + 1) 29 [.slice none 0 0, .slice none 0 0] := by rw [← hW4]; exact z'.other (by show B0 + 1 ≠ ib; omega)
        have p4 : Row W4 (B0 + 2) 44 [.int .i64 0, .int .i64 0, .bool false] := by rw [← hW4]; exact p'.other (by show B0 + 2 ≠ ib; omega)
        have R4 : RefS W4 ib kb k (ins.set Y false) ks := by rw [← hW4]; exact PW.out.r.seti false
        have F4 : FrF (IK ib kb) wr W4 := by rw [← hW4]; exact FrF.setCell (F := IK ib kb) wr (a := ⟨ib, Y, none⟩) (Or.inl rfl) _
        have c0 := a4.cell (i := 0) rfl; have c1 := a4.cell (i := 1) rfl
        have ck := R4.ck hYk
        obtain ⟨ky, hky⟩ : ∃ ky, ks.getD Y 0 = ky := ⟨_, rfl⟩
        rw [hky] at ck
        have HKY := Lib.hid hky
        have d0 := z4.cell (i := 0) rfl; have d1 := z4.cell (i := 1) rfl; have f0 := z4.fr (i := 0); have f1 := z4.fr (i := 1)
        obtain ⟨W8, hW8, r8, fr8⟩ := put2 (sl ib k) (sl kb k) z4
        have p8 : Row W8 (B0 + 2) 44 [.int .i64 0, .int .i64 0, .bool false] := p4.same (fr8.block _ p4.lt (by omega))
        have m0 := p8.cell (i := 0) rfl; have m1 := p8.cell (i := 1) rfl; have m2 := p8.cell (i := 2) rfl
        have mf0 := p8.fr (i := 0); have mf1 := p8.fr (i := 1); have mf2 := p8.fr (i := 2)
        obtain ⟨W9, hW9, r9, fr9⟩ := put3 (.int .i64 Y) (.int .i64 ky) (.bool true) p8
        have g0 := (r8.same (fr9.block _ r8.lt (by omega))).cell (i := 0) rfl; have g1 := (r8.same (fr9.block _ r8.lt (by omega))).cell (i := 1) rfl
        have h0 := r9.cell (i := 0) rfl; have h1 := r9.cell (i := 1) rfl; have h2 := r9.cell (i := 2) rfl
        have s8 : W4.heap.size ≤ W8.heap.size := fr8.size
        have a8 : Row W8 B0 29 [sl ib k, sl kb k] := a4.same (fr8.block _ a4.lt (by omega))
        have R8 : RefS W8 ib kb k (ins.set Y false) ks := R4.same (fr8.block _ R4.i.lt (by omega)) (fr8.block _ R4.k.lt (by omega))
        have a9 : Row W9 B0 29 [sl ib k, sl kb k] := a8.same (fr9.block _ a8.lt (by omega))
        have S8 : Hid (∀ W, W = W8.drew → W.cell? ⟨B0, 0, none⟩ = some (sl ib k) ∧ W.cell? ⟨B0, 1, none⟩ = some (sl kb k) ∧ W.cell? ⟨kb, Y, none⟩ = some (.int .i64 ky)) := by
          intro W e0; subst e0
          exact ⟨a8.cell (i := 0) rfl, a8.cell (i := 1) rfl, by have := R8.ck hYk; rw [hky] at this; exact this⟩
        have R9 : RefS W9 ib kb k (ins.set Y false) ks := (R4.same (fr8.block _ R4.i.lt (by omega)) (fr8.block _ R4.k.lt (by omega))).same (fr9.block _ (by have := R4.i.lt; omega) (by omega)) (fr9.block _ (by have := R4.k.lt; omega) (by omega))
        have S9 : Hid (∀ W, W = W9.drew → W.cell? ⟨B0, 0, none⟩ = some (sl ib k) ∧ W.cell? ⟨B0, 1, none⟩ = some (sl kb k) ∧ W.cell? ⟨kb, Y, none⟩ = some (.int .i64 ky)) := by
          intro W e0; subst e0
          exact ⟨a9.cell (i := 0) rfl, a9.cell (i := 1) rfl, by have := R9.ck hYk; rw [hky] at this; exact this⟩
        have FW : FrF (IK ib kb) w W9 := (((FrF.of_below (F := IK ib kb) PW.out.b).trans F4 (fun _ _ h => h)).trans fr8 (fun i hi h => by rw [HB0.out] at hi; omega)).trans fr9 (fun i hi h => by rw [HB0.out] at hi; omega)
        have FIN : Hid (RefS W9.drew ib kb k (ins.set Y false) ks ∧ FrF (IK ib kb) w W9.drew) := ⟨R9.same rfl rfl, FW.trans (FrF.of_below (F := IK ib kb) (Below.refl _ W9).drew) (fun _ _ h => h)⟩
        clear z' p' r8 fr8 p8 r9 fr9 li lk R9 FW a' a8 R8 a9 a4 z4 p4 R4 F4 s8 hky hYk
        go_wp2_with fail
        refine wp_region_held_drew (S := fun W => W.cell? ⟨B0, 0, none⟩ = some (sl ib k) ∧ W.cell? ⟨B0, 1, none⟩ = some (sl kb k) ∧ W.cell? ⟨kb, Y, none⟩ = some (.int .i64 ky)) (by kernel_rfl) ⟨c0, c1, ck⟩ (fun hHeld => ?_)
        refine wpAnyH_take (i := 0) (v := ?_) rfl (by kernel_rfl) (by kernel_rfl) (by kernel_rfl) (fun _ _ _ h => h) (Or.inl ⟨by rfl, ?_⟩) (by assumption) ?_
        rotate_left 1
        · (intro w hSw; (try dsimp only at hSw); first | (go_simp; done) | (go_simp; with_reducible rfl))
        simp only [Act.put, List.getElem_toArray, List.getElem_cons_zero, List.setIfInBounds_toArray, List.set_cons_zero, List.set_cons_succ]
        refine wpAnyH_take (i := 1) (v := ?_) rfl (by kernel_rfl) (by kernel_rfl) (by kernel_rfl) (fun _ _ _ h => h) (Or.inl ⟨by rfl, ?_⟩) (by assumption) ?_
        rotate_left 1
        · (intro w hSw; (try dsimp only at hSw); first | (go_simp; done) | (go_simp; with_reducible rfl))
        simp only [Act.put, List.getElem_toArray, List.getElem_cons_zero, List.getElem_cons_succ, List.setIfInBounds_toArray, List.set_cons_zero, List.set_cons_succ]
        refine wpAnyH_take (i := 2) (v := ?_) rfl (by kernel_rfl) (by kernel_rfl) (by kernel_rfl) (fun _ _ _ h => h) (Or.inl ⟨by rfl, ?_⟩) (by assumption) ?_
        rotate_left 1
        · (intro w hSw; (try dsimp only at hSw); first | (go_simp; done) | (go_simp; with_reducible rfl))
        simp only [Act.put, List.getElem_toArray, List.getElem_cons_zero, List.getElem_cons_succ, List.setIfInBounds_toArray, List.set_cons_zero, List.set_cons_succ]
        refine wpAnyH_take (i := 3) (v := ?_) rfl (by kernel_rfl) (by kernel_rfl) (by kernel_rfl) (fun _ _ _ h => h) (Or.inl ⟨by rfl, ?_⟩) (by assumption) ?_
        rotate_left 1
        · (intro w hSw; (try dsimp only at hSw); first | (go_simp; done) | (go_simp; with_reducible rfl))
        simp only [Act.put, List.getElem_toArray, List.getElem_cons_zero, List.getElem_cons_succ, List.setIfInBounds_toArray, List.set_cons_zero, List.set_cons_succ]
        refine wpAnyH_take (i := 4) (v := ?_) rfl (by kernel_rfl) (by kernel_rfl) (by kernel_rfl) (fun _ _ _ h => h) (Or.inl ⟨by rfl, ?_⟩) (by assumption) ?_
        rotate_left 1
        · (intro w hSw; (try dsimp only at hSw); first | (go_simp; done) | (go_simp; with_reducible rfl))
        simp only [Act.put, List.getElem_toArray, List.getElem_cons_zero, List.getElem_cons_succ, List.setIfInBounds_toArray, List.set_cons_zero, List.set_cons_succ]
        refine wpAnyH_take (i := 5) (v := ?_) rfl (by kernel_rfl) (by kernel_rfl) (by kernel_rfl) (fun _ _ _ h => h) (Or.inl ⟨by rfl, ?_⟩) (by assumption) ?_
        rotate_left 1
        · (intro w hSw; (try dsimp only at hSw); first | (go_simp; done) | (go_simp; with_reducible rfl))
        simp only [Act.put, List.getElem_toArray, List.getElem_cons_zero, List.getElem_cons_succ, List.setIfInBounds_toArray, List.set_cons_zero, List.set_cons_succ]
        refine wpAnyH_take (i := 6) (v := ?_) rfl (by kernel_rfl) (by kernel_rfl) (by kernel_rfl) (fun _ _ _ h => h) (Or.inl ⟨by rfl, ?_⟩) (by assumption) ?_
        rotate_left 1
        · (intro w hSw; (try dsimp only at hSw); first | (go_simp; done) | (go_simp; with_reducible rfl))
        simp only [Act.put, List.getElem_toArray, List.getElem_cons_zero, List.getElem_cons_succ, List.setIfInBounds_toArray, List.set_cons_zero, List.set_cons_succ]
        refine wpAnyH_take (i := 7) (v := ?_) rfl (by kernel_rfl) (by kernel_rfl) (by kernel_rfl) (fun _ _ _ h => h) (Or.inl ⟨by rfl, ?_⟩) (by assumption) ?_
        rotate_left 1
        · (intro w hSw; (try dsimp only at hSw); first | (go_simp; done) | (go_simp; with_reducible rfl))
        simp only [Act.put, List.getElem_toArray, List.getElem_cons_zero, List.getElem_cons_succ, List.setIfInBounds_toArray, List.set_cons_zero, List.set_cons_succ]
        refine wpAnyH_ready (rs := [8]) (by kernel_rfl) (by simp) ?_
        refine AllReadyH.cons rfl (fun K hK => ?_) AllReadyH.nil
        go_simp
        refine hK.out _ _ (S8.out _ rfl) (fun hHeld2 => ?_)
        clear hK K hHeld; have hHeld := hHeld2; clear hHeld2
        refine wpAnyH_ready (rs := [9]) (by kernel_rfl) (by simp) ?_
        refine AllReadyH.cons rfl (fun K hK => ?_) AllReadyH.nil
        go_simp
        refine hK.out _ _ (S9.out _ rfl) (fun hHeld2 => ?_)
        clear hK K hHeld; have hHeld := hHeld2; clear hHeld2
        refine wpAnyH_done (by kernel_rfl) ?_ _
        clear hHeld S8 S9
        go_wp2_with fail
        refine bodyPost_ret (by simp [results, Try.results18, go_sem, g0, g1, h0, h1, h2]; rfl) rfl ?_
        exact ⟨Y, ky, true, ins.set Y false, Or.inr ⟨Y, LE.out, rfl, HKY.out.symm, rfl, rfl⟩, rfl, FIN.out⟩
end Go.Proofs.Ytdohmlkocbdomaa
