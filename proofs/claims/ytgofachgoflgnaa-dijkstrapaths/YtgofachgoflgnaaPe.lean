/- pq: settle. -/
import Derived.Test.YtgofachgoflgnaaPo
import Derived.Deep.RegionHeld
namespace Go.Proofs.Ytgofachgoflgnaa
open Go.ChangeShapes Go.WideShapes Go.ChangeAt Go.RowKit Go.Joins Go.Deep

structure Fr (hb pb : Nat) (w w' : World) : Prop where
  size : w.heap.size ≤ w'.heap.size
  block : ∀ k, k < w.heap.size → k ≠ hb → k ≠ pb → w'.heap[k]? = w.heap[k]?
  below : ∀ B, B ≤ hb → B ≤ pb → B ≤ w.heap.size → Below B w w'
theorem Fr.refl (hb pb : Nat) (w : World) : Fr hb pb w w := ⟨Nat.le_refl _, fun _ _ _ _ => rfl, fun B _ _ _ => Below.refl B w⟩
theorem Fr.more {hb pb : Nat} {w w1 w2 : World} (f : Fr hb pb w w1) (b : Below w1.heap.size w1 w2) : Fr hb pb w w2 :=
  ⟨Nat.le_trans f.size b.size, fun k h1 h2 h3 => by rw [b.block k (by have := f.size; omega)]; exact f.block k h1 h2 h3, fun B h1 h2 h3 => (f.below B h1 h2 h3).trans (b.mono (by have := f.size; omega))⟩
theorem Fr.only {hb pb : Nat} {w w1 w2 : World} (f : Fr hb pb w w1) (b : Only hb pb w1 w2) : Fr hb pb w w2 :=
  ⟨by rw [b.size]; exact f.size, fun k h1 h2 h3 => by rw [b.block k h2 h3]; exact f.block k h1 h2 h3, fun B h1 h2 h3 => (f.below B h1 h2 h3).trans (b.below B h1 h2)⟩
/- the state of settle's loops: hs and ps as they were, hs' and ps' as they are -/
structure SetSt (w wq : World) (qb hb kb pb hc kc pc base : Nat) (hs ks ps hs' ps' : List Int) : Prop where
  s : QS wq qb hb kb pb hc kc pc base hs' ks ps'
  c : Cons hs' ps'
  sm : Same hs ps hs' ps'
  fr : Fr hb pb w wq
theorem SetSt.more {w w1 w2 : World} {qb hb kb pb hc kc pc base : Nat} {hs ks ps hs' ps' : List Int} (t : SetSt w w1 qb hb kb pb hc kc pc base hs ks ps hs' ps') (b : Below w1.heap.size w1 w2) : SetSt w w2 qb hb kb pb hc kc pc base hs ks ps hs' ps' :=
  ⟨t.s.keep b, t.c, t.sm, t.fr.more b⟩
theorem chd_item {hs ps : List Int} (C : Cons hs ps) {i c : Nat} (hi : i < hs.length) : ∃ U : Nat, chd hs i c = (U : Int) ∧ U < ps.length := by
  unfold chd
  by_cases h : c < hs.length
  · rw [if_pos h]; obtain ⟨a, b, _⟩ := item_of C h; exact ⟨_, a, b⟩
  · rw [if_neg h]; obtain ⟨a, b, _⟩ := item_of C hi; exact ⟨_, a, b⟩
def mn (ks : List Int) (U F : Nat) : Nat := if bfr ks U F = true then U else F
theorem mn_le (ks : List Int) (X U1 U2 : Nat) : leK ks (mn ks U2 (mn ks U1 X)) X ∧ leK ks (mn ks U2 (mn ks U1 X)) U1 ∧ leK ks (mn ks U2 (mn ks U1 X)) U2 ∧ (mn ks U2 (mn ks U1 X) = X ∨ mn ks U2 (mn ks U1 X) = U1 ∨ mn ks U2 (mn ks U1 X) = U2) := by
  have tot := (leK_ord ks).total
  have tra := (leK_ord ks).trans
  have rfl' : ∀ a, leK ks a a := fun a => (tot a a).elim id id
  have lt : ∀ a b, bfr ks a b = true → leK ks a b := fun a b h => (tot a b).elim id (fun k => absurd h k)
  have ge : ∀ a b, ¬ bfr ks a b = true → leK ks b a := fun _ _ h => h
  unfold mn
  by_cases h1 : bfr ks U1 X = true
  · rw [if_pos h1]
    by_cases h2 : bfr ks U2 U1 = true
    · rw [if_pos h2]; exact ⟨tra _ _ _ (lt _ _ h2) (lt _ _ h1), lt _ _ h2, rfl' _, Or.inr (Or.inr rfl)⟩
    · rw [if_neg h2]; exact ⟨lt _ _ h1, rfl' _, ge _ _ h2, Or.inr (Or.inl rfl)⟩
  · rw [if_neg h1]
    by_cases h2 : bfr ks U2 X = true
    · rw [if_pos h2]; exact ⟨lt _ _ h2, tra _ _ _ (lt _ _ h2) (ge _ _ h1), rfl' _, Or.inr (Or.inr rfl)⟩
    · rw [if_neg h2]; exact ⟨rfl' _, ge _ _ h1, ge _ _ h2, Or.inl rfl⟩
theorem pick_spec {hs ps ks : List Int} {i X U1 U2 F : Nat} (C : Cons hs ps) (hi : i < hs.length) (hX : hf hs i = X) (h1 : chd hs i (2 * i + 1) = (U1 : Int)) (h2 : chd hs i (2 * i + 2) = (U2 : Int)) (hF : mn ks U2 (mn ks U1 X) = F) :
    (F = X ∧ ∀ k, 0 < k → k < hs.length → par k = i → leK ks (hf hs i) (hf hs k)) ∨
    (F ≠ X ∧ ∃ c, 0 < c ∧ c < hs.length ∧ par c = i ∧ hf hs c = F ∧ leK ks (hf hs c) (hf hs i) ∧ ∀ k, 0 < k → k < hs.length → par k = i → leK ks (hf hs c) (hf hs k)) := by
  obtain ⟨a1, a2, a3, a4⟩ := mn_le ks X U1 U2
  rw [hF] at a1 a2 a3 a4
  have xi := (item_of C hi).1
  have g : ∀ c, c < hs.length → chd hs i c = ((hf hs c : Nat) : Int) := fun c hc => by unfold chd; rw [if_pos hc]; exact (item_of C hc).1
  have g0 : ∀ c, ¬ c < hs.length → chd hs i c = (X : Int) := fun c hc => by unfold chd; rw [if_neg hc, xi, hX]
  have ch : ∀ k, 0 < k → k < hs.length → par k = i → leK ks F (hf hs k) := by
    intro k k0 km kp
    have hk : k = 2 * i + 1 ∨ k = 2 * i + 2 := by unfold par at kp; omega
    rcases hk with rfl | rfl
    · have e := g _ km; rw [h1] at e
      have e' : hf hs (2 * i + 1) = U1 := by omega
      rw [e']; exact a2
    · have e := g _ km; rw [h2] at e
      have e' : hf hs (2 * i + 2) = U2 := by omega
      rw [e']; exact a3
  by_cases hFX : F = X
  · left
    refine ⟨hFX, fun k k0 km kp => ?_⟩
    rw [hX, ← hFX]; exact ch k k0 km kp
  · right
    refine ⟨hFX, ?_⟩
    rcases a4 with a4 | a4 | a4
    · exact absurd a4 hFX
    · by_cases hm : 2 * i + 1 < hs.length
      · have e := g _ hm; rw [h1] at e
        have e' : hf hs (2 * i + 1) = F := by omega
        exact ⟨2 * i + 1, by omega, hm, by unfold par; omega, e', by rw [e', hX]; exact a1, fun k k0 km kp => by rw [e']; exact ch k k0 km kp⟩
      · have e := g0 _ hm; rw [h1] at e; omega
    · by_cases hm : 2 * i + 2 < hs.length
      · have e := g _ hm; rw [h2] at e
        have e' : hf hs (2 * i + 2) = F := by omega
        exact ⟨2 * i + 2, by omega, hm, by unfold par; omega, e', by rw [e', hX]; exact a1, fun k k0 km kp => by rw [e']; exact ch k k0 km kp⟩
      · have e := g0 _ hm; rw [h2] at e; omega
theorem ix62a (a b : Int) (w : World) : Sem.run Try.prog (Instr.index 87 (.agg #[.int .i64 a, .int .i64 b]) (.int .i64 0)) w = .ok (.int .i64 a) w := by rfl
theorem ix62b (a b : Int) (w : World) : Sem.run Try.prog (Instr.index 87 (.agg #[.int .i64 a, .int .i64 b]) (.int .i64 1)) w = .ok (.int .i64 b) w := by rfl
set_option maxRecDepth 100000 in
set_option maxHeartbeats 4000000 in
theorem settle_any {w : World} {qb hb kb pb hc kc pc base i0 : Nat} {hs ks ps : List Int} (s : QS w qb hb kb pb hc kc pc base hs ks ps) (C : Cons hs ps) (hi0 : i0 < hs.length) (hml : hs.length ≤ 1048576) (U : Up (leK ks) (hf hs) hs.length i0) :
    Calls Try.prog 39 #[qp qb, .int .i64 i0] w fun e w' => e = .returned (.tuple #[]) ∧ ∃ hs' ps', SetSt w w' qb hb kb pb hc kc pc base hs ks ps hs' ps' ∧ Heap (leK ks) (hf hs') hs'.length := by
  obtain ⟨m, hm⟩ : ∃ m, hs.length = m := ⟨_, rfl⟩
  rw [hm] at hi0 hml
  have HM := Lib.hid hm; clear hm
  have HS0 := Lib.hid (SetSt.mk s C (Same.refl hs ps) (Fr.refl hb pb w)); have HU0 := Lib.hid U
  clear s C U
  go_enter Try.func39, Try.ntmps39
  go_wp2_with fail
  go_loopw [1] (fun s1 wq => ∃ (i : Nat) (hs' ps' : List Int), i < m ∧ s1 = .int .i64 i ∧ Hid (SetSt w wq qb hb kb pb hc kc pc base hs ks ps hs' ps') ∧ Hid (Up (leK ks) (hf hs') hs'.length i)) (fun s1 _ => (intOf s1).toNat)
  case atStart => exact ⟨i0, hs, ps, hi0, rfl, HS0, HU0⟩
  case round =>
    clear HS0 HU0
    obtain ⟨i, hs', ps', hi, rfl, ST, HU⟩ := hrel
    have lm : hs'.length = m := ST.out.sm.len.trans HM.out
    have LM := Lib.hid lm
    have c0 := ST.out.s.q.c0
    rw [lm] at c0
    clear lm
    by_cases hp : 0 < i
    · obtain ⟨pi, hpi⟩ : ∃ pi, par i = pi := ⟨_, rfl⟩
      have hlt : pi < i := by rw [← hpi]; exact par_lt hp
      obtain ⟨g, e1, _, _, hcell, _, _⟩ := ST.out.s.h.block (by rw [LM.out]; omega)
      injection e1 with e1; injection e1 with e1 _ _; subst e1
      obtain ⟨x1, x2, _⟩ := item_of ST.out.c (i := i) (by rw [LM.out]; exact hi)
      obtain ⟨y1, y2, _⟩ := item_of ST.out.c (i := pi) (by rw [LM.out]; omega)
      have kx := (hcell i (by rw [LM.out]; exact hi)).1; have ky := (hcell pi (by rw [LM.out]; omega)).1
      rw [x1] at kx; rw [y1] at ky
      obtain ⟨X, hX⟩ : ∃ X, hf hs' i = X := ⟨_, rfl⟩
      obtain ⟨Y, hY⟩ : ∃ Y, hf hs' pi = Y := ⟨_, rfl⟩
      rw [hX] at kx x2; rw [hY] at ky y2
      have HX := Lib.hid hX; have HY := Lib.hid hY; have X2 := Lib.hid x2; have Y2 := Lib.hid y2; have HP := Lib.hid hpi
      have i0 : (0 : Int) ≤ (i : Int) := by omega
      have i1 : (i : Int) < (m : Int) := by omega
      have ip : (0 : Int) < (i : Int) := by omega
      have w1 : IntKind.i64.wrap ((i : Int) - 1) = (i : Int) - 1 := by rw [IntKind.wrap_i64]; omega
      have w2 : ((i : Int) - 1).tdiv 2 = (pi : Int) := by rw [Int.tdiv_eq_ediv_of_nonneg (by omega)]; unfold par at hpi; omega
      have w3 : IntKind.i64.wrap (pi : Int) = (pi : Int) := by rw [IntKind.wrap_i64]; omega
      have p0 : (0 : Int) ≤ (pi : Int) := by omega
      have p1 : (pi : Int) < (m : Int) := by omega
      clear hpi hcell hX hY x1 y1 x2 y2
      go_wp2_with fail
      have S0 : Hid (∀ W, W = wr.drew → Below wr.heap.size wr W ∧ W.cell? ⟨qb, 0, none⟩ = some (.slice (some ⟨hb, 0, none⟩) m hc) ∧ W.cell? ⟨hb, i, none⟩ = some (.int .i64 X) ∧ W.cell? ⟨hb, pi, none⟩ = some (.int .i64 Y)) := by
        intro W e0; subst e0
        exact ⟨(Below.refl _ _).drew, c0, kx, ky⟩
      refine wp_region_held_drew (S := fun w' => Below wr.heap.size wr w' ∧ w'.cell? ⟨qb, 0, none⟩ = some (.slice (some ⟨hb, 0, none⟩) m hc) ∧ w'.cell? ⟨hb, i, none⟩ = some (.int .i64 X) ∧ w'.cell? ⟨hb, pi, none⟩ = some (.int .i64 Y)) (by kernel_rfl) (S0.out _ rfl) (fun hHeld => ?_)
      clear S0
      refine wpAnyH_take (i := 0) (v := ?_) rfl (by kernel_rfl) (by kernel_rfl) (by kernel_rfl) (fun _ _ _ h => h) (Or.inl ⟨by rfl, ?_⟩) (by assumption) ?_
      rotate_left 1
      · (intro w hSw; (try dsimp only at hSw); first | (go_simp; done) | (go_simp; with_reducible rfl))
      simp only [Act.put, List.getElem_toArray, List.getElem_cons_zero, List.setIfInBounds_toArray, List.set_cons_zero, List.set_cons_succ]
      refine wpAnyH_take (i := 1) (v := ?_) rfl (by kernel_rfl) (by kernel_rfl) (by kernel_rfl) (fun _ _ _ h => h) (Or.inl ⟨by rfl, ?_⟩) (by assumption) ?_
      rotate_left 1
      · (intro w hSw; (try dsimp only at hSw); first | (go_simp; done) | (go_simp; with_reducible rfl))
      simp only [Act.put, List.getElem_toArray, List.getElem_cons_zero, List.getElem_cons_succ, List.setIfInBounds_toArray, List.set_cons_zero, List.set_cons_succ]
      refine wpAnyH_take (i := 2) (v := ?_) rfl (by kernel_rfl) (by kernel_rfl) (by kernel_rfl) (fun _ _ _ h => h) (Or.inl ⟨by rfl, ?_⟩) (by assumption) ?_
      rotate_left 1
      · (intro w hSw; (try dsimp only at hSw); first | (go_simp; done) | (go_simp; with_reducible rfl))
      simp only [Act.put, List.getElem_toArray, List.getElem_cons_zero, List.getElem_cons_succ, List.setIfInBounds_toArray, List.set_cons_zero, List.set_cons_succ]
      refine wpAnyH_take (i := 3) (v := ?_) rfl (by kernel_rfl) (by kernel_rfl) (by kernel_rfl) (fun _ _ _ h => h) (Or.inl ⟨by rfl, ?_⟩) (by assumption) ?_
      rotate_left 1
      · (intro w hSw; (try dsimp only at hSw); first | (go_simp; done) | (go_simp; with_reducible rfl))
      simp only [Act.put, List.getElem_toArray, List.getElem_cons_zero, List.getElem_cons_succ, List.setIfInBounds_toArray, List.set_cons_zero, List.set_cons_succ]
      refine wpAnyH_take (i := 4) (v := ?_) rfl (by kernel_rfl) (by kernel_rfl) (by kernel_rfl) (fun _ _ _ h => h) (Or.inl ⟨by rfl, ?_⟩) (by assumption) ?_
      rotate_left 1
      · (intro w hSw; (try dsimp only at hSw); first | (go_simp; done) | (go_simp; with_reducible rfl))
      simp only [Act.put, List.getElem_toArray, List.getElem_cons_zero, List.getElem_cons_succ, List.setIfInBounds_toArray, List.set_cons_zero, List.set_cons_succ]
      refine wpAnyH_take (i := 5) (v := ?_) rfl (by kernel_rfl) (by kernel_rfl) (by kernel_rfl) (fun _ _ _ h => h) (Or.inl ⟨by rfl, ?_⟩) (by assumption) ?_
      rotate_left 1
      · (intro w hSw; (try dsimp only at hSw); first | (go_simp; done) | (go_simp; with_reducible rfl))
      simp only [Act.put, List.getElem_toArray, List.getElem_cons_zero, List.getElem_cons_succ, List.setIfInBounds_toArray, List.set_cons_zero, List.set_cons_succ]
      refine wpAnyH_take (i := 6) (v := ?_) rfl (by kernel_rfl) (by kernel_rfl) (by kernel_rfl) (fun _ _ _ h => h) (Or.inl ⟨by rfl, ?_⟩) (by assumption) ?_
      rotate_left 1
      · (intro w hSw; (try dsimp only at hSw); first | (go_simp; done) | (go_simp; with_reducible rfl))
      simp only [Act.put, List.getElem_toArray, List.getElem_cons_zero, List.getElem_cons_succ, List.setIfInBounds_toArray, List.set_cons_zero, List.set_cons_succ]
      refine wpAnyH_take (i := 7) (v := ?_) rfl (by kernel_rfl) (by kernel_rfl) (by kernel_rfl) (fun _ _ _ h => h) (Or.inl ⟨by rfl, ?_⟩) (by assumption) ?_
      rotate_left 1
      · (intro w hSw; (try dsimp only at hSw); first | (go_simp; done) | (go_simp; with_reducible rfl))
      simp only [Act.put, List.getElem_toArray, List.getElem_cons_zero, List.getElem_cons_succ, List.setIfInBounds_toArray, List.set_cons_zero, List.set_cons_succ]
      refine wpAnyH_take (i := 8) (v := ?_) rfl (by kernel_rfl) (by kernel_rfl) (by kernel_rfl) (fun _ _ _ h => h) (Or.inl ⟨by rfl, ?_⟩) (by assumption) ?_
      rotate_left 1
      · (intro w hSw; (try dsimp only at hSw); first | (go_simp; done) | (go_simp; with_reducible rfl))
      simp only [Act.put, List.getElem_toArray, List.getElem_cons_zero, List.getElem_cons_succ, List.setIfInBounds_toArray, List.set_cons_zero, List.set_cons_succ]
      refine wpAnyH_take (i := 9) (v := ?_) rfl (by kernel_rfl) (by kernel_rfl) (by kernel_rfl) (fun _ _ _ h => h) (Or.inl ⟨by rfl, ?_⟩) (by assumption) ?_
      rotate_left 1
      · (intro w hSw; (try dsimp only at hSw); first | (go_simp; done) | (go_simp; with_reducible rfl))
      simp only [Act.put, List.getElem_toArray, List.getElem_cons_zero, List.getElem_cons_succ, List.setIfInBounds_toArray, List.set_cons_zero, List.set_cons_succ]
      refine wpAnyH_take (i := 10) (v := ?_) rfl (by kernel_rfl) (by kernel_rfl) (by kernel_rfl) (fun _ _ _ h => h) (Or.inl ⟨by rfl, ?_⟩) (by assumption) ?_
      rotate_left 1
      · (intro w hSw; (try dsimp only at hSw); first | (go_simp; done) | (go_simp; with_reducible rfl))
      simp only [Act.put, List.getElem_toArray, List.getElem_cons_zero, List.getElem_cons_succ, List.setIfInBounds_toArray, List.set_cons_zero, List.set_cons_succ]
      refine wpAnyH_take (i := 11) (v := ?_) rfl (by kernel_rfl) (by kernel_rfl) (by kernel_rfl) (fun _ _ _ h => h) (Or.inl ⟨by rfl, ?_⟩) (by assumption) ?_
      rotate_left 1
      · (intro w hSw; (try dsimp only at hSw); first | (go_simp; done) | (go_simp; with_reducible rfl))
      simp only [Act.put, List.getElem_toArray, List.getElem_cons_zero, List.getElem_cons_succ, List.setIfInBounds_toArray, List.set_cons_zero, List.set_cons_succ]
      refine wpAnyH_take (i := 12) (v := ?_) rfl (by kernel_rfl) (by kernel_rfl) (by kernel_rfl) (fun _ _ _ h => h) (Or.inl ⟨by rfl, ?_⟩) (by assumption) ?_
      rotate_left 1
      · (intro w hSw; (try dsimp only at hSw); first | (go_simp; done) | (go_simp; with_reducible rfl))
      simp only [Act.put, List.getElem_toArray, List.getElem_cons_zero, List.getElem_cons_succ, List.setIfInBounds_toArray, List.set_cons_zero, List.set_cons_succ]
      refine wpAnyH_take (i := 13) (v := ?_) rfl (by kernel_rfl) (by kernel_rfl) (by kernel_rfl) (fun _ _ _ h => h) (Or.inl ⟨by rfl, ?_⟩) (by assumption) ?_
      rotate_left 1
      · (intro w hSw; (try dsimp only at hSw); first | (go_simp; done) | (go_simp; with_reducible rfl))
      simp only [Act.put, List.getElem_toArray, List.getElem_cons_zero, List.getElem_cons_succ, List.setIfInBounds_toArray, List.set_cons_zero, List.set_cons_succ]
      refine wpAnyH_take (i := 14) (v := ?_) rfl (by kernel_rfl) (by kernel_rfl) (by kernel_rfl) (fun _ _ _ h => h) (Or.inl ⟨by rfl, ?_⟩) (by assumption) ?_
      rotate_left 1
      · (intro w hSw; (try dsimp only at hSw); first | (go_simp; done) | (go_simp; with_reducible rfl))
      simp only [Act.put, List.getElem_toArray, List.getElem_cons_zero, List.getElem_cons_succ, List.setIfInBounds_toArray, List.set_cons_zero, List.set_cons_succ]
      refine wpAnyH_take (i := 15) (v := ?_) rfl (by kernel_rfl) (by kernel_rfl) (by kernel_rfl) (fun _ _ _ h => h) (Or.inl ⟨by rfl, ?_⟩) (by assumption) ?_
      rotate_left 1
      · (intro w hSw; (try dsimp only at hSw); first | (go_simp; done) | (go_simp; with_reducible rfl))
      simp only [Act.put, List.getElem_toArray, List.getElem_cons_zero, List.getElem_cons_succ, List.setIfInBounds_toArray, List.set_cons_zero, List.set_cons_succ]
      refine wpAnyH_take (i := 16) (v := ?_) rfl (by kernel_rfl) (by kernel_rfl) (by kernel_rfl) (fun _ _ _ h => h) (Or.inl ⟨by rfl, ?_⟩) (by assumption) ?_
      rotate_left 1
      · (intro w hSw; (try dsimp only at hSw); first | (go_simp; done) | (go_simp; with_reducible rfl))
      simp only [Act.put, List.getElem_toArray, List.getElem_cons_zero, List.getElem_cons_succ, List.setIfInBounds_toArray, List.set_cons_zero, List.set_cons_succ]
      refine wpAnyH_take (i := 17) (v := ?_) rfl (by kernel_rfl) (by kernel_rfl) (by kernel_rfl) (fun _ _ _ h => h) (Or.inl ⟨by rfl, ?_⟩) (by assumption) ?_
      rotate_left 1
      · (intro w hSw; (try dsimp only at hSw); first | (go_simp; done) | (go_simp; with_reducible rfl))
      simp only [Act.put, List.getElem_toArray, List.getElem_cons_zero, List.getElem_cons_succ, List.setIfInBounds_toArray, List.set_cons_zero, List.set_cons_succ]
      refine wpAnyH_take (i := 18) (v := ?_) rfl (by kernel_rfl) (by kernel_rfl) (by kernel_rfl) (fun _ _ _ h => h) (Or.inl ⟨by rfl, ?_⟩) (by assumption) ?_
      rotate_left 1
      · (intro w hSw; (try dsimp only at hSw); first | (go_simp; done) | (go_simp; with_reducible rfl))
      simp only [Act.put, List.getElem_toArray, List.getElem_cons_zero, List.getElem_cons_succ, List.setIfInBounds_toArray, List.set_cons_zero, List.set_cons_succ]
      refine wpAnyH_take (i := 19) (v := ?_) rfl (by kernel_rfl) (by kernel_rfl) (by kernel_rfl) (fun _ _ _ h => h) (Or.inl ⟨by rfl, ?_⟩) (by assumption) ?_
      rotate_left 1
      · (intro w hSw; (try dsimp only at hSw); first | (go_simp; done) | (go_simp; with_reducible rfl))
      simp only [Act.put, List.getElem_toArray, List.getElem_cons_zero, List.getElem_cons_succ, List.setIfInBounds_toArray, List.set_cons_zero, List.set_cons_succ]
      refine wpAnyH_ready (rs := [20]) (by kernel_rfl) (by simp) ?_
      refine AllReadyH.cons rfl (fun K hK => ?_) AllReadyH.nil
      go_simp
      refine (before_qs (w := wr.drew) (ST.out.more (Below.refl _ _).drew).s X2.out Y2.out).mono ?_; rintro en w8 ⟨rfl, b8⟩
      have b8w : Below wr.heap.size wr w8 := (Below.refl wr.heap.size wr).drew.trans b8
      refine hK.out _ _ ⟨b8w, old b8w c0, old b8w kx, old b8w ky⟩ (fun hHeld2 => ?_)
      clear hK K hHeld hHeld2 b8
      have ST8 := Lib.hid (ST.out.more b8w)
      have hHeld : Below wr.heap.size wr w8 ∧ w8.cell? ⟨qb, 0, none⟩ = some (.slice (some ⟨hb, 0, none⟩) m hc) ∧ w8.cell? ⟨hb, i, none⟩ = some (.int .i64 X) ∧ w8.cell? ⟨hb, pi, none⟩ = some (.int .i64 Y) := ⟨b8w, old b8w c0, old b8w kx, old b8w ky⟩
      refine wpAnyH_take (i := 21) (v := ?_) rfl (by kernel_rfl) (by kernel_rfl) (by kernel_rfl) (fun _ _ _ h => h) (Or.inl ⟨by rfl, ?_⟩) (by assumption) ?_
      rotate_left 1
      · (intro w hSw; (try dsimp only at hSw); first | (go_simp; done) | (go_simp; with_reducible rfl))
      simp only [Act.put, List.getElem_toArray, List.getElem_cons_zero, List.getElem_cons_succ, List.setIfInBounds_toArray, List.set_cons_zero, List.set_cons_succ]
      clear hHeld
      refine wpAnyH_done (by kernel_rfl) ?_ _
      clear c0 kx ky b8w ST
      obtain ⟨bf, hbf⟩ : ∃ bf, bfr ks X Y = bf := ⟨_, rfl⟩
      rw [hbf]
      have BF := Lib.hid hbf; clear hbf
      cases bf
      · --EXIT1
        have DN : Hid (Down (leK ks) (hf hs') hs'.length i) := up_exit HU.out (Or.inr (by rw [HP.out, HX.out, HY.out]; unfold leK; rw [BF.out]; simp))
        clear HU
        go_wp2_with fail
        go_loopw [1] (fun s1 wq => ∃ (i : Nat) (hs' ps' : List Int), i < m ∧ s1 = .int .i64 i ∧ Hid (SetSt w wq qb hb kb pb hc kc pc base hs ks ps hs' ps') ∧ Hid (Down (leK ks) (hf hs') hs'.length i)) (fun s1 _ => m - (intOf s1).toNat)
        case atStart => exact ⟨_, hs', ps', (by first | exact hi | omega), rfl, ST8, DN⟩
        case round =>
          clear ST8 DN LM hi
          obtain ⟨i, hs', ps', hi, rfl, ST, DN⟩ := hrel
          have lm : hs'.length = m := ST.out.sm.len.trans HM.out
          have LM := Lib.hid lm
          have c0 := ST.out.s.q.c0
          rw [lm] at c0
          clear lm
          obtain ⟨g, e1, _, _, hcell, _, _⟩ := ST.out.s.h.block (by rw [LM.out]; omega)
          injection e1 with e1; injection e1 with e1 _ _; subst e1
          obtain ⟨x1, x2, _⟩ := item_of ST.out.c (i := i) (by rw [LM.out]; exact hi)
          have kx := (hcell i (by rw [LM.out]; exact hi)).1
          rw [x1] at kx
          obtain ⟨X, hX⟩ : ∃ X, hf hs' i = X := ⟨_, rfl⟩
          rw [hX] at kx x2
          have HX := Lib.hid hX; have X2 := Lib.hid x2
          have i0 : (0 : Int) ≤ (i : Int) := by omega
          have i1 : (i : Int) < (m : Int) := by omega
          obtain ⟨U1, u1, U1b⟩ := chd_item ST.out.c (i := i) (c := 2 * i + 1) (by rw [LM.out]; exact hi)
          obtain ⟨U2, u2, U2b⟩ := chd_item ST.out.c (i := i) (c := 2 * i + 2) (by rw [LM.out]; exact hi)
          have HU1 := Lib.hid u1; have HU2 := Lib.hid u2; have HB1 := Lib.hid U1b; have HB2 := Lib.hid U2b
          clear hX x1 x2 u1 u2 U1b U2b hcell
          go_wp2_with fail
          refine (children_any ST.out.s.q ST.out.s.h (by rw [LM.out]; exact hi) (by rw [LM.out]; exact hml)).mono ?_; rintro en w5 ⟨rfl, b5⟩
          rw [HU1.out, HU2.out]
          have ST5 := Lib.hid (ST.out.more b5)
          clear b5 ST c0 kx
          go_wp2_with fail
          go_loopw [5, 7, 52] (fun s5 _ s52 wq => ∃ (k F : Nat), s52 = .int .i64 k ∧ s5 = .int .i64 F ∧ F < ps'.length ∧ Hid ((k = 0 ∧ F = X) ∨ (k = 1 ∧ F = mn ks U1 X) ∨ (k = 2 ∧ F = mn ks U2 (mn ks U1 X))) ∧ Hid (SetSt w wq qb hb kb pb hc kc pc base hs ks ps hs' ps')) (fun _ _ s52 _ => 2 - (intOf s52).toNat)
          case atStart => exact ⟨0, X, rfl, rfl, X2.out, Or.inl ⟨rfl, rfl⟩, ST5⟩
          case round =>
            clear ST5
            obtain ⟨k, F, rfl, rfl, hFb, HK, ST5⟩ := hrel
            rcases HK.out with ⟨rfl, hF⟩ | ⟨rfl, hF⟩ | ⟨rfl, hF⟩
            · have HF := Lib.hid hF; clear hF HK
              go_wp2_with fail
              rw [ix62a]
              go_wp2_with fail
              refine (before_qs ST5.out.s HB1.out hFb).mono ?_; rintro en w6 ⟨rfl, b6⟩
              have ST6 := Lib.hid (ST5.out.more b6)
              clear b6 ST5
              obtain ⟨bf, hbf⟩ : ∃ bf, bfr ks U1 F = bf := ⟨_, rfl⟩
              rw [hbf]
              cases bf
              · have MN := Lib.hid (show mn ks U1 F = F by unfold mn; rw [hbf]; simp)
                clear hbf
                go_wp2_with fail
                go_roundw
                case rel => exact ⟨1, F, by go_num, rfl, hFb, Or.inr (Or.inl ⟨rfl, by rw [← HF.out]; exact MN.out.symm⟩), ST6⟩
                case measure => simp [intOf]
              · have MN := Lib.hid (show mn ks U1 F = U1 by unfold mn; rw [hbf]; simp)
                clear hbf
                go_wp2_with fail
                go_roundw
                case rel => exact ⟨1, U1, by go_num, rfl, HB1.out, Or.inr (Or.inl ⟨rfl, by rw [← HF.out]; exact MN.out.symm⟩), ST6⟩
                case measure => simp [intOf]
            · have HF := Lib.hid hF; clear hF HK
              go_wp2_with fail
              rw [ix62b]
              go_wp2_with fail
              refine (before_qs ST5.out.s HB2.out hFb).mono ?_; rintro en w6 ⟨rfl, b6⟩
              have ST6 := Lib.hid (ST5.out.more b6)
              clear b6 ST5
              obtain ⟨bf, hbf⟩ : ∃ bf, bfr ks U2 F = bf := ⟨_, rfl⟩
              rw [hbf]
              cases bf
              · have MN := Lib.hid (show mn ks U2 F = F by unfold mn; rw [hbf]; simp)
                clear hbf
                go_wp2_with fail
                go_roundw
                case rel => exact ⟨2, F, by go_num, rfl, hFb, Or.inr (Or.inr ⟨rfl, by rw [← HF.out]; exact MN.out.symm⟩), ST6⟩
                case measure => simp [intOf]
              · have MN := Lib.hid (show mn ks U2 F = U2 by unfold mn; rw [hbf]; simp)
                clear hbf
                go_wp2_with fail
                go_roundw
                case rel => exact ⟨2, U2, by go_num, rfl, HB2.out, Or.inr (Or.inr ⟨rfl, by rw [← HF.out]; exact MN.out.symm⟩), ST6⟩
                case measure => simp [intOf]
            · have PK := pick_spec ST5.out.c (by rw [LM.out]; exact hi) HX.out HU1.out HU2.out hF.symm
              clear hF HK
              have c0 := ST5.out.s.q.c0
              rw [LM.out] at c0
              obtain ⟨g, e1, _, _, hcell, _, _⟩ := ST5.out.s.h.block (by rw [LM.out]; omega)
              injection e1 with e1; injection e1 with e1 _ _; subst e1
              have kx := (hcell i (by rw [LM.out]; exact hi)).1
              rw [(item_of ST5.out.c (i := i) (by rw [LM.out]; exact hi)).1, HX.out] at kx
              clear hcell
              rcases PK with ⟨hFX, hall⟩ | ⟨hFX, c, k0, kc, kp, kf, kl, kall⟩
              · subst hFX
                have HH := Lib.hid (down_done DN.out hall)
                clear hall
                go_wp2_with fail
                refine bodyPost_ret (results_none rfl _ _ _) rfl ?_
                first | exact ⟨rfl, hs', ps', ST5.out, HH.out⟩ | exact ⟨rfl, hs', ⟨ps', ST5.out⟩, HH.out⟩
              · have hfx : ((F : Int) == (X : Int)) = false := by simp; omega
                have hfx2 : ¬ (F : Int) = (X : Int) := by omega
                have kcm : c < m := by rw [← LM.out]; exact kc
                have DS := Lib.hid (down_step DN.out k0 kc kp kl kall)
                have c2 := ST5.out.s.q.c2
                obtain ⟨g2, e2, _, _, pcell, _, _⟩ := ST5.out.s.p.block (by omega)
                injection e2 with e2; injection e2 with e2 _ _; subst e2
                have kp2 := (pcell F hFb).1
                have pf := (item_of ST5.out.c kc).2.2
                rw [kf] at pf
                rw [pf] at kp2
                obtain ⟨n, hn⟩ : ∃ n, ps'.length = n := ⟨_, rfl⟩
                rw [hn] at c2
                have f0 : (0 : Int) ≤ (F : Int) := by omega
                have f1 : (F : Int) < (n : Int) := by omega
                have hci : i < c := by have := par_lt k0; omega
                have KC := Lib.hid kc
                clear pcell pf kf kl kall kp hn kc hFX
                go_wp2_with fail
                refine (swap_qs ST5.out.s ST5.out.c (by rw [LM.out]; exact hi) KC.out).mono ?_; rintro en w9 ⟨rfl, hs2, ps2, s2, cc2, hf2, sm2, on2⟩
                have ST9 := Lib.hid (SetSt.mk s2 cc2 (ST5.out.sm.trans sm2) (ST5.out.fr.only on2))
                have DN9 : Hid (Down (leK ks) (hf hs2) hs2.length c) := by show Down _ _ _ _; rw [hf2, sm2.len]; exact DS.out
                clear s2 cc2 hf2 sm2 on2 ST5 DN DS
                go_wp2_with fail
                go_roundw
                case rel => exact ⟨c, hs2, ps2, kcm, rfl, ST9, DN9⟩
                case measure => simp [intOf]; omega
      · have LE : Hid (leK ks X Y) := by show leK ks X Y; have t := BF.out; unfold leK; unfold bfr at t ⊢; simp only [decide_eq_true_eq] at t ⊢; omega
        go_wp2_with fail
        refine (swap_qs ST8.out.s ST8.out.c (by rw [LM.out]; exact hi) (by rw [LM.out]; omega)).mono ?_; rintro en w9 ⟨rfl, hs2, ps2, s2, c2, hf2, sm2, on2⟩
        have ST9 := Lib.hid (SetSt.mk s2 c2 (ST8.out.sm.trans sm2) (ST8.out.fr.only on2))
        have UP9 : Hid (Up (leK ks) (hf hs2) hs2.length pi) := by show Up _ _ _ _; rw [hf2, sm2.len, ← HP.out]; exact up_step (leK_ord ks) HU.out hp (by rw [LM.out]; exact hi) (by rw [HP.out, HX.out, HY.out]; exact LE.out)
        clear s2 c2 hf2 sm2 on2 ST8 HU
        go_wp2_with fail
        go_roundw
        case rel => exact ⟨pi, hs2, ps2, by omega, rfl, ST9, UP9⟩
        case measure => simp [intOf]; omega
    · obtain rfl : i = 0 := by omega
      go_wp2_with fail
      refine wp_region_held_drew (S := fun w' => Below wr.heap.size wr w') (by kernel_rfl) (Below.refl _ _).drew (fun hHeld => ?_)
      refine wpAnyH_take (i := 0) (v := ?_) rfl (by kernel_rfl) (by kernel_rfl) (by kernel_rfl) (fun _ _ _ h => h) (Or.inl ⟨by rfl, ?_⟩) (by assumption) ?_
      rotate_left 1
      · (intro w hSw; (try dsimp only at hSw); first | (go_simp; done) | (go_simp; with_reducible rfl))
      simp only [Act.put, List.getElem_toArray, List.getElem_cons_zero, List.setIfInBounds_toArray, List.set_cons_zero, List.set_cons_succ]
      refine wpAnyH_take (i := 1) (v := ?_) rfl (by kernel_rfl) (by kernel_rfl) (by kernel_rfl) (fun _ _ _ h => h) (Or.inl ⟨by rfl, ?_⟩) (by assumption) ?_
      rotate_left 1
      · (intro w hSw; (try dsimp only at hSw); first | (go_simp; done) | (go_simp; with_reducible rfl))
      simp only [Act.put, List.getElem_toArray, List.getElem_cons_zero, List.getElem_cons_succ, List.setIfInBounds_toArray, List.set_cons_zero, List.set_cons_succ]
      refine wpAnyH_take (i := 2) (v := ?_) rfl (by kernel_rfl) (by kernel_rfl) (by kernel_rfl) (fun _ _ _ h => h) (Or.inl ⟨by rfl, ?_⟩) (by assumption) ?_
      rotate_left 1
      · (intro w hSw; (try dsimp only at hSw); first | (go_simp; done) | (go_simp; with_reducible rfl))
      simp only [Act.put, List.getElem_toArray, List.getElem_cons_zero, List.getElem_cons_succ, List.setIfInBounds_toArray, List.set_cons_zero, List.set_cons_succ]
      refine wpAnyH_take (i := 3) (v := undef) rfl (by kernel_rfl) (by kernel_rfl) (by kernel_rfl) (fun _ _ _ h => h) (Or.inr ⟨by rfl, rfl⟩) (by assumption) ?_
      simp only [Act.put, List.getElem_toArray, List.getElem_cons_zero, List.getElem_cons_succ, List.setIfInBounds_toArray, List.set_cons_zero, List.set_cons_succ]
      refine wpAnyH_take (i := 4) (v := undef) rfl (by kernel_rfl) (by kernel_rfl) (by kernel_rfl) (fun _ _ _ h => h) (Or.inr ⟨by rfl, rfl⟩) (by assumption) ?_
      simp only [Act.put, List.getElem_toArray, List.getElem_cons_zero, List.getElem_cons_succ, List.setIfInBounds_toArray, List.set_cons_zero, List.set_cons_succ]
      refine wpAnyH_take (i := 5) (v := undef) rfl (by kernel_rfl) (by kernel_rfl) (by kernel_rfl) (fun _ _ _ h => h) (Or.inr ⟨by rfl, rfl⟩) (by assumption) ?_
      simp only [Act.put, List.getElem_toArray, List.getElem_cons_zero, List.getElem_cons_succ, List.setIfInBounds_toArray, List.set_cons_zero, List.set_cons_succ]
      refine wpAnyH_take (i := 6) (v := undef) rfl (by kernel_rfl) (by kernel_rfl) (by kernel_rfl) (fun _ _ _ h => h) (Or.inr ⟨by rfl, rfl⟩) (by assumption) ?_
      simp only [Act.put, List.getElem_toArray, List.getElem_cons_zero, List.getElem_cons_succ, List.setIfInBounds_toArray, List.set_cons_zero, List.set_cons_succ]
      refine wpAnyH_take (i := 7) (v := undef) rfl (by kernel_rfl) (by kernel_rfl) (by kernel_rfl) (fun _ _ _ h => h) (Or.inr ⟨by rfl, rfl⟩) (by assumption) ?_
      simp only [Act.put, List.getElem_toArray, List.getElem_cons_zero, List.getElem_cons_succ, List.setIfInBounds_toArray, List.set_cons_zero, List.set_cons_succ]
      refine wpAnyH_take (i := 8) (v := undef) rfl (by kernel_rfl) (by kernel_rfl) (by kernel_rfl) (fun _ _ _ h => h) (Or.inr ⟨by rfl, rfl⟩) (by assumption) ?_
      simp only [Act.put, List.getElem_toArray, List.getElem_cons_zero, List.getElem_cons_succ, List.setIfInBounds_toArray, List.set_cons_zero, List.set_cons_succ]
      refine wpAnyH_take (i := 9) (v := undef) rfl (by kernel_rfl) (by kernel_rfl) (by kernel_rfl) (fun _ _ _ h => h) (Or.inr ⟨by rfl, rfl⟩) (by assumption) ?_
      simp only [Act.put, List.getElem_toArray, List.getElem_cons_zero, List.getElem_cons_succ, List.setIfInBounds_toArray, List.set_cons_zero, List.set_cons_succ]
      refine wpAnyH_take (i := 10) (v := undef) rfl (by kernel_rfl) (by kernel_rfl) (by kernel_rfl) (fun _ _ _ h => h) (Or.inr ⟨by rfl, rfl⟩) (by assumption) ?_
      simp only [Act.put, List.getElem_toArray, List.getElem_cons_zero, List.getElem_cons_succ, List.setIfInBounds_toArray, List.set_cons_zero, List.set_cons_succ]
      refine wpAnyH_take (i := 11) (v := undef) rfl (by kernel_rfl) (by kernel_rfl) (by kernel_rfl) (fun _ _ _ h => h) (Or.inr ⟨by rfl, rfl⟩) (by assumption) ?_
      simp only [Act.put, List.getElem_toArray, List.getElem_cons_zero, List.getElem_cons_succ, List.setIfInBounds_toArray, List.set_cons_zero, List.set_cons_succ]
      refine wpAnyH_take (i := 12) (v := undef) rfl (by kernel_rfl) (by kernel_rfl) (by kernel_rfl) (fun _ _ _ h => h) (Or.inr ⟨by rfl, rfl⟩) (by assumption) ?_
      simp only [Act.put, List.getElem_toArray, List.getElem_cons_zero, List.getElem_cons_succ, List.setIfInBounds_toArray, List.set_cons_zero, List.set_cons_succ]
      refine wpAnyH_take (i := 13) (v := undef) rfl (by kernel_rfl) (by kernel_rfl) (by kernel_rfl) (fun _ _ _ h => h) (Or.inr ⟨by rfl, rfl⟩) (by assumption) ?_
      simp only [Act.put, List.getElem_toArray, List.getElem_cons_zero, List.getElem_cons_succ, List.setIfInBounds_toArray, List.set_cons_zero, List.set_cons_succ]
      refine wpAnyH_take (i := 14) (v := undef) rfl (by kernel_rfl) (by kernel_rfl) (by kernel_rfl) (fun _ _ _ h => h) (Or.inr ⟨by rfl, rfl⟩) (by assumption) ?_
      simp only [Act.put, List.getElem_toArray, List.getElem_cons_zero, List.getElem_cons_succ, List.setIfInBounds_toArray, List.set_cons_zero, List.set_cons_succ]
      refine wpAnyH_take (i := 15) (v := undef) rfl (by kernel_rfl) (by kernel_rfl) (by kernel_rfl) (fun _ _ _ h => h) (Or.inr ⟨by rfl, rfl⟩) (by assumption) ?_
      simp only [Act.put, List.getElem_toArray, List.getElem_cons_zero, List.getElem_cons_succ, List.setIfInBounds_toArray, List.set_cons_zero, List.set_cons_succ]
      refine wpAnyH_take (i := 16) (v := undef) rfl (by kernel_rfl) (by kernel_rfl) (by kernel_rfl) (fun _ _ _ h => h) (Or.inr ⟨by rfl, rfl⟩) (by assumption) ?_
      simp only [Act.put, List.getElem_toArray, List.getElem_cons_zero, List.getElem_cons_succ, List.setIfInBounds_toArray, List.set_cons_zero, List.set_cons_succ]
      refine wpAnyH_take (i := 17) (v := undef) rfl (by kernel_rfl) (by kernel_rfl) (by kernel_rfl) (fun _ _ _ h => h) (Or.inr ⟨by rfl, rfl⟩) (by assumption) ?_
      simp only [Act.put, List.getElem_toArray, List.getElem_cons_zero, List.getElem_cons_succ, List.setIfInBounds_toArray, List.set_cons_zero, List.set_cons_succ]
      refine wpAnyH_take (i := 18) (v := undef) rfl (by kernel_rfl) (by kernel_rfl) (by kernel_rfl) (fun _ _ _ h => h) (Or.inr ⟨by rfl, rfl⟩) (by assumption) ?_
      simp only [Act.put, List.getElem_toArray, List.getElem_cons_zero, List.getElem_cons_succ, List.setIfInBounds_toArray, List.set_cons_zero, List.set_cons_succ]
      refine wpAnyH_take (i := 19) (v := undef) rfl (by kernel_rfl) (by kernel_rfl) (by kernel_rfl) (fun _ _ _ h => h) (Or.inr ⟨by rfl, rfl⟩) (by assumption) ?_
      simp only [Act.put, List.getElem_toArray, List.getElem_cons_zero, List.getElem_cons_succ, List.setIfInBounds_toArray, List.set_cons_zero, List.set_cons_succ]
      refine wpAnyH_take (i := 20) (v := undef) rfl (by kernel_rfl) (by kernel_rfl) (by kernel_rfl) (fun _ _ _ h => h) (Or.inr ⟨by rfl, rfl⟩) (by assumption) ?_
      simp only [Act.put, List.getElem_toArray, List.getElem_cons_zero, List.getElem_cons_succ, List.setIfInBounds_toArray, List.set_cons_zero, List.set_cons_succ]
      refine wpAnyH_take (i := 21) (v := ?_) rfl (by kernel_rfl) (by kernel_rfl) (by kernel_rfl) (fun _ _ _ h => h) (Or.inl ⟨by rfl, ?_⟩) (by assumption) ?_
      rotate_left 1
      · (intro w hSw; (try dsimp only at hSw); first | (go_simp; done) | (go_simp; with_reducible rfl))
      simp only [Act.put, List.getElem_toArray, List.getElem_cons_zero, List.getElem_cons_succ, List.setIfInBounds_toArray, List.set_cons_zero, List.set_cons_succ]
      clear hHeld
      refine wpAnyH_done (by kernel_rfl) ?_ _
      have ST8 := Lib.hid (ST.out.more (Below.refl _ _).drew)
      clear c0 ST
      have DN : Hid (Down (leK ks) (hf hs') hs'.length 0) := up_exit HU.out (Or.inl rfl)
      clear HU
      go_wp2_with fail
      go_loopw [1] (fun s1 wq => ∃ (i : Nat) (hs' ps' : List Int), i < m ∧ s1 = .int .i64 i ∧ Hid (SetSt w wq qb hb kb pb hc kc pc base hs ks ps hs' ps') ∧ Hid (Down (leK ks) (hf hs') hs'.length i)) (fun s1 _ => m - (intOf s1).toNat)
      case atStart => exact ⟨_, hs', ps', (by first | exact hi | omega), rfl, ST8, DN⟩
      case round =>
        clear ST8 DN LM hi
        obtain ⟨i, hs', ps', hi, rfl, ST, DN⟩ := hrel
        have lm : hs'.length = m := ST.out.sm.len.trans HM.out
        have LM := Lib.hid lm
        have c0 := ST.out.s.q.c0
        rw [lm] at c0
        clear lm
        obtain ⟨g, e1, _, _, hcell, _, _⟩ := ST.out.s.h.block (by rw [LM.out]; omega)
        injection e1 with e1; injection e1 with e1 _ _; subst e1
        obtain ⟨x1, x2, _⟩ := item_of ST.out.c (i := i) (by rw [LM.out]; exact hi)
        have kx := (hcell i (by rw [LM.out]; exact hi)).1
        rw [x1] at kx
        obtain ⟨X, hX⟩ : ∃ X, hf hs' i = X := ⟨_, rfl⟩
        rw [hX] at kx x2
        have HX := Lib.hid hX; have X2 := Lib.hid x2
        have i0 : (0 : Int) ≤ (i : Int) := by omega
        have i1 : (i : Int) < (m : Int) := by omega
        obtain ⟨U1, u1, U1b⟩ := chd_item ST.out.c (i := i) (c := 2 * i + 1) (by rw [LM.out]; exact hi)
        obtain ⟨U2, u2, U2b⟩ := chd_item ST.out.c (i := i) (c := 2 * i + 2) (by rw [LM.out]; exact hi)
        have HU1 := Lib.hid u1; have HU2 := Lib.hid u2; have HB1 := Lib.hid U1b; have HB2 := Lib.hid U2b
        clear hX x1 x2 u1 u2 U1b U2b hcell
        go_wp2_with fail
        refine (children_any ST.out.s.q ST.out.s.h (by rw [LM.out]; exact hi) (by rw [LM.out]; exact hml)).mono ?_; rintro en w5 ⟨rfl, b5⟩
        rw [HU1.out, HU2.out]
        have ST5 := Lib.hid (ST.out.more b5)
        clear b5 ST c0 kx
        go_wp2_with fail
        go_loopw [5, 7, 52] (fun s5 _ s52 wq => ∃ (k F : Nat), s52 = .int .i64 k ∧ s5 = .int .i64 F ∧ F < ps'.length ∧ Hid ((k = 0 ∧ F = X) ∨ (k = 1 ∧ F = mn ks U1 X) ∨ (k = 2 ∧ F = mn ks U2 (mn ks U1 X))) ∧ Hid (SetSt w wq qb hb kb pb hc kc pc base hs ks ps hs' ps')) (fun _ _ s52 _ => 2 - (intOf s52).toNat)
        case atStart => exact ⟨0, X, rfl, rfl, X2.out, Or.inl ⟨rfl, rfl⟩, ST5⟩
        case round =>
          clear ST5
          obtain ⟨k, F, rfl, rfl, hFb, HK, ST5⟩ := hrel
          rcases HK.out with ⟨rfl, hF⟩ | ⟨rfl, hF⟩ | ⟨rfl, hF⟩
          · have HF := Lib.hid hF; clear hF HK
            go_wp2_with fail
            rw [ix62a]
            go_wp2_with fail
            refine (before_qs ST5.out.s HB1.out hFb).mono ?_; rintro en w6 ⟨rfl, b6⟩
            have ST6 := Lib.hid (ST5.out.more b6)
            clear b6 ST5
            obtain ⟨bf, hbf⟩ : ∃ bf, bfr ks U1 F = bf := ⟨_, rfl⟩
            rw [hbf]
            cases bf
            · have MN := Lib.hid (show mn ks U1 F = F by unfold mn; rw [hbf]; simp)
              clear hbf
              go_wp2_with fail
              go_roundw
              case rel => exact ⟨1, F, by go_num, rfl, hFb, Or.inr (Or.inl ⟨rfl, by rw [← HF.out]; exact MN.out.symm⟩), ST6⟩
              case measure => simp [intOf]
            · have MN := Lib.hid (show mn ks U1 F = U1 by unfold mn; rw [hbf]; simp)
              clear hbf
              go_wp2_with fail
              go_roundw
              case rel => exact ⟨1, U1, by go_num, rfl, HB1.out, Or.inr (Or.inl ⟨rfl, by rw [← HF.out]; exact MN.out.symm⟩), ST6⟩
              case measure => simp [intOf]
          · have HF := Lib.hid hF; clear hF HK
            go_wp2_with fail
            rw [ix62b]
            go_wp2_with fail
            refine (before_qs ST5.out.s HB2.out hFb).mono ?_; rintro en w6 ⟨rfl, b6⟩
            have ST6 := Lib.hid (ST5.out.more b6)
            clear b6 ST5
            obtain ⟨bf, hbf⟩ : ∃ bf, bfr ks U2 F = bf := ⟨_, rfl⟩
            rw [hbf]
            cases bf
            · have MN := Lib.hid (show mn ks U2 F = F by unfold mn; rw [hbf]; simp)
              clear hbf
              go_wp2_with fail
              go_roundw
              case rel => exact ⟨2, F, by go_num, rfl, hFb, Or.inr (Or.inr ⟨rfl, by rw [← HF.out]; exact MN.out.symm⟩), ST6⟩
              case measure => simp [intOf]
            · have MN := Lib.hid (show mn ks U2 F = U2 by unfold mn; rw [hbf]; simp)
              clear hbf
              go_wp2_with fail
              go_roundw
              case rel => exact ⟨2, U2, by go_num, rfl, HB2.out, Or.inr (Or.inr ⟨rfl, by rw [← HF.out]; exact MN.out.symm⟩), ST6⟩
              case measure => simp [intOf]
          · have PK := pick_spec ST5.out.c (by rw [LM.out]; exact hi) HX.out HU1.out HU2.out hF.symm
            clear hF HK
            have c0 := ST5.out.s.q.c0
            rw [LM.out] at c0
            obtain ⟨g, e1, _, _, hcell, _, _⟩ := ST5.out.s.h.block (by rw [LM.out]; omega)
            injection e1 with e1; injection e1 with e1 _ _; subst e1
            have kx := (hcell i (by rw [LM.out]; exact hi)).1
            rw [(item_of ST5.out.c (i := i) (by rw [LM.out]; exact hi)).1, HX.out] at kx
            clear hcell
            rcases PK with ⟨hFX, hall⟩ | ⟨hFX, c, k0, kc, kp, kf, kl, kall⟩
            · subst hFX
              have HH := Lib.hid (down_done DN.out hall)
              clear hall
              go_wp2_with fail
              refine bodyPost_ret (results_none rfl _ _ _) rfl ?_
              first | exact ⟨rfl, hs', ps', ST5.out, HH.out⟩ | exact ⟨rfl, hs', ⟨ps', ST5.out⟩, HH.out⟩
            · have hfx : ((F : Int) == (X : Int)) = false := by simp; omega
              have hfx2 : ¬ (F : Int) = (X : Int) := by omega
              have kcm : c < m := by rw [← LM.out]; exact kc
              have DS := Lib.hid (down_step DN.out k0 kc kp kl kall)
              have c2 := ST5.out.s.q.c2
              obtain ⟨g2, e2, _, _, pcell, _, _⟩ := ST5.out.s.p.block (by omega)
              injection e2 with e2; injection e2 with e2 _ _; subst e2
              have kp2 := (pcell F hFb).1
              have pf := (item_of ST5.out.c kc).2.2
              rw [kf] at pf
              rw [pf] at kp2
              obtain ⟨n, hn⟩ : ∃ n, ps'.length = n := ⟨_, rfl⟩
              rw [hn] at c2
              have f0 : (0 : Int) ≤ (F : Int) := by omega
              have f1 : (F : Int) < (n : Int) := by omega
              have hci : i < c := by have := par_lt k0; omega
              have KC := Lib.hid kc
              clear pcell pf kf kl kall kp hn kc hFX
              go_wp2_with fail
              refine (swap_qs ST5.out.s ST5.out.c (by rw [LM.out]; exact hi) KC.out).mono ?_; rintro en w9 ⟨rfl, hs2, ps2, s2, cc2, hf2, sm2, on2⟩
              have ST9 := Lib.hid (SetSt.mk s2 cc2 (ST5.out.sm.trans sm2) (ST5.out.fr.only on2))
              have DN9 : Hid (Down (leK ks) (hf hs2) hs2.length c) := by show Down _ _ _ _; rw [hf2, sm2.len]; exact DS.out
              clear s2 cc2 hf2 sm2 on2 ST5 DN DS
              go_wp2_with fail
              go_roundw
              case rel => exact ⟨c, hs2, ps2, kcm, rfl, ST9, DN9⟩
              case measure => simp [intOf]; omega
end Go.Proofs.Ytgofachgoflgnaa
