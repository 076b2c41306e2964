/- graph: GraphReverses. -/
import Derived.Test.YthfecllgkldgfaaGq
namespace Go.Proofs.Ythfecllgkldgfaa
open Go.ChangeShapes Go.WideShapes Go.ChangeAt Go.RowKit Go.Joins Go.Deep

theorem flip_flip (l : List (Int × Int)) : (l.map flip).map flip = l := by rw [List.map_map]; exact List.map_id l
theorem conn_flip1 {l : List (Int × Int)} {a b : Nat} (h : Conn (l.map flip) a b) : Conn l a b := by
  induction h with
  | refl a => exact .refl a
  | symm _ ih => exact .symm ih
  | trans _ _ ih1 ih2 => exact .trans ih1 ih2
  | @arc x y h =>
    obtain ⟨z, hz, e⟩ := List.mem_map.1 h
    have e1 : z = ((y : Int), (x : Int)) := by
      obtain ⟨p, q⟩ := z
      unfold flip at e
      injection e with e1 e2
      dsimp only at e1 e2
      rw [e1, e2]
    rw [e1] at hz
    exact .symm (.arc hz)
theorem conn_flip {l : List (Int × Int)} {a b : Nat} : Conn (l.map flip) a b ↔ Conn l a b :=
  ⟨conn_flip1, fun h => conn_flip1 (l := l.map flip) (by rw [flip_flip]; exact h)⟩
theorem bad_flips {N : Int} {l : List (Int × Int)} (hb : ∀ j, j < l.length → ¬ bad N (l.getD j (0, 0))) : ∀ j, j < (l.map flip).length → ¬ bad N ((l.map flip).getD j (0, 0)) := fun j hj h => by
  rw [List.length_map] at hj
  rw [flip_get, bad_flip] at h
  exact hb j hj h
theorem parts_flip {l : List (Int × Int)} {m : Nat} (hb : ∀ j, j < l.length → ¬ bad (m : Int) (l.getD j (0, 0))) : partsL (l.map flip) m = partsL l m := by
  obtain ⟨h1, h2⟩ := parts_least hb
  obtain ⟨k1, k2⟩ := parts_least (bad_flips hb)
  apply List.ext_getElem (k1.trans h1.symm)
  intro v p q
  obtain ⟨r, er, lr⟩ := h2 v (by rw [← h1]; exact q)
  obtain ⟨s, es, ls⟩ := k2 v (by rw [← h1]; exact q)
  have e : s = r := Least2.unique ⟨conn_flip.1 ls.con, fun w hw => ls.min w (conn_flip.2 hw)⟩ lr
  rw [List.getD, List.getElem?_eq_getElem q] at er
  rw [List.getD, List.getElem?_eq_getElem p] at es
  have er' : (partsL l m)[v] = (r : Int) := er
  have es' : (partsL (l.map flip) m)[v] = (s : Int) := es
  rw [er', es', e]
theorem addN_len (ls : List (List Int)) (a : Int × Int) : (addN ls a).length = ls.length := by
  unfold addN; split
  · rfl
  · dsimp only; rw [List.length_set, List.length_set]
theorem nbs_len (l : List (Int × Int)) (m : Nat) : ∀ k, k ≤ l.length → (nbs l k m).length = m := by
  intro k
  induction k with
  | zero => intro _; unfold nbs; simp
  | succ k ih => intro hk; rw [nbs_succ (by omega), addN_len]; exact ih (by omega)
theorem addN_mem {ls : List (List Int)} {x y : Nat} (hx : x < ls.length) (hy : y < ls.length) (j : Nat) (z : Int) : z ∈ (addN ls ((x : Int), (y : Int))).getD j [] ↔ z ∈ ls.getD j [] ∨ (x ≠ y ∧ (j = x ∧ z = (y : Int) ∨ j = y ∧ z = (x : Int))) := by
  unfold addN
  dsimp only
  by_cases e : x = y
  · rw [if_pos (by rw [e])]
    constructor
    · exact Or.inl
    · rintro (h | ⟨h, _⟩)
      · exact h
      · exact absurd e h
  · rw [if_neg (by omega), Int.toNat_natCast, Int.toNat_natCast, getD_setL _ _ _ _ (by rw [List.length_set]; exact hy), getD_setL _ _ _ _ hx, getD_setL _ _ _ _ hx]
    by_cases e1 : y = j
    · subst e1
      rw [if_pos rfl, if_neg e, List.mem_append, List.mem_singleton]
      constructor
      · rintro (h | h)
        · exact Or.inl h
        · exact Or.inr ⟨e, Or.inr ⟨rfl, h⟩⟩
      · rintro (h | ⟨_, ⟨h, _⟩ | ⟨_, h⟩⟩)
        · exact Or.inl h
        · exact absurd h.symm e
        · exact Or.inr h
    · rw [if_neg e1]
      by_cases e2 : x = j
      · subst e2
        rw [if_pos rfl, List.mem_append, List.mem_singleton]
        constructor
        · rintro (h | h)
          · exact Or.inl h
          · exact Or.inr ⟨e, Or.inl ⟨rfl, h⟩⟩
        · rintro (h | ⟨_, ⟨_, h⟩ | ⟨h, _⟩⟩)
          · exact Or.inl h
          · exact Or.inr h
          · exact absurd h e
      · rw [if_neg e2]
        constructor
        · exact Or.inl
        · rintro (h | ⟨_, ⟨h, _⟩ | ⟨h, _⟩⟩)
          · exact h
          · exact absurd h.symm e2
          · exact absurd h.symm e1
theorem nbs_flip {l : List (Int × Int)} {m : Nat} (hb : ∀ j, j < l.length → ¬ bad (m : Int) (l.getD j (0, 0))) : ∀ k, k ≤ l.length → ∀ j z, z ∈ (nbs (l.map flip) k m).getD j [] ↔ z ∈ (nbs l k m).getD j [] := by
  intro k
  induction k with
  | zero => intro _ j z; unfold nbs; simp
  | succ k ih =>
    intro hk j z
    have nb := hb k (by omega)
    rw [nbs_succ (by rw [List.length_map]; omega), nbs_succ (by omega), flip_get]
    generalize l.getD k (0, 0) = a at nb
    obtain ⟨xx, yy⟩ := a
    unfold bad at nb
    dsimp only at nb
    obtain ⟨x, rfl⟩ : ∃ x : Nat, xx = (x : Int) := ⟨xx.toNat, by omega⟩
    obtain ⟨y, rfl⟩ : ∃ y : Nat, yy = (y : Int) := ⟨yy.toNat, by omega⟩
    have e : flip ((x : Int), (y : Int)) = ((y : Int), (x : Int)) := rfl
    have l1 := nbs_len l m k (by omega); have l2 := nbs_len (l.map flip) m k (by rw [List.length_map]; omega)
    rw [e, addN_mem (by omega) (by omega), addN_mem (by omega) (by omega), ih (by omega)]
    constructor
    · rintro (h | ⟨h1, h2 | h2⟩)
      · exact Or.inl h
      · exact Or.inr ⟨fun e => h1 e.symm, Or.inr h2⟩
      · exact Or.inr ⟨fun e => h1 e.symm, Or.inl h2⟩
    · rintro (h | ⟨h1, h2 | h2⟩)
      · exact Or.inl h
      · exact Or.inr ⟨fun e => h1 e.symm, Or.inr h2⟩
      · exact Or.inr ⟨fun e => h1 e.symm, Or.inl h2⟩
theorem nb_flip_eq {l : List (Int × Int)} {m : Nat} {s t : List (List Int)} (hb : ∀ j, j < l.length → ¬ bad (m : Int) (l.getD j (0, 0))) (ls : s.length = m) (hs : ∀ j, j < m → IsSet ((nbs l l.length m).getD j []) (s.getD j []) ∧ (s.getD j []).length ≤ 1000000)
    (lt : t.length = m) (ht : ∀ j, j < m → IsSet ((nbs (l.map flip) (l.map flip).length m).getD j []) (t.getD j []) ∧ (t.getD j []).length ≤ 1000000) : t = s := by
  apply List.ext_getElem (lt.trans ls.symm)
  intro j p q
  have a := (hs j (by omega)).1; have b := (ht j (by omega)).1
  rw [List.length_map] at b
  have b' : IsSet ((nbs l l.length m).getD j []) (t.getD j []) := ⟨b.1, fun x => (b.2 x).trans (nbs_flip hb _ (Nat.le_refl _) j x)⟩
  have e := IsSet.unique b' a
  rw [List.getD, List.getElem?_eq_getElem p, List.getD, List.getElem?_eq_getElem q] at e
  exact e
theorem small_of {s : List (List Int)} {m : Nat} (hl : s.length = m) (hm : m ≤ 1048576) (h : ∀ j, j < m → (s.getD j []).length ≤ 1000000) : Small s := ⟨by omega, fun j hj => h j (by omega)⟩
theorem equal_t {w : World} {v u : Value} {l : List Int} (h : IntsAt w v l) (h' : IntsAt w u l) (hl : l.length ≤ 1000000) : Calls Try.prog 15 #[v, u] w fun e w' => e = .returned (.bool true) ∧ Below w.heap.size w w' := by
  have k := equal_b (Below.refl _ w) h h' hl hl
  have e : decide (l = l) = true := by simp
  rw [e] at k
  exact k
theorem s_keep5 {W4 W W' : World} {B0 B3 : Nat} {u v x y : Value} (h0 : B0 < W4.heap.size) (h3 : B3 < W4.heap.size) (b : Below W.heap.size W W') (h : Below W4.heap.size W4 W ∧ W.cell? ⟨B0, 0, none⟩ = some u ∧ W.cell? ⟨B0, 1, none⟩ = some v ∧ W.cell? ⟨B3, 0, none⟩ = some x ∧ W.cell? ⟨B3, 1, none⟩ = some y) :
    Below W4.heap.size W4 W' ∧ W'.cell? ⟨B0, 0, none⟩ = some u ∧ W'.cell? ⟨B0, 1, none⟩ = some v ∧ W'.cell? ⟨B3, 0, none⟩ = some x ∧ W'.cell? ⟨B3, 1, none⟩ = some y := by
  have s := h.1.size
  exact ⟨h.1.trans (b.mono s), by rw [b.cell (by show B0 < _; omega)]; exact h.2.1, by rw [b.cell (by show B0 < _; omega)]; exact h.2.2.1, by rw [b.cell (by show B3 < _; omega)]; exact h.2.2.2.1, by rw [b.cell (by show B3 < _; omega)]; exact h.2.2.2.2⟩
set_option maxRecDepth 100000 in
set_option maxHeartbeats 16000000 in
theorem graphRev_main {w : World} {m : Nat} {v : Value} {ars : List (Int × Int)} (h : ArcsAt w v ars) (hf : fewB (m : Int) ars.length = true) (hc : chk (m : Int) ars = 0) : Calls Try.prog 11 #[gv (m : Int) v] w fun e w' => e = .returned (.bool true) ∧ Below w.heap.size w w' := by
  have hl : ars.length ≤ 60 := by unfold fewB at hf; simp at hf; omega
  obtain ⟨nl, nb⟩ := chk_zero hc
  unfold long at nl
  have HM : Hid (m ≤ 1048576) := by show m ≤ _; omega
  have NB := Lib.hid nb; have HL : Hid (ars.length ≤ 4194304) := by show _ ≤ _; omega
  have hcf : chk (m : Int) (ars.map flip) = 0 := by rw [chk_flip]; exact hc
  have SG : Hid (Small (groups Prod.snd ars ars.length m)) := by have s := gOf_small Prod.snd (m : Int) hl; rw [gOf_ok hc] at s; exact s
  have PF := Lib.hid (parts_flip nb)
  have PLn : Hid ((partsL ars m).length ≤ 1000000) := by have := (parts_least nb).1; unfold fewB at hf; simp at hf; show _ ≤ _; omega
  have A0 := h
  obtain ⟨a, cap, rfl, _⟩ := h
  obtain ⟨W1, hW1⟩ : ∃ W1, w.alloc (.cells #[.int .i64 (m : Int), .slice a ars.length cap] 33) = W1 := ⟨_, rfl⟩
  obtain ⟨B0, hB0⟩ : ∃ B0, w.heap.size = B0 := ⟨_, rfl⟩
  have r1 : Row W1 B0 33 [.int .i64 (m : Int), .slice a ars.length cap] := by rw [← hW1, ← hB0]; exact Row.new _ _ _
  have b1 : Below w.heap.size w W1 := by rw [← hW1]; exact below_al _ _
  have CK := check_any (N := (m : Int)) A0
  have FW := few37_any (m : Int) ars.length cap a
  rw [hf] at FW
  have FF := Lib.hid FW
  have CC := Lib.hid (fun W (b : Below w.heap.size w W) => check_any (N := (m : Int)) (A0.below b))
  rw [hc] at CC
  have RV := Lib.hid (fun W (b : Below w.heap.size w W) => rev_any (N := (m : Int)) (A0.below b) hc (by omega))
  have A1 := Lib.hid A0
  have HC := Lib.hid hc; have HCF := Lib.hid hcf; have HL60 := Lib.hid hl
  obtain ⟨n, hn⟩ : ∃ n, ars.length = n := ⟨_, rfl⟩
  have HN := Lib.hid hn
  rw [hn] at hW1 r1 FF CC RV A1 ⊢
  have BB := Lib.hid b1; have R1 := Lib.hid r1
  have q0 := r1.cell (i := 0) rfl; have q1 := r1.cell (i := 1) rfl
  clear A0 b1 r1 FW hn hl hf hc hcf CK nl nb
  go_enter Try.func11, Try.ntmps11
  go_wp2_with fail
  refine (FF.out _).mono ?_; rintro e w2 ⟨rfl, b⟩
  have B2 := Lib.hid (BB.out.trans (b.mono BB.out.size)); have R2 := Lib.hid (R1.out.below b R1.out.lt)
  clear b q0 q1 hW1
  have q0 := R2.out.cell (i := 0) rfl; have q1 := R2.out.cell (i := 1) rfl
  go_wp2_with fail
  refine (CC.out _ B2.out).mono ?_; rintro e w3 ⟨rfl, b⟩
  have B3' := Lib.hid (B2.out.trans (b.mono B2.out.size)); have R3 := Lib.hid (R2.out.below b R2.out.lt)
  clear b q0 q1
  have q0 := R3.out.cell (i := 0) rfl; have q1 := R3.out.cell (i := 1) rfl
  go_wp2_with fail
  refine (RV.out _ B3'.out).mono ?_; rintro e w3b ⟨u, rfl, au0, b⟩
  have AU0 := Lib.hid au0
  obtain ⟨au, cu, hu⟩ : ∃ au cu, u = .slice au n cu := by obtain ⟨x, y, h, _⟩ := au0; rw [List.length_map, HN.out] at h; exact ⟨x, y, h⟩
  subst hu
  have B3b := Lib.hid (B3'.out.trans (b.mono B3'.out.size)); have R3b := Lib.hid (R3.out.below b R3.out.lt)
  clear b au0 q0 q1
  obtain ⟨B3, hB3⟩ : ∃ B3, w3b.heap.size = B3 := ⟨_, rfl⟩
  obtain ⟨W4, hW4⟩ : ∃ W4, w3b.alloc (.cells #[.int .i64 (m : Int), .slice au n cu] 33) = W4 := ⟨_, rfl⟩
  have b4 : Below w3b.heap.size w3b W4 := by rw [← hW4]; exact below_al _ _
  have r4 : Row W4 B3 33 [.int .i64 (m : Int), .slice au n cu] := by rw [← hW4, ← hB3]; exact Row.new _ _ _
  have r0 := R3b.out.below b4 R3b.out.lt
  have q0 := r0.cell (i := 0) rfl; have q1 := r0.cell (i := 1) rfl; have q2 := r4.cell (i := 0) rfl; have q3 := r4.cell (i := 1) rfl
  have L0 := Lib.hid r0.lt; have L3 := Lib.hid r4.lt
  have B4 := Lib.hid (B3b.out.trans (b4.mono B3b.out.size))
  have AV : Hid (∀ W, Below W4.heap.size W4 W → ArcsAt W (.slice a n cap) ars) := fun W b => (A1.out.below B4.out).below b
  have AF : Hid (∀ W, Below W4.heap.size W4 W → ArcsAt W (.slice au n cu) (ars.map flip)) := fun W b => (AU0.out.below b4).below b
  have C1 : Hid (∀ W, Below W4.heap.size W4 W → Calls Try.prog 35 #[gv (m : Int) (.slice au n cu)] W fun e w' => ∃ u, e = .returned (gv (m : Int) u) ∧ ArcsAt w' u ars ∧ Below W.heap.size W w') := fun W b => by
    have k := rev_any (N := (m : Int)) (AF.out W b) HCF.out (by rw [List.length_map]; exact HL.out)
    rw [flip_flip] at k; exact k
  have C2 := Lib.hid (fun W (b : Below W4.heap.size W4 W) => in_any (AV.out W b) HC.out)
  have C3 : Hid (∀ W, Below W4.heap.size W4 W → Calls Try.prog 38 #[gv (m : Int) (.slice au n cu)] W fun e w' => ∃ u, e = .returned u ∧ RowsAt w' u (groups Prod.snd ars ars.length m) ∧ Below W.heap.size W w') := fun W b => by
    have k := out_any (AF.out W b) HCF.out
    rw [groups_flip, List.length_map] at k; exact k
  have C4 := Lib.hid (fun W (b : Below W4.heap.size W4 W) => nb_any (AV.out W b) HC.out (by have := HL60.out; omega))
  have C5 := Lib.hid (fun W (b : Below W4.heap.size W4 W) => nb_any (AF.out W b) HCF.out (by rw [List.length_map]; have := HL60.out; omega))
  have C6 := Lib.hid (fun W (b : Below W4.heap.size W4 W) => parts_any (AV.out W b) HC.out)
  have C7 : Hid (∀ W, Below W4.heap.size W4 W → Calls Try.prog 44 #[gv (m : Int) (.slice au n cu)] W fun e w' => ∃ u, e = .returned u ∧ IntsAt w' u (partsL ars m) ∧ Below W.heap.size W w') := fun W b => by
    have k := parts_any (AF.out W b) HCF.out
    rw [PF.out] at k; exact k
  clear b4 r4 r0 RV FF CC
  go_wp2_with fail
  have S0 : Hid (∀ W, W = W4.drew → Below W4.heap.size W4 W ∧ W.cell? ⟨B0, 0, none⟩ = some (.int .i64 (m : Int)) ∧ W.cell? ⟨B0, 1, none⟩ = some (.slice a n cap) ∧ W.cell? ⟨B3, 0, none⟩ = some (.int .i64 (m : Int)) ∧ W.cell? ⟨B3, 1, none⟩ = some (.slice au n cu)) := by
    intro W e0; subst e0
    exact ⟨(Below.refl _ _).drew, q0, q1, q2, q3⟩
  refine wp_region_held_drew (S := fun W => Below W4.heap.size W4 W ∧ W.cell? ⟨B0, 0, none⟩ = some (.int .i64 (m : Int)) ∧ W.cell? ⟨B0, 1, none⟩ = some (.slice a n cap) ∧ W.cell? ⟨B3, 0, none⟩ = some (.int .i64 (m : Int)) ∧ W.cell? ⟨B3, 1, none⟩ = some (.slice au n cu)) (by kernel_rfl) (S0.out _ rfl) (fun hHeld => ?_)
  clear S0 q0 q1 q2 q3
  refine wpAnyH_take (i := 0) (v := ?_) rfl (by kernel_rfl) (by kernel_rfl) (by kernel_rfl) (fun _ _ _ h => h) (Or.inl ⟨by rfl, ?_⟩) (by assumption) ?_
  rotate_left 1
  · (intro w hSw; (try dsimp only at hSw); first | (go_simp; done) | (go_simp; with_reducible rfl))
  simp only [Act.put, List.getElem_toArray, List.getElem_cons_zero, List.setIfInBounds_toArray, List.set_cons_zero, List.set_cons_succ]
  refine wpAnyH_take (i := 2) (v := ?_) rfl (by kernel_rfl) (by kernel_rfl) (by kernel_rfl) (fun _ _ _ h => h) (Or.inl ⟨by rfl, ?_⟩) (by assumption) ?_
  rotate_left 1
  · (intro w hSw; (try dsimp only at hSw); first | (go_simp; done) | (go_simp; with_reducible rfl))
  simp only [Act.put, List.getElem_toArray, List.getElem_cons_zero, List.getElem_cons_succ, List.setIfInBounds_toArray, List.set_cons_zero, List.set_cons_succ]
  refine wpAnyH_ready (rs := [1]) (by kernel_rfl) (by simp) ?_
  refine AllReadyH.cons rfl (fun K hK => ?_) AllReadyH.nil
  have hS1 := Lib.hid hHeld
  go_simp
  go_wp2_with (go_at_call 35; (with_reducible refine (C1.out _ hS1.out.1).mono ?_); rintro en w5 ⟨u2, rfl, a5, b5⟩)
  have A5 := Lib.hid a5
  clear a5
  refine hK.out _ _ (s_keep5 L0.out L3.out b5 hS1.out) (fun hHeld2 => ?_)
  clear b5
  clear hK K hHeld hS1; have hHeld := hHeld2; clear hHeld2
  refine wpAnyH_ready (rs := [3]) (by kernel_rfl) (by simp) ?_
  refine AllReadyH.cons rfl (fun K hK => ?_) AllReadyH.nil
  have hS1 := Lib.hid hHeld
  go_simp
  go_wp2_with (go_at_call 34; (with_reducible refine (same_t A5.out (AV.out _ hS1.out.1) HL.out).mono ?_); rintro en w6 ⟨rfl, b6⟩)
  refine hK.out _ _ (s_keep5 L0.out L3.out b6 hS1.out) (fun hHeld2 => ?_)
  clear b6
  clear hK K hHeld hS1; have hHeld := hHeld2; clear hHeld2
  refine wpAnyH_take (i := 4) (v := ?_) rfl (by kernel_rfl) (by kernel_rfl) (by kernel_rfl) (fun _ _ _ h => h) (Or.inl ⟨by rfl, ?_⟩) (by assumption) ?_
  rotate_left 1
  · (intro w hSw; (try dsimp only at hSw); first | (go_simp; done) | (go_simp; with_reducible rfl))
  simp only [Act.put, List.getElem_toArray, List.getElem_cons_zero, List.getElem_cons_succ, List.setIfInBounds_toArray, List.set_cons_zero, List.set_cons_succ]
  refine wpAnyH_take (i := 5) (v := ?_) rfl (by kernel_rfl) (by kernel_rfl) (by kernel_rfl) (fun _ _ _ h => h) (Or.inl ⟨by rfl, ?_⟩) (by assumption) ?_
  rotate_left 1
  · (intro w hSw; (try dsimp only at hSw); first | (go_simp; done) | (go_simp; with_reducible rfl))
  simp only [Act.put, List.getElem_toArray, List.getElem_cons_zero, List.getElem_cons_succ, List.setIfInBounds_toArray, List.set_cons_zero, List.set_cons_succ]
  refine wpAnyH_take (i := 7) (v := ?_) rfl (by kernel_rfl) (by kernel_rfl) (by kernel_rfl) (fun _ _ _ h => h) (Or.inl ⟨by rfl, ?_⟩) (by assumption) ?_
  rotate_left 1
  · (intro w hSw; (try dsimp only at hSw); first | (go_simp; done) | (go_simp; with_reducible rfl))
  simp only [Act.put, List.getElem_toArray, List.getElem_cons_zero, List.getElem_cons_succ, List.setIfInBounds_toArray, List.set_cons_zero, List.set_cons_succ]
  refine wpAnyH_ready (rs := [6]) (by kernel_rfl) (by simp) ?_
  refine AllReadyH.cons rfl (fun K hK => ?_) AllReadyH.nil
  have hS1 := Lib.hid hHeld
  go_simp
  go_wp2_with (go_at_call 40; (with_reducible refine (C2.out _ hS1.out.1).mono ?_); rintro en w7 ⟨u3, rfl, a7, b7⟩)
  have A7 := Lib.hid a7
  clear a7
  refine hK.out _ _ (s_keep5 L0.out L3.out b7 hS1.out) (fun hHeld2 => ?_)
  clear b7
  clear hK K hHeld hS1; have hHeld := hHeld2; clear hHeld2
  refine wpAnyH_ready (rs := [8]) (by kernel_rfl) (by simp) ?_
  refine AllReadyH.cons rfl (fun K hK => ?_) AllReadyH.nil
  have hS1 := Lib.hid hHeld
  go_simp
  go_wp2_with (go_at_call 38; (with_reducible refine (C3.out _ hS1.out.1).mono ?_); rintro en w8 ⟨u4, rfl, a8, b8⟩)
  have A8 := Lib.hid a8
  have A7b := Lib.hid (A7.out.below b8)
  clear a8
  refine hK.out _ _ (s_keep5 L0.out L3.out b8 hS1.out) (fun hHeld2 => ?_)
  clear b8
  clear hK K hHeld hS1; have hHeld := hHeld2; clear hHeld2
  refine wpAnyH_ready (rs := [9]) (by kernel_rfl) (by simp) ?_
  refine AllReadyH.cons rfl (fun K hK => ?_) AllReadyH.nil
  have hS1 := Lib.hid hHeld
  go_simp
  go_wp2_with (go_at_call 37; (with_reducible refine (lists_t A7b.out A8.out SG.out).mono ?_); rintro en w9 ⟨rfl, b9⟩)
  refine hK.out _ _ (s_keep5 L0.out L3.out b9 hS1.out) (fun hHeld2 => ?_)
  clear b9
  clear hK K hHeld hS1; have hHeld := hHeld2; clear hHeld2
  refine wpAnyH_take (i := 10) (v := ?_) rfl (by kernel_rfl) (by kernel_rfl) (by kernel_rfl) (fun _ _ _ h => h) (Or.inl ⟨by rfl, ?_⟩) (by assumption) ?_
  rotate_left 1
  · (intro w hSw; (try dsimp only at hSw); first | (go_simp; done) | (go_simp; with_reducible rfl))
  simp only [Act.put, List.getElem_toArray, List.getElem_cons_zero, List.getElem_cons_succ, List.setIfInBounds_toArray, List.set_cons_zero, List.set_cons_succ]
  refine wpAnyH_take (i := 11) (v := ?_) rfl (by kernel_rfl) (by kernel_rfl) (by kernel_rfl) (fun _ _ _ h => h) (Or.inl ⟨by rfl, ?_⟩) (by assumption) ?_
  rotate_left 1
  · (intro w hSw; (try dsimp only at hSw); first | (go_simp; done) | (go_simp; with_reducible rfl))
  simp only [Act.put, List.getElem_toArray, List.getElem_cons_zero, List.getElem_cons_succ, List.setIfInBounds_toArray, List.set_cons_zero, List.set_cons_succ]
  refine wpAnyH_take (i := 12) (v := ?_) rfl (by kernel_rfl) (by kernel_rfl) (by kernel_rfl) (fun _ _ _ h => h) (Or.inl ⟨by rfl, ?_⟩) (by assumption) ?_
  rotate_left 1
  · (intro w hSw; (try dsimp only at hSw); first | (go_simp; done) | (go_simp; with_reducible rfl))
  simp only [Act.put, List.getElem_toArray, List.getElem_cons_zero, List.getElem_cons_succ, List.setIfInBounds_toArray, List.set_cons_zero, List.set_cons_succ]
  refine wpAnyH_take (i := 14) (v := ?_) rfl (by kernel_rfl) (by kernel_rfl) (by kernel_rfl) (fun _ _ _ h => h) (Or.inl ⟨by rfl, ?_⟩) (by assumption) ?_
  rotate_left 1
  · (intro w hSw; (try dsimp only at hSw); first | (go_simp; done) | (go_simp; with_reducible rfl))
  simp only [Act.put, List.getElem_toArray, List.getElem_cons_zero, List.getElem_cons_succ, List.setIfInBounds_toArray, List.set_cons_zero, List.set_cons_succ]
  refine wpAnyH_ready (rs := [13]) (by kernel_rfl) (by simp) ?_
  refine AllReadyH.cons rfl (fun K hK => ?_) AllReadyH.nil
  have hS1 := Lib.hid hHeld
  go_simp
  go_wp2_with (go_at_call 42; (with_reducible refine (C4.out _ hS1.out.1).mono ?_); rintro en wa ⟨u5, s5, rfl, aa, la, ha, ba⟩)
  have AA := Lib.hid aa
  have HA := Lib.hid (And.intro la ha)
  clear aa la ha
  refine hK.out _ _ (s_keep5 L0.out L3.out ba hS1.out) (fun hHeld2 => ?_)
  clear ba
  clear hK K hHeld hS1; have hHeld := hHeld2; clear hHeld2
  refine wpAnyH_ready (rs := [15]) (by kernel_rfl) (by simp) ?_
  refine AllReadyH.cons rfl (fun K hK => ?_) AllReadyH.nil
  have hS1 := Lib.hid hHeld
  go_simp
  go_wp2_with (go_at_call 42; (with_reducible refine (C5.out _ hS1.out.1).mono ?_); rintro en wb ⟨u6, s6, rfl, ab, lb, hb, bb⟩)
  have AB := Lib.hid ab
  have AAb := Lib.hid (AA.out.below bb)
  have EQ := Lib.hid (nb_flip_eq NB.out HA.out.1 HA.out.2 lb hb)
  have AB2 : Hid (RowsAt wb u6 s5) := by have h := AB.out; rw [EQ.out] at h; exact h
  clear ab lb hb
  refine hK.out _ _ (s_keep5 L0.out L3.out bb hS1.out) (fun hHeld2 => ?_)
  clear bb
  clear hK K hHeld hS1; have hHeld := hHeld2; clear hHeld2
  refine wpAnyH_ready (rs := [16]) (by kernel_rfl) (by simp) ?_
  refine AllReadyH.cons rfl (fun K hK => ?_) AllReadyH.nil
  have hS1 := Lib.hid hHeld
  go_simp
  go_wp2_with (go_at_call 37; (with_reducible refine (lists_t AAb.out AB2.out (small_of HA.out.1 HM.out (fun j hj => (HA.out.2 j hj).2))).mono ?_); rintro en wc ⟨rfl, bc⟩)
  refine hK.out _ _ (s_keep5 L0.out L3.out bc hS1.out) (fun hHeld2 => ?_)
  clear bc
  clear hK K hHeld hS1; have hHeld := hHeld2; clear hHeld2
  refine wpAnyH_take (i := 17) (v := ?_) rfl (by kernel_rfl) (by kernel_rfl) (by kernel_rfl) (fun _ _ _ h => h) (Or.inl ⟨by rfl, ?_⟩) (by assumption) ?_
  rotate_left 1
  · (intro w hSw; (try dsimp only at hSw); first | (go_simp; done) | (go_simp; with_reducible rfl))
  simp only [Act.put, List.getElem_toArray, List.getElem_cons_zero, List.getElem_cons_succ, List.setIfInBounds_toArray, List.set_cons_zero, List.set_cons_succ]
  refine wpAnyH_take (i := 18) (v := ?_) rfl (by kernel_rfl) (by kernel_rfl) (by kernel_rfl) (fun _ _ _ h => h) (Or.inl ⟨by rfl, ?_⟩) (by assumption) ?_
  rotate_left 1
  · (intro w hSw; (try dsimp only at hSw); first | (go_simp; done) | (go_simp; with_reducible rfl))
  simp only [Act.put, List.getElem_toArray, List.getElem_cons_zero, List.getElem_cons_succ, List.setIfInBounds_toArray, List.set_cons_zero, List.set_cons_succ]
  refine wpAnyH_take (i := 19) (v := ?_) rfl (by kernel_rfl) (by kernel_rfl) (by kernel_rfl) (fun _ _ _ h => h) (Or.inl ⟨by rfl, ?_⟩) (by assumption) ?_
  rotate_left 1
  · (intro w hSw; (try dsimp only at hSw); first | (go_simp; done) | (go_simp; with_reducible rfl))
  simp only [Act.put, List.getElem_toArray, List.getElem_cons_zero, List.getElem_cons_succ, List.setIfInBounds_toArray, List.set_cons_zero, List.set_cons_succ]
  refine wpAnyH_take (i := 21) (v := ?_) rfl (by kernel_rfl) (by kernel_rfl) (by kernel_rfl) (fun _ _ _ h => h) (Or.inl ⟨by rfl, ?_⟩) (by assumption) ?_
  rotate_left 1
  · (intro w hSw; (try dsimp only at hSw); first | (go_simp; done) | (go_simp; with_reducible rfl))
  simp only [Act.put, List.getElem_toArray, List.getElem_cons_zero, List.getElem_cons_succ, List.setIfInBounds_toArray, List.set_cons_zero, List.set_cons_succ]
  refine wpAnyH_ready (rs := [20]) (by kernel_rfl) (by simp) ?_
  refine AllReadyH.cons rfl (fun K hK => ?_) AllReadyH.nil
  have hS1 := Lib.hid hHeld
  go_simp
  go_wp2_with (go_at_call 44; (with_reducible refine (C6.out _ hS1.out.1).mono ?_); rintro en wd ⟨u7, rfl, ad, bd⟩)
  have AD := Lib.hid ad
  clear ad
  refine hK.out _ _ (s_keep5 L0.out L3.out bd hS1.out) (fun hHeld2 => ?_)
  clear bd
  clear hK K hHeld hS1; have hHeld := hHeld2; clear hHeld2
  refine wpAnyH_ready (rs := [22]) (by kernel_rfl) (by simp) ?_
  refine AllReadyH.cons rfl (fun K hK => ?_) AllReadyH.nil
  have hS1 := Lib.hid hHeld
  go_simp
  go_wp2_with (go_at_call 44; (with_reducible refine (C7.out _ hS1.out.1).mono ?_); rintro en we ⟨u8, rfl, ae, be⟩)
  have AE := Lib.hid ae
  have ADb := Lib.hid (AD.out.below be)
  clear ae
  refine hK.out _ _ (s_keep5 L0.out L3.out be hS1.out) (fun hHeld2 => ?_)
  clear be
  clear hK K hHeld hS1; have hHeld := hHeld2; clear hHeld2
  refine wpAnyH_ready (rs := [23]) (by kernel_rfl) (by simp) ?_
  refine AllReadyH.cons rfl (fun K hK => ?_) AllReadyH.nil
  have hS1 := Lib.hid hHeld
  go_simp
  go_wp2_with (go_at_call 15; (with_reducible refine (equal_t ADb.out AE.out PLn.out).mono ?_); rintro en wf ⟨rfl, bf⟩)
  refine hK.out _ _ (s_keep5 L0.out L3.out bf hS1.out) (fun hHeld2 => ?_)
  clear bf
  clear hK K hHeld hS1; have hHeld := hHeld2; clear hHeld2
  refine wpAnyH_take (i := 24) (v := ?_) rfl (by kernel_rfl) (by kernel_rfl) (by kernel_rfl) (fun _ _ _ h => h) (Or.inl ⟨by rfl, ?_⟩) (by assumption) ?_
  rotate_left 1
  · (intro w hSw; (try dsimp only at hSw); first | (go_simp; done) | (go_simp; with_reducible rfl))
  simp only [Act.put, List.getElem_toArray, List.getElem_cons_zero, List.getElem_cons_succ, List.setIfInBounds_toArray, List.set_cons_zero, List.set_cons_succ]
  refine wpAnyH_take (i := 25) (v := ?_) rfl (by kernel_rfl) (by kernel_rfl) (by kernel_rfl) (fun _ _ _ h => h) (Or.inl ⟨by rfl, ?_⟩) (by assumption) ?_
  rotate_left 1
  · (intro w hSw; (try dsimp only at hSw); first | (go_simp; done) | (go_simp; with_reducible rfl))
  simp only [Act.put, List.getElem_toArray, List.getElem_cons_zero, List.getElem_cons_succ, List.setIfInBounds_toArray, List.set_cons_zero, List.set_cons_succ]
  refine wpAnyH_ready (rs := [26]) (by kernel_rfl) (by simp) ?_
  refine AllReadyH.cons rfl (fun K hK => ?_) AllReadyH.nil
  have hS1 := Lib.hid hHeld
  go_simp
  go_wp2_with (go_at_call 31; (with_reducible refine (lives37_any _).mono ?_); rintro en wg ⟨rfl, bg⟩)
  refine hK.out _ _ (s_keep5 L0.out L3.out bg hS1.out) (fun hHeld2 => ?_)
  clear bg
  clear hK K hHeld hS1; have hHeld := hHeld2; clear hHeld2
  refine wpAnyH_take (i := 27) (v := ?_) rfl (by kernel_rfl) (by kernel_rfl) (by kernel_rfl) (fun _ _ _ h => h) (Or.inl ⟨by rfl, ?_⟩) (by assumption) ?_
  rotate_left 1
  · (intro w hSw; (try dsimp only at hSw); first | (go_simp; done) | (go_simp; with_reducible rfl))
  simp only [Act.put, List.getElem_toArray, List.getElem_cons_zero, List.getElem_cons_succ, List.setIfInBounds_toArray, List.set_cons_zero, List.set_cons_succ]
  refine wpAnyH_take (i := 28) (v := ?_) rfl (by kernel_rfl) (by kernel_rfl) (by kernel_rfl) (fun _ _ _ h => h) (Or.inl ⟨by rfl, ?_⟩) (by assumption) ?_
  rotate_left 1
  · (intro w hSw; (try dsimp only at hSw); first | (go_simp; done) | (go_simp; with_reducible rfl))
  simp only [Act.put, List.getElem_toArray, List.getElem_cons_zero, List.getElem_cons_succ, List.setIfInBounds_toArray, List.set_cons_zero, List.set_cons_succ]
  have FB := Lib.hid (B4.out.trans (hHeld.1.mono B4.out.size))
  refine wpAnyH_done (by kernel_rfl) ?_ _
  clear hHeld
  go_wp2_with fail
  go_ret
  exact ⟨rfl, FB.out⟩
theorem graphRev_bad {w : World} {N : Int} {v : Value} {ars : List (Int × Int)} (h : ArcsAt w v ars) (hf : fewB N ars.length = true) (hc : chk N ars ≠ 0) : Calls Try.prog 11 #[gv N v] w fun e w' => e = .returned (.bool true) ∧ Below w.heap.size w w' := by
  have A0 := h
  obtain ⟨a, cap, rfl, _⟩ := h
  obtain ⟨W1, hW1⟩ : ∃ W1, w.alloc (.cells #[.int .i64 N, .slice a ars.length cap] 33) = W1 := ⟨_, rfl⟩
  have r1 : Row W1 w.heap.size 33 [.int .i64 N, .slice a ars.length cap] := by rw [← hW1]; exact Row.new _ _ _
  have b1 : Below w.heap.size w W1 := by rw [← hW1]; exact below_al _ _
  have FW := few37_any N ars.length cap a
  rw [hf] at FW
  have CC := Lib.hid (fun W (b : Below w.heap.size w W) => check_any (N := N) (A0.below b))
  obtain ⟨n, hn⟩ : ∃ n, ars.length = n := ⟨_, rfl⟩
  obtain ⟨c, hcc⟩ : ∃ c, chk N ars = c := ⟨_, rfl⟩
  rw [hn] at hW1 r1 FW CC ⊢
  rw [hcc] at CC hc
  have c1 : (c == 0) = false := by simpa using hc
  have FF := Lib.hid FW; have BB := Lib.hid b1; have R1 := Lib.hid r1
  have q0 := r1.cell (i := 0) rfl; have q1 := r1.cell (i := 1) rfl
  clear FW b1 r1 hf A0 hn hcc hc
  go_enter Try.func11, Try.ntmps11
  go_wp2_with fail
  refine (FF.out _).mono ?_; rintro e w2 ⟨rfl, b⟩
  have B2 := Lib.hid (BB.out.trans (b.mono BB.out.size)); have R2 := Lib.hid (R1.out.below b R1.out.lt)
  clear b q0 q1 hW1
  have q0 := R2.out.cell (i := 0) rfl; have q1 := R2.out.cell (i := 1) rfl
  go_wp2_with fail
  refine (CC.out _ B2.out).mono ?_; rintro e w3 ⟨rfl, b⟩
  have B3 := Lib.hid (B2.out.trans (b.mono B2.out.size))
  clear b
  go_wp2_with fail
  refine (lives37_any _).mono ?_; rintro e w4 ⟨rfl, b⟩
  have B4 := Lib.hid (B3.out.trans (b.mono B3.out.size))
  clear b
  go_wp2_with fail
  go_ret
  exact ⟨rfl, B4.out⟩
theorem graphRev_many {w : World} {N : Int} {a : Option Addr} {n cap : Nat} (hf : fewB N n = false) : Calls Try.prog 11 #[gv N (.slice a n cap)] w fun e w' => e = .returned (.bool true) ∧ Below w.heap.size w w' := by
  obtain ⟨W1, hW1⟩ : ∃ W1, w.alloc (.cells #[.int .i64 N, .slice a n cap] 33) = W1 := ⟨_, rfl⟩
  have r1 : Row W1 w.heap.size 33 [.int .i64 N, .slice a n cap] := by rw [← hW1]; exact Row.new _ _ _
  have b1 : Below w.heap.size w W1 := by rw [← hW1]; exact below_al _ _
  have FW := few37_any N n cap a
  rw [hf] at FW
  have FF := Lib.hid FW; have BB := Lib.hid b1
  have q0 := r1.cell (i := 0) rfl; have q1 := r1.cell (i := 1) rfl
  clear FW b1 r1 hf
  go_enter Try.func11, Try.ntmps11
  go_wp2_with fail
  refine (FF.out _).mono ?_; rintro e w3 ⟨rfl, b⟩
  have B3 := Lib.hid (BB.out.trans (b.mono BB.out.size))
  clear b
  go_wp2_with fail
  refine (lives37_any _).mono ?_; rintro e w4 ⟨rfl, b⟩
  have B4 := Lib.hid (B3.out.trans (b.mono B3.out.size))
  clear b
  go_wp2_with fail
  go_ret
  exact ⟨rfl, B4.out⟩
abbrev graphReverses_zero0 : Value := gv 0 nilV
theorem graphReverses_open0 {H : Type} {enc : TypeId × Value → H} {W : World} {base b0 : Nat} {spare : Nat → Bool} {held : Bool} {r : Reach} {v : Value} {d : DataW H} {p : List MemPlace}
    (hv : Value.okWide Try.prog W r b0 33 v) (h : DataW.Trod enc Try.prog W base spare held 33 v d p) : IsG W v := graph_open hv h
theorem graphReverses_walk (v : Value) (w : World) (h : IsG w v) : Calls Try.prog 11 #[v] w fun e w' => e = .returned (.bool true) ∧ Below w.heap.size w w' := by
  obtain ⟨N, u, ars, rfl, ha⟩ := h
  by_cases hf : fewB N ars.length = true
  · by_cases hc : chk N ars = 0
    · obtain ⟨m, rfl⟩ := chk_nat hc
      exact graphRev_main ha hf hc
    · exact graphRev_bad ha hf hc
  · obtain ⟨a, cap, rfl, _⟩ := ha
    exact graphRev_many (by simpa using hf)
end Go.Proofs.Ythfecllgkldgfaa
