/- cmds: the reader's step from any point; rows of points of the call's own; what is left of a row of ints. -/
import Derived.Test.YthlbenldgnjgcaaDoorKq
namespace Go.Proofs.YthlbenldgnjgcaaDoor
open Go.ChangeShapes Go.WideShapes Go.ChangeAt Go.RowKit Go.Joins Go.Deep

set_option maxRecDepth 100000 in
set_option maxHeartbeats 4000000 in
theorem step_all {w : World} {B : Nat} {a : Option Addr} {n cap : Nat} {x y dx dy X Y : Int} (h : Rdr w B (.slice a n cap) (x, y)) (h0 : 0 ≤ dx ∧ dx ≤ 9223372036854775807) (h1 : 0 ≤ dy ∧ dy ≤ 9223372036854775807) (hm : mv (x, y) dx dy = (X, Y)) :
    Calls Tryd.prog 31 #[qp B, .int .i64 dx, .int .i64 dy] w fun e w' => e = .returned (.bool (decide (inE (X, Y)))) ∧ Below ((w.setCell ⟨B, 1, none⟩ (.int .i64 X)).setCell ⟨B, 2, none⟩ (.int .i64 Y)).heap.size ((w.setCell ⟨B, 1, none⟩ (.int .i64 X)).setCell ⟨B, 2, none⟩ (.int .i64 Y)) w' := by
  have U0 := Lib.hid (fun W => uz_any dx h0.1 h0.2 W); have U1 := Lib.hid (fun W => uz_any dy h1.1 h1.2 W)
  have n0 : ¬ dx < 0 := by omega
  have n1 : ¬ dy < 0 := by omega
  unfold mv at hm
  obtain ⟨u, hu⟩ : ∃ u, uz dx = u := ⟨_, rfl⟩
  obtain ⟨v, hv⟩ : ∃ v, uz dy = v := ⟨_, rfl⟩
  rw [hu] at U0 hm; rw [hv] at U1 hm
  injection hm with e1 e2
  dsimp only at e1 e2
  obtain ⟨W1, hW1⟩ : ∃ W1, (w.setCell ⟨B, 1, none⟩ (.int .i64 X)).setCell ⟨B, 2, none⟩ (.int .i64 Y) = W1 := ⟨_, rfl⟩
  have r1 : Row W1 B 56 [.slice a n cap, .int .i64 X, .int .i64 Y] := by rw [← hW1]; exact (h.set (i := 1) _).set (i := 2) _
  have c1 := h.cell (i := 1) rfl; have c2 := h.cell (i := 2) rfl; have f1 := h.fr (i := 1); have f2 := h.fr (i := 2)
  have d1 := r1.cell (i := 1) rfl; have d2 := r1.cell (i := 2) rfl
  have IN := Lib.hid (inExtent_any X Y)
  rw [hW1]
  have HU := Lib.hid hu; have HV := Lib.hid hv
  clear h r1 h0 h1 hu hv
  go_enter Tryd.func31, Tryd.ntmps31
  go_wp2_with fail
  refine wp_region_drop (fun W => W.cell? ⟨B, 1, none⟩ = some (.int .i64 x) ∧ W.cell? ⟨B, 2, none⟩ = some (.int .i64 y)) 20 (by kernel_rfl) ⟨c1, c2⟩ (fun hHeld => ?_)
  refine wpAnyD_pure (i := 0) (v := ?_) rfl (by kernel_rfl) (by kernel_rfl) (by kernel_rfl) (by rfl) (fun _ _ _ h => h) (Or.inl ⟨by rfl, ?_⟩) (by assumption) ?_
  rotate_left 1
  · (intro w; first | (go_simp; done) | (go_simp; with_reducible rfl))
  simp only [Act.put, List.getElem_toArray, List.getElem_cons_zero, List.setIfInBounds_toArray, List.set_cons_zero, List.set_cons_succ]
  refine wpAnyD_pure (i := 1) (v := ?_) rfl (by kernel_rfl) (by kernel_rfl) (by kernel_rfl) (by rfl) (fun _ _ _ h => h) (Or.inl ⟨by rfl, ?_⟩) (by assumption) ?_
  rotate_left 1
  · (intro w; first | (go_simp; done) | (go_simp; with_reducible rfl))
  simp only [Act.put, List.getElem_toArray, List.getElem_cons_zero, List.getElem_cons_succ, List.setIfInBounds_toArray, List.set_cons_zero, List.set_cons_succ]
  refine wpAnyD_pure (i := 2) (v := ?_) rfl (by kernel_rfl) (by kernel_rfl) (by kernel_rfl) (by rfl) (fun _ _ _ h => h) (Or.inl ⟨by rfl, ?_⟩) (by assumption) ?_
  rotate_left 1
  · (intro w; first | (go_simp; done) | (go_simp; with_reducible rfl))
  simp only [Act.put, List.getElem_toArray, List.getElem_cons_zero, List.getElem_cons_succ, List.setIfInBounds_toArray, List.set_cons_zero, List.set_cons_succ]
  refine wpAnyD_pure (i := 3) (v := ?_) rfl (by kernel_rfl) (by kernel_rfl) (by kernel_rfl) (by rfl) (fun _ _ _ h => h) (Or.inl ⟨by rfl, ?_⟩) (by assumption) ?_
  rotate_left 1
  · (intro w; first | (go_simp; done) | (go_simp; with_reducible rfl))
  simp only [Act.put, List.getElem_toArray, List.getElem_cons_zero, List.getElem_cons_succ, List.setIfInBounds_toArray, List.set_cons_zero, List.set_cons_succ]
  refine wpAnyD_pure (i := 4) (v := ?_) rfl (by kernel_rfl) (by kernel_rfl) (by kernel_rfl) (by rfl) (fun _ _ _ h => h) (Or.inl ⟨by rfl, ?_⟩) (by assumption) ?_
  rotate_left 1
  · (intro w; first | (go_simp; done) | (go_simp; with_reducible rfl))
  simp only [Act.put, List.getElem_toArray, List.getElem_cons_zero, List.getElem_cons_succ, List.setIfInBounds_toArray, List.set_cons_zero, List.set_cons_succ]
  refine wpAnyD_take (i := 5) (v := ?_) rfl (by kernel_rfl) (by kernel_rfl) (by kernel_rfl) (by kernel_rfl) (fun _ _ _ h => h) (Or.inl ⟨by rfl, ?_⟩) (by assumption) ?_
  rotate_left 1
  · (intro w hSw; (try dsimp only at hSw); first | (go_simp; done) | (go_simp; with_reducible rfl))
  simp only [Act.put, List.getElem_toArray, List.getElem_cons_zero, List.getElem_cons_succ, List.setIfInBounds_toArray, List.set_cons_zero, List.set_cons_succ]
  refine wpAnyD_pure (i := 6) (v := ?_) rfl (by kernel_rfl) (by kernel_rfl) (by kernel_rfl) (by rfl) (fun _ _ _ h => h) (Or.inl ⟨by rfl, ?_⟩) (by assumption) ?_
  rotate_left 1
  · (intro w; first | (go_simp; done) | (go_simp; with_reducible rfl))
  simp only [Act.put, List.getElem_toArray, List.getElem_cons_zero, List.getElem_cons_succ, List.setIfInBounds_toArray, List.set_cons_zero, List.set_cons_succ]
  refine wpAnyD_pure (i := 9) (v := ?_) rfl (by kernel_rfl) (by kernel_rfl) (by kernel_rfl) (by rfl) (fun _ _ _ h => h) (Or.inl ⟨by rfl, ?_⟩) (by assumption) ?_
  rotate_left 1
  · (intro w; first | (go_simp; done) | (go_simp; with_reducible rfl))
  simp only [Act.put, List.getElem_toArray, List.getElem_cons_zero, List.getElem_cons_succ, List.setIfInBounds_toArray, List.set_cons_zero, List.set_cons_succ]
  refine wpAnyD_pure (i := 10) (v := ?_) rfl (by kernel_rfl) (by kernel_rfl) (by kernel_rfl) (by rfl) (fun _ _ _ h => h) (Or.inl ⟨by rfl, ?_⟩) (by assumption) ?_
  rotate_left 1
  · (intro w; first | (go_simp; done) | (go_simp; with_reducible rfl))
  simp only [Act.put, List.getElem_toArray, List.getElem_cons_zero, List.getElem_cons_succ, List.setIfInBounds_toArray, List.set_cons_zero, List.set_cons_succ]
  refine wpAnyD_pure (i := 11) (v := ?_) rfl (by kernel_rfl) (by kernel_rfl) (by kernel_rfl) (by rfl) (fun _ _ _ h => h) (Or.inl ⟨by rfl, ?_⟩) (by assumption) ?_
  rotate_left 1
  · (intro w; first | (go_simp; done) | (go_simp; with_reducible rfl))
  simp only [Act.put, List.getElem_toArray, List.getElem_cons_zero, List.getElem_cons_succ, List.setIfInBounds_toArray, List.set_cons_zero, List.set_cons_succ]
  refine wpAnyD_pure (i := 12) (v := ?_) rfl (by kernel_rfl) (by kernel_rfl) (by kernel_rfl) (by rfl) (fun _ _ _ h => h) (Or.inl ⟨by rfl, ?_⟩) (by assumption) ?_
  rotate_left 1
  · (intro w; first | (go_simp; done) | (go_simp; with_reducible rfl))
  simp only [Act.put, List.getElem_toArray, List.getElem_cons_zero, List.getElem_cons_succ, List.setIfInBounds_toArray, List.set_cons_zero, List.set_cons_succ]
  refine wpAnyD_take (i := 13) (v := ?_) rfl (by kernel_rfl) (by kernel_rfl) (by kernel_rfl) (by kernel_rfl) (fun _ _ _ h => h) (Or.inl ⟨by rfl, ?_⟩) (by assumption) ?_
  rotate_left 1
  · (intro w hSw; (try dsimp only at hSw); first | (go_simp; done) | (go_simp; with_reducible rfl))
  simp only [Act.put, List.getElem_toArray, List.getElem_cons_zero, List.getElem_cons_succ, List.setIfInBounds_toArray, List.set_cons_zero, List.set_cons_succ]
  refine wpAnyD_pure (i := 14) (v := ?_) rfl (by kernel_rfl) (by kernel_rfl) (by kernel_rfl) (by rfl) (fun _ _ _ h => h) (Or.inl ⟨by rfl, ?_⟩) (by assumption) ?_
  rotate_left 1
  · (intro w; first | (go_simp; done) | (go_simp; with_reducible rfl))
  simp only [Act.put, List.getElem_toArray, List.getElem_cons_zero, List.getElem_cons_succ, List.setIfInBounds_toArray, List.set_cons_zero, List.set_cons_succ]
  refine wpAnyD_one (i := 7) (by decide +kernel) (by decide) rfl (fun K hK => ?_)
  go_simp
  go_wp2_with (go_at_call 33; (with_reducible refine (U0.out _).mono ?_); rintro en w8 ⟨rfl, rfl⟩)
  refine hK.out _ _ hHeld (fun _ => ?_)
  clear hK K
  refine wpAnyD_pure (i := 8) (v := ?_) rfl (by kernel_rfl) (by kernel_rfl) (by kernel_rfl) (by rfl) (fun _ _ _ h => h) (Or.inl ⟨by rfl, ?_⟩) (by assumption) ?_
  rotate_left 1
  · (intro w; first | (go_simp; done) | (go_simp; with_reducible rfl))
  simp only [Act.put, List.getElem_toArray, List.getElem_cons_zero, List.getElem_cons_succ, List.setIfInBounds_toArray, List.set_cons_zero, List.set_cons_succ]
  refine wpAnyD_one (i := 15) (by decide +kernel) (by decide) rfl (fun K hK => ?_)
  go_simp
  go_wp2_with (go_at_call 33; (with_reducible refine (U1.out _).mono ?_); rintro en w8 ⟨rfl, rfl⟩)
  refine hK.out _ _ hHeld (fun _ => ?_)
  clear hK K
  refine wpAnyD_pure (i := 16) (v := ?_) rfl (by kernel_rfl) (by kernel_rfl) (by kernel_rfl) (by rfl) (fun _ _ _ h => h) (Or.inl ⟨by rfl, ?_⟩) (by assumption) ?_
  rotate_left 1
  · (intro w; first | (go_simp; done) | (go_simp; with_reducible rfl))
  simp only [Act.put, List.getElem_toArray, List.getElem_cons_zero, List.getElem_cons_succ, List.setIfInBounds_toArray, List.set_cons_zero, List.set_cons_succ]
  refine wpAnyD_pure (i := 17) (v := ?_) rfl (by kernel_rfl) (by kernel_rfl) (by kernel_rfl) (by rfl) (fun _ _ _ h => h) (Or.inl ⟨by rfl, ?_⟩) (by assumption) ?_
  rotate_left 1
  · (intro w; first | (go_simp; done) | (go_simp; with_reducible rfl))
  simp only [Act.put, List.getElem_toArray, List.getElem_cons_zero, List.getElem_cons_succ, List.setIfInBounds_toArray, List.set_cons_zero, List.set_cons_succ]
  refine wpAnyD_pure (i := 18) (v := ?_) rfl (by kernel_rfl) (by kernel_rfl) (by kernel_rfl) (by rfl) (fun _ _ _ h => h) (Or.inl ⟨by rfl, ?_⟩) (by assumption) ?_
  rotate_left 1
  · (intro w; first | (go_simp; done) | (go_simp; with_reducible rfl))
  simp only [Act.put, List.getElem_toArray, List.getElem_cons_zero, List.getElem_cons_succ, List.setIfInBounds_toArray, List.set_cons_zero, List.set_cons_succ]
  refine wpAnyD_pure (i := 19) (v := ?_) rfl (by kernel_rfl) (by kernel_rfl) (by kernel_rfl) (by rfl) (fun _ _ _ h => h) (Or.inl ⟨by rfl, ?_⟩) (by assumption) ?_
  rotate_left 1
  · (intro w; first | (go_simp; done) | (go_simp; with_reducible rfl))
  simp only [Act.put, List.getElem_toArray, List.getElem_cons_zero, List.getElem_cons_succ, List.setIfInBounds_toArray, List.set_cons_zero, List.set_cons_succ]
  clear hHeld
  refine wpAnyD_drop (by kernel_rfl) rfl (fun K hK => ?_)
  go_simp
  refine hK.out _ _ ?_
  clear hK K
  refine wpAny_done (by kernel_rfl) ?_ _
  have IN2 := Lib.hid (inExtent_any X Y W1.drew)
  clear c1 c2 f1 f2
  go_wp2_with fail
  refine IN2.out.mono ?_; rintro e w8 ⟨rfl, b8⟩
  have B8 : Hid (Below W1.heap.size W1 w8) := (Below.drew (Below.refl _ W1)).trans b8
  clear b8
  go_wp2_with fail
  go_ret
  exact ⟨rfl, B8.out⟩
/- the cells of a row of points -/
def pcs : List Pt → List Value
  | [] => []
  | a :: l => .int .i64 a.1 :: .int .i64 a.2 :: pcs l
theorem pcs_len : ∀ l : List Pt, (pcs l).length = l.length * 2
  | [] => rfl
  | a :: l => by rw [pcs, List.length_cons, List.length_cons, pcs_len l, List.length_cons]; omega
theorem pcs_append : ∀ l m : List Pt, pcs (l ++ m) = pcs l ++ pcs m
  | [], m => rfl
  | a :: l, m => by rw [List.cons_append, pcs, pcs, pcs_append l m]; rfl
theorem pcs_get : ∀ (l : List Pt) (i : Nat), i < l.length → (pcs l)[i * 2]? = some (.int .i64 (l.getD i (0, 0)).1) ∧ (pcs l)[i * 2 + 1]? = some (.int .i64 (l.getD i (0, 0)).2)
  | a :: l, 0, _ => ⟨rfl, rfl⟩
  | a :: l, i + 1, h => by
    have ih := pcs_get l i (by simpa using h)
    have e1 : (i + 1) * 2 = i * 2 + 1 + 1 := by omega
    rw [e1, pcs]
    simp only [List.getElem?_cons_succ, List.getD_cons_succ]
    exact ih
theorem pcs_one (l : List Pt) : ∀ v ∈ pcs l, v.oneCell' = true := by
  induction l with
  | nil => intro v hv; cases hv
  | cons a l ih =>
    intro v hv
    rcases List.mem_cons.1 hv with rfl | hv
    · rfl
    · rcases List.mem_cons.1 hv with rfl | hv
      · rfl
      · exact ih v hv
/- a row of points of the call's own -/
abbrev POwn (w : World) (base : Nat) (v : Value) (l : List Pt) : Prop := w.ownsRow base 44 2 v l.length (pcs l)
theorem POwn.at_ {w : World} {base : Nat} {v : Value} {l : List Pt} (h : POwn w base v l) : PtsAt w v l := by
  rcases h.2 with ⟨rfl, h0⟩ | ⟨g, cap, cur, rfl, _, hg, h1, h2, h3, h4⟩
  · rw [List.eq_nil_of_length_eq_zero h0]; exact ⟨none, 0, rfl, Nat.le_refl _, fun _ => ⟨rfl, rfl⟩, Or.inl rfl⟩
  · refine ⟨_, cap, rfl, h1, fun e => (by cases e), ?_⟩
    by_cases hz : l = []
    · exact Or.inl hz
    · right
      refine ⟨g, 0, rfl, ?_, fun j hj => ?_⟩
      · by_cases hl : g < w.heap.size
        · exact hl
        · rw [Array.getElem?_eq_none (Nat.le_of_not_lt hl)] at hg; cases hg
      · obtain ⟨a1, a2⟩ := pcs_get l j hj
        rw [← h4, List.getElem?_take, if_pos (by omega)] at a1 a2
        refine ⟨?_, ?_⟩
        · unfold World.cell?; rw [hg]; simpa using a1
        · unfold World.cell?; rw [hg]; simpa using a2
theorem POwn.form {w : World} {base : Nat} {v : Value} {l : List Pt} (h : POwn w base v l) : ∃ a cap, v = .slice a l.length cap := by
  rcases h.2 with ⟨rfl, h0⟩ | ⟨g, cap, cur, rfl, _⟩
  · rw [h0]; exact ⟨none, 0, rfl⟩
  · exact ⟨_, cap, rfl⟩
theorem POwn.same {w W : World} {base : Nat} {v : Value} {l : List Pt} (h : POwn w base v l) (e : ∀ g, v.ownBlock = some g → W.heap[g]? = w.heap[g]?) : POwn W base v l := by
  refine ⟨h.1, ?_⟩
  rcases h.2 with h0 | ⟨g, cap, cur, rfl, h2, hg, h3⟩
  · exact Or.inl h0
  · exact Or.inr ⟨g, cap, cur, rfl, h2, by rw [e g rfl]; exact hg, h3⟩
theorem POwn.keep {w W : World} {base : Nat} {v : Value} {l : List Pt} (h : POwn w base v l) (b : Below w.heap.size w W) : POwn W base v l :=
  h.same (fun g e => b.block g (World.ownsRow.lt h g e).2)
theorem POwn.mono {w : World} {base c : Nat} {v : Value} {l : List Pt} (h : POwn w base v l) (hc : c ≤ base) : POwn w c v l := by
  refine ⟨h.1, ?_⟩
  rcases h.2 with h0 | ⟨g, cap, cur, rfl, h2, h3⟩
  · exact Or.inl h0
  · exact Or.inr ⟨g, cap, cur, rfl, by omega, h3⟩
theorem pown_add {w : World} {base m q : Nat} {v : Value} {out xs : List Pt} (hm : out.length = m) (hq : xs.length = q) (h : w.ownsRow base 44 2 v (m + q) (pcs out ++ pcs xs)) : POwn w base v (out ++ xs) := by
  show w.ownsRow base 44 2 v (out ++ xs).length (pcs (out ++ xs))
  rw [pcs_append, List.length_append, hm, hq]; exact h
theorem two_new (w : World) (x y : Value) (t : TypeId) : ∀ j u, [x, y][j]? = some u → (w.alloc (.cells #[x, y] t)).cell? ((⟨w.heap.size, 0, none⟩ : Addr).add j) = some u := by
  intro j u hj
  match j, hj with
  | 0, hj => simp at hj; subst hj; simp [Addr.add]
  | 1, hj => simp at hj; subst hj; simp [Addr.add]
/- what is left of a row of ints behind c of them -/
def cutV (b off n cap c : Nat) : Value := .slice (some ⟨b, if cap = c then off else off + c, none⟩) (n - c) (cap - c)
theorem IntsAt.cut {w : World} {b off n cap c : Nat} {l : List Int} (h : IntsAt w (.slice (some ⟨b, off, none⟩) n cap) l) (hc : c ≤ n) : IntsAt w (cutV b off n cap c) (l.drop c) := by
  obtain ⟨a', cap', e, hq, h2⟩ := h
  injection e with e1 e2 e3
  subst e1; subst e3
  have hl : (l.drop c).length = n - c := by rw [List.length_drop]; omega
  refine ⟨_, _, by rw [hl]; rfl, by rw [hl]; omega, ?_⟩
  by_cases hz : n = c
  · left; apply List.eq_nil_of_length_eq_zero; omega
  · right
    rcases h2 with h2 | ⟨b', off', e, hb, hcell⟩
    · rw [h2] at e2; simp at e2; omega
    · injection e with e; injection e with e4 e5
      subst e4; subst e5
      refine ⟨b, off + c, ?_, hb, fun j hj => ?_⟩
      · rw [if_neg (by omega)]
      · have := hcell (j + c) (by omega)
        rw [show off + c + j = off + (j + c) by omega, this]
        rw [List.getD, List.getD, List.getElem?_drop, Nat.add_comm c j]
end Go.Proofs.YthlbenldgnjgcaaDoor
