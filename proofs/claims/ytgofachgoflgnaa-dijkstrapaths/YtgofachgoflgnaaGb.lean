/- graph: few, sameArcs, a clone of arcs. -/
import Derived.Test.YtgofachgoflgnaaGa
import Derived.OwnWalk
import Derived.Maps.AppendAt
namespace Go.Proofs.Ytgofachgoflgnaa
open Go.ChangeShapes Go.WideShapes Go.ChangeAt Go.RowKit Go.Joins Go.Deep

/- the cells of a row of arcs -/
def acs : List (Int × Int) → List Value
  | [] => []
  | a :: l => .int .i64 a.1 :: .int .i64 a.2 :: acs l
theorem acs_len : ∀ l : List (Int × Int), (acs l).length = l.length * 2
  | [] => rfl
  | a :: l => by rw [acs, List.length_cons, List.length_cons, acs_len l, List.length_cons]; omega
theorem acs_append : ∀ l m : List (Int × Int), acs (l ++ m) = acs l ++ acs m
  | [], m => rfl
  | a :: l, m => by rw [List.cons_append, acs, acs, acs_append l m]; rfl
theorem acs_get : ∀ (l : List (Int × Int)) (i : Nat), i < l.length → (acs l)[i * 2]? = some (.int .i64 (l.getD i (0, 0)).1) ∧ (acs l)[i * 2 + 1]? = some (.int .i64 (l.getD i (0, 0)).2)
  | a :: l, 0, _ => ⟨rfl, rfl⟩
  | a :: l, i + 1, h => by
    have ih := acs_get l i (by simpa using h)
    have e1 : (i + 1) * 2 = i * 2 + 1 + 1 := by omega
    rw [e1, acs]
    simp only [List.getElem?_cons_succ, List.getD_cons_succ]
    exact ih
theorem acs_set : ∀ (l : List (Int × Int)) (i : Nat) (x y : Int), ((acs l).set (i * 2) (.int .i64 x)).set (i * 2 + 1) (.int .i64 y) = acs (l.set i (x, y))
  | [], _, _, _ => rfl
  | a :: l, 0, _, _ => rfl
  | a :: l, i + 1, x, y => by
    have ih := acs_set l i x y
    have e1 : (i + 1) * 2 = i * 2 + 1 + 1 := by omega
    rw [e1, acs, List.set_cons_succ, List.set_cons_succ, List.set_cons_succ, List.set_cons_succ, ih, List.set_cons_succ, acs]
theorem acs_one (l : List (Int × Int)) : ∀ v ∈ acs l, v.oneCell' = true := by
  induction l with
  | nil => intro v hv; cases hv
  | cons a l ih =>
    intro v hv
    rcases List.mem_cons.1 hv with rfl | hv
    · rfl
    · rcases List.mem_cons.1 hv with rfl | hv
      · rfl
      · exact ih v hv
/- a row of arcs of the call's own -/
abbrev AOwn (w : World) (base : Nat) (v : Value) (l : List (Int × Int)) : Prop := w.ownsRow base 47 2 v l.length (acs l)
theorem AOwn.at_ {w : World} {base : Nat} {v : Value} {l : List (Int × Int)} (h : AOwn w base v l) : ArcsAt w v l := by
  rcases h.2 with ⟨rfl, h0⟩ | ⟨g, cap, cur, rfl, _, hg, h1, h2, h3, h4⟩
  · rw [List.eq_nil_of_length_eq_zero h0]; exact ⟨none, 0, rfl, fun _ => ⟨rfl, rfl⟩, Or.inl rfl⟩
  · refine ⟨_, cap, rfl, fun e => (by cases e), ?_⟩
    by_cases hz : l = []
    · exact Or.inl hz
    · right
      refine ⟨g, 0, rfl, ?_, fun j hj => ?_⟩
      · by_cases hl : g < w.heap.size
        · exact hl
        · rw [Array.getElem?_eq_none (Nat.le_of_not_lt hl)] at hg; cases hg
      · obtain ⟨a1, a2⟩ := acs_get l j hj
        rw [← h4, List.getElem?_take, if_pos (by omega)] at a1 a2
        refine ⟨?_, ?_⟩
        · unfold World.cell?; rw [hg]; simpa using a1
        · unfold World.cell?; rw [hg]; simpa using a2
theorem AOwn.form {w : World} {base : Nat} {v : Value} {l : List (Int × Int)} (h : AOwn w base v l) : ∃ a cap, v = .slice a l.length cap := by
  rcases h.2 with ⟨rfl, h0⟩ | ⟨g, cap, cur, rfl, _⟩
  · rw [h0]; exact ⟨none, 0, rfl⟩
  · exact ⟨_, cap, rfl⟩
theorem AOwn.keep {w W : World} {base : Nat} {v : Value} {l : List (Int × Int)} (h : AOwn w base v l) (b : Below w.heap.size w W) : AOwn W base v l := by
  refine ⟨h.1, ?_⟩
  rcases h.2 with h0 | ⟨g, cap, cur, rfl, h2, hg, h3⟩
  · exact Or.inl h0
  · refine Or.inr ⟨g, cap, cur, rfl, h2, ?_, h3⟩
    rw [b.block _ ?_]; exact hg
    by_cases hl : g < w.heap.size
    · exact hl
    · rw [Array.getElem?_eq_none (Nat.le_of_not_lt hl)] at hg; cases hg
theorem info45 : (Try.prog.info? 47).map (fun i => (i.zero, i.size, i.bytes)) = some (some (.agg #[.int .i64 0, .int .i64 0]), 2, 16) := by kernel_rfl
theorem nil31 (w : World) : Sem.run Try.prog (binOp .eql 22 (.slice none 0 0) (.slice none 0 0)) w = .ok (.bool true) w := by rfl
theorem some31 (ad : Addr) (n cap : Nat) (w : World) : Sem.run Try.prog (binOp .eql 22 (.slice (some ad) n cap) (.slice none 0 0)) w = .ok (.bool false) w := by rfl
set_option maxHeartbeats 2000000 in
theorem clone_any {w : World} {v : Value} {ars : List (Int × Int)} (h : ArcsAt w v ars) (hl : ars.length ≤ 4194304) : Calls Try.prog 35 #[v] w fun e w' => ∃ u, e = .returned u ∧ AOwn w' w.heap.size u ars ∧ Below w.heap.size w w' := by
  obtain ⟨i0, hi, hz0, hz1, hz2⟩ := Go.info_parts info45
  have II := Lib.hid hi; have Z0 := Lib.hid hz0; have Z1 := Lib.hid hz1; have Z2 := Lib.hid hz2
  clear hi hz0 hz1 hz2
  obtain ⟨a, cap, rfl, hz, h2⟩ := h
  cases a with
  | none =>
    obtain ⟨rfl, rfl⟩ := hz rfl
    clear hz h2
    have E1 := nil31
    go_enter Try.func35, Try.ntmps35
    go_wp2_with fail
    go_ret
    exact ⟨_, rfl, World.ownsRow_nil _ _ _ _, Below.refl _ _⟩
  | some ad =>
    have NW : Hid (∀ (o : Obj) (j : Nat) (u : Value), (acs ars)[j]? = some u → (w.alloc o).cell? (ad.add j) = some u) := by
      intro o j u hu
      have hj : j < ars.length * 2 := by rw [← acs_len]; exact (List.getElem?_eq_some_iff.1 hu).1
      rcases h2 with h2 | ⟨b, off, e, hb, hc⟩
      · rw [h2] at hj; exact absurd hj (by simp)
      · injection e with e; subst e
        have ea : (⟨b, off, none⟩ : Addr).add j = ⟨b, off + j, none⟩ := Addr.add_lit _ _ _
        rw [ea, World.cell?_of_block (w := w) (Below.heap_alloc _ _ _ hb)]
        have hd : j / 2 < ars.length := by omega
        obtain ⟨a1, a2⟩ := acs_get ars (j / 2) hd
        obtain ⟨c1, c2⟩ := hc (j / 2) hd
        rcases Nat.mod_two_eq_zero_or_one j with hm | hm
        · have ej : j = j / 2 * 2 := by omega
          rw [ej] at hu ⊢
          rw [a1] at hu; rw [← hu]; exact c1
        · have ej : j = j / 2 * 2 + 1 := by omega
          rw [ej] at hu ⊢
          rw [a2] at hu; rw [← hu, ← Nat.add_assoc]; exact c2
    obtain ⟨n, hn⟩ : ∃ n, ars.length = n := ⟨_, rfl⟩
    have HN := Lib.hid hn; have HL := Lib.hid hl
    rw [hn]
    clear hz h2 hn hl
    have E1 := some31
    go_enter Try.func35, Try.ntmps35
    go_wp2_with (at_builtin; refine wpList_append_own_at _ rfl _ _ 22 rfl w.heap.size 47 i0 (.agg #[.int .i64 0, .int .i64 0]) 2 16 Try.underlying22 II.out Z0.out Z1.out Z2.out rfl (by decide) (.slice (some ⟨w.heap.size, 0, none⟩) 0 0) 0 [] rfl (World.ownsRow_made w #[] 0 (Nat.le_refl _) (by decide) rfl) ad n cap (acs ars) rfl (by rw [acs_len, HN.out]) (NW.out _) (acs_one _) (by have := HL.out; have := HN.out; unfold maxLen; omega) (by have := HL.out; have := HN.out; omega) (by simp) ?_; intro v' w4 hown' hgrow hnil hloc; have R4 := Lib.hid hown'; have G4 := Lib.hid hgrow; clear hown' hgrow hloc hnil)
    go_ret
    refine ⟨v', rfl, ?_, ?_⟩
    · have h := R4.out
      rw [Nat.zero_add, List.nil_append, ← HN.out] at h
      exact h
    · exact ((Below.refl _ w).alloc (Nat.le_refl _) _).grown G4.out (by simp) (fun k e => Nat.le_of_eq (by injection e with e))
end Go.Proofs.Ytgofachgoflgnaa

