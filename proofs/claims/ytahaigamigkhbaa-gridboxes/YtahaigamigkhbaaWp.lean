/- GridBoxes. -/
import Derived.Test.YtahaigamigkhbaaWi
import Derived.Test.YtahaigamigkhbaaWo
namespace Go.Proofs.Ytahaigamigkhbaa
open Go.ChangeShapes Go.WideShapes Go.ChangeAt Go.RowKit Go.Joins Go.Deep

theorem keep16 {w wr w2 : World} {p1 p2 p3 p4 p5 p6 p7 p8 p9 p10 p11 p12 p13 p14 p15 p16 : Addr} {v1 v2 v3 v4 v5 v6 v7 v8 v9 v10 v11 v12 v13 v14 v15 v16 : Value}
    (h : Below w.heap.size w wr ∧ wr.cell? p1 = some v1 ∧ wr.cell? p2 = some v2 ∧ wr.cell? p3 = some v3 ∧ wr.cell? p4 = some v4 ∧ wr.cell? p5 = some v5 ∧ wr.cell? p6 = some v6 ∧ wr.cell? p7 = some v7 ∧ wr.cell? p8 = some v8 ∧ wr.cell? p9 = some v9 ∧ wr.cell? p10 = some v10 ∧ wr.cell? p11 = some v11 ∧ wr.cell? p12 = some v12 ∧ wr.cell? p13 = some v13 ∧ wr.cell? p14 = some v14 ∧ wr.cell? p15 = some v15 ∧ wr.cell? p16 = some v16) (hb : Below wr.heap.size wr w2) :
    Below w.heap.size w w2 ∧ w2.cell? p1 = some v1 ∧ w2.cell? p2 = some v2 ∧ w2.cell? p3 = some v3 ∧ w2.cell? p4 = some v4 ∧ w2.cell? p5 = some v5 ∧ w2.cell? p6 = some v6 ∧ w2.cell? p7 = some v7 ∧ w2.cell? p8 = some v8 ∧ w2.cell? p9 = some v9 ∧ w2.cell? p10 = some v10 ∧ w2.cell? p11 = some v11 ∧ w2.cell? p12 = some v12 ∧ w2.cell? p13 = some v13 ∧ w2.cell? p14 = some v14 ∧ w2.cell? p15 = some v15 ∧ w2.cell? p16 = some v16 :=
  ⟨h.1.trans (hb.mono h.1.size), old hb h.2.1, old hb h.2.2.1, old hb h.2.2.2.1, old hb h.2.2.2.2.1, old hb h.2.2.2.2.2.1, old hb h.2.2.2.2.2.2.1, old hb h.2.2.2.2.2.2.2.1, old hb h.2.2.2.2.2.2.2.2.1, old hb h.2.2.2.2.2.2.2.2.2.1, old hb h.2.2.2.2.2.2.2.2.2.2.1, old hb h.2.2.2.2.2.2.2.2.2.2.2.1, old hb h.2.2.2.2.2.2.2.2.2.2.2.2.1, old hb h.2.2.2.2.2.2.2.2.2.2.2.2.2.1, old hb h.2.2.2.2.2.2.2.2.2.2.2.2.2.2.1, old hb h.2.2.2.2.2.2.2.2.2.2.2.2.2.2.2.1, old hb h.2.2.2.2.2.2.2.2.2.2.2.2.2.2.2.2⟩

theorem pts_open {H : Type} {enc : TypeId × Value → H} {W : World} {base b0 : Nat} {spare : Nat → Bool} {held : Bool} {r : Reach} {v : Value} {d : DataW H} {p : List MemPlace}
    (hv : Value.okWide Try.prog W r b0 38 v) (h : DataW.Trod enc Try.prog W base spare held 38 v d p) : ∃ a len cap l, v = .slice a len cap ∧ len ≤ maxLen ∧ PtsAt W a len l := by
  obtain ⟨a0, len, cap0, rfl⟩ := okWide_slice Try.underlying38 hv
  obtain ⟨fuel, hf⟩ := h
  rcases Deep.open_slice Try.underlying38 hf with ⟨hcs, _⟩ | ⟨a, len', cap, m, n', D, Pl, hcs, _, hl, hm, hmm, _, hi⟩
  · simp [Value.cells] at hcs
    obtain ⟨rfl, rfl, rfl⟩ := hcs
    exact ⟨none, 0, 0, [], rfl, Nat.zero_le _, pts0 W⟩
  · simp [Value.cells] at hcs
    obtain ⟨rfl, rfl, rfl⟩ := hcs
    have hlm : len ≤ m := by rw [hmm]; split <;> omega
    have key : ∀ i, i < len → ∃ c : Pt, W.cell? (a.add (i * 2)) = some (.int .i64 c.1) ∧ W.cell? (a.add (i * 2 + 1)) = some (.int .i64 c.2) := by
      intro i hi'
      obtain ⟨cs', hc, ht⟩ := hi i (by omega)
      rw [Try.cells25] at hc
      obtain ⟨_, hcl, hat⟩ := World.cells?_some hc
      obtain ⟨z0, z1, n2, _, _, t0, t1⟩ := trod_struct2 Try.underlying25 ht
      obtain ⟨x, ex, _, wx⟩ := DataW.trod_int Try.underlying3 t0
      obtain ⟨y, ey, _, wy⟩ := DataW.trod_int Try.underlying3 t1
      rw [Try.cells3] at ex ey
      match cs', hcl with
      | [q0, q1], _ =>
        simp at ex ey
        subst ex ey
        refine ⟨(x, y), ?_, ?_⟩
        · have := hat 0 (by omega); simpa [Addr.add] using this
        · have := hat 1 (by omega); rw [add_add] at this; simpa using this
    obtain ⟨g, hg⟩ := choose_lt key
    have hgd : ∀ i, i < len → ((List.range len).map g).getD i (0, 0) = g i := by
      intro i hi'; simp [List.getD, hi']
    refine ⟨some a, len, cap0, (List.range len).map g, rfl, by omega, by simp, ?_⟩
    by_cases hz : len = 0
    · exact Or.inl hz
    · right
      obtain ⟨b, off, spot⟩ := a
      have c0 := (hg 0 (by omega)).1
      have hspot : spot = none := by simpa [Addr.add] using World.cell?_spot c0
      subst hspot
      refine ⟨b, off, rfl, ?_, fun i hi' => ?_⟩
      · rw [Addr.add_lit] at c0; exact cell_lt c0
      · rw [hgd i hi']
        have h1 := (hg i hi').1; have h2 := (hg i hi').2
        rw [Addr.add_lit] at h1 h2
        exact ⟨h1, h2⟩
theorem gridBoxes_open0 {H : Type} {enc : TypeId × Value → H} {W : World} {base b0 : Nat} {spare : Nat → Bool} {held : Bool} {r : Reach} {v : Value} {d : DataW H} {p : List MemPlace}
    (hv : Value.okWide Try.prog W r b0 38 v) (h : DataW.Trod enc Try.prog W base spare held 38 v d p) : ∃ a len cap l, v = .slice a len cap ∧ len ≤ maxLen ∧ PtsAt W a len l := pts_open hv h
abbrev gridBoxes_zero1 : Value := bx 0 0 0 0
theorem gridBoxes_open1 {H : Type} {enc : TypeId × Value → H} {W : World} {base b0 : Nat} {spare : Nat → Bool} {held : Bool} {r : Reach} {v : Value} {d : DataW H} {p : List MemPlace}
    (hv : Value.okWide Try.prog W r b0 40 v) (h : DataW.Trod enc Try.prog W base spare held 40 v d p) : ∃ a b c d, v = bx a b c d := bx_open hv h
abbrev gridBoxes_zero2 : Value := bx 0 0 0 0
theorem gridBoxes_open2 {H : Type} {enc : TypeId × Value → H} {W : World} {base b0 : Nat} {spare : Nat → Bool} {held : Bool} {r : Reach} {v : Value} {d : DataW H} {p : List MemPlace}
    (hv : Value.okWide Try.prog W r b0 40 v) (h : DataW.Trod enc Try.prog W base spare held 40 v d p) : ∃ a b c d, v = bx a b c d := bx_open hv h

theorem four {w w1 : World} {a b c d : Value} {t : TypeId} (hb : Below (w.alloc (.cells #[a, b, c, d] t)).heap.size (w.alloc (.cells #[a, b, c, d] t)) w1) : w1.cell? ⟨w.heap.size, 0, none⟩ = some a ∧ w1.cell? ⟨w.heap.size, 1, none⟩ = some b ∧ w1.cell? ⟨w.heap.size, 2, none⟩ = some c ∧ w1.cell? ⟨w.heap.size, 3, none⟩ = some d :=
  ⟨old hb (by go_simp), old hb (by go_simp), old hb (by go_simp), old hb (by go_simp)⟩
theorem four_old {w w1 : World} {o : Obj} {g : Nat} {a b c d : Value} (h : w.cell? ⟨g, 0, none⟩ = some a ∧ w.cell? ⟨g, 1, none⟩ = some b ∧ w.cell? ⟨g, 2, none⟩ = some c ∧ w.cell? ⟨g, 3, none⟩ = some d) (hb : Below (w.alloc o).heap.size (w.alloc o) w1) : w1.cell? ⟨g, 0, none⟩ = some a ∧ w1.cell? ⟨g, 1, none⟩ = some b ∧ w1.cell? ⟨g, 2, none⟩ = some c ∧ w1.cell? ⟨g, 3, none⟩ = some d :=
  ⟨old hb (old_alloc h.1), old hb (old_alloc h.2.1), old hb (old_alloc h.2.2.1), old hb (old_alloc h.2.2.2)⟩
set_option maxRecDepth 100000 in
set_option maxHeartbeats 32000000 in
theorem gridBoxes_walk (vl va vb : Value) (w : World) (hl : ∃ a len cap l, vl = .slice a len cap ∧ len ≤ maxLen ∧ PtsAt w a len l) (ha : ∃ a b c d, va = bx a b c d) (hb : ∃ a b c d, vb = bx a b c d) :
    Calls Try.prog 4 #[vl, va, vb] w fun e w' => e = .returned (.bool true) ∧ Below w.heap.size w w' := by
  obtain ⟨ad, len, cap, l, rfl, hm, hP⟩ := hl
  obtain ⟨a, b, c, d, rfl⟩ := ha
  obtain ⟨e, f, g, h, rfl⟩ := hb
  have HP := Lib.hid hP; clear hP
  unfold maxLen at hm
  by_cases h2 : 200 < len
  · go_enter Try.func4, Try.ntmps4
    go_wp2_with fail
    refine (lives_any _).mono ?_; rintro en w1 ⟨rfl, hb⟩
    have B : Hid (Below w.heap.size w w1) := by show Below _ _ _; (repeat (first | exact Below.refl _ _ | (refine Below.drew ?_) | (refine below_drewN ?_ _) | (refine Below.alloc ?_ (by first | omega | (simp <;> omega)) _) | (refine Below.setCell ?_ (by first | omega | (simp <;> omega)) _) | (refine Below.trans ?_ (Below.mono (by assumption) (by first | omega | (simp <;> omega))))))
    clear hb
    go_wp2_with fail
    go_ret
    exact ⟨rfl, B.out⟩
  · have BA := Lib.hid (((Below.refl w.heap.size w).alloc (Nat.le_refl _) (.cells #[.int .i64 a, .int .i64 b, .int .i64 c, .int .i64 d] 40)).alloc (by simp) (.cells #[.int .i64 e, .int .i64 f, .int .i64 g, .int .i64 h] 40))
    go_enter Try.func4, Try.ntmps4
    go_wp2_with fail
    refine (box_any _ _ _ l _ (HP.out.below BA.out) (by omega)).mono ?_; rintro en w1 ⟨rfl, hb⟩
    have A1 := Lib.hid (And.intro (old hb (show World.cell? _ ⟨w.heap.size, 0, none⟩ = some (.int .i64 a) by go_simp)) (And.intro (old hb (show World.cell? _ ⟨w.heap.size, 1, none⟩ = some (.int .i64 b) by go_simp)) (And.intro (old hb (show World.cell? _ ⟨w.heap.size, 2, none⟩ = some (.int .i64 c) by go_simp)) (old hb (show World.cell? _ ⟨w.heap.size, 3, none⟩ = some (.int .i64 d) by go_simp)))))
    have C1 := Lib.hid (And.intro (old hb (show World.cell? _ ⟨w.heap.size + 1, 0, none⟩ = some (.int .i64 e) by go_simp)) (And.intro (old hb (show World.cell? _ ⟨w.heap.size + 1, 1, none⟩ = some (.int .i64 f) by go_simp)) (And.intro (old hb (show World.cell? _ ⟨w.heap.size + 1, 2, none⟩ = some (.int .i64 g) by go_simp)) (old hb (show World.cell? _ ⟨w.heap.size + 1, 3, none⟩ = some (.int .i64 h) by go_simp)))))
    have B1 := Lib.hid (BA.out.trans (hb.mono (by simp; omega))); clear hb
    go_wp2_with fail
    refine (boxr_any _ _ _ l _ (HP.out.below (B1.out.alloc B1.out.size _)) (by omega)).mono ?_; rintro en w2 ⟨rfl, hb⟩
    have Q2 := Lib.hid (four hb)
    have A2 := Lib.hid (four_old A1.out hb); have C2 := Lib.hid (four_old C1.out hb)
    have B2 := Lib.hid (bel_al B1.out hb); clear hb A1 C1 B1
    have S0 : Hid (∀ W, W = (w2.alloc (.cells #[.int .i64 (bq l).1, .int .i64 (bq l).2.1, .int .i64 (bq l).2.2.1, .int .i64 (bq l).2.2.2] 40)).drew → Below w.heap.size w W ∧ W.cell? ⟨w1.heap.size, 0, none⟩ = some (.int .i64 (bq l).1) ∧ W.cell? ⟨w1.heap.size, 1, none⟩ = some (.int .i64 (bq l).2.1) ∧ W.cell? ⟨w1.heap.size, 2, none⟩ = some (.int .i64 (bq l).2.2.1) ∧ W.cell? ⟨w1.heap.size, 3, none⟩ = some (.int .i64 (bq l).2.2.2) ∧ W.cell? ⟨w2.heap.size, 0, none⟩ = some (.int .i64 (bq l).1) ∧ W.cell? ⟨w2.heap.size, 1, none⟩ = some (.int .i64 (bq l).2.1) ∧ W.cell? ⟨w2.heap.size, 2, none⟩ = some (.int .i64 (bq l).2.2.1) ∧ W.cell? ⟨w2.heap.size, 3, none⟩ = some (.int .i64 (bq l).2.2.2) ∧ W.cell? ⟨w.heap.size, 0, none⟩ = some (.int .i64 a) ∧ W.cell? ⟨w.heap.size, 1, none⟩ = some (.int .i64 b) ∧ W.cell? ⟨w.heap.size, 2, none⟩ = some (.int .i64 c) ∧ W.cell? ⟨w.heap.size, 3, none⟩ = some (.int .i64 d) ∧ W.cell? ⟨w.heap.size + 1, 0, none⟩ = some (.int .i64 e) ∧ W.cell? ⟨w.heap.size + 1, 1, none⟩ = some (.int .i64 f) ∧ W.cell? ⟨w.heap.size + 1, 2, none⟩ = some (.int .i64 g) ∧ W.cell? ⟨w.heap.size + 1, 3, none⟩ = some (.int .i64 h)) := by
      intro W hW; subst hW
      obtain ⟨q1, q2, q3, q4⟩ := Q2.out; obtain ⟨a1, a2, a3, a4⟩ := A2.out; obtain ⟨c1, c2, c3, c4⟩ := C2.out
      exact ⟨(B2.out.alloc B2.out.size _).drew, old_alloc q1, old_alloc q2, old_alloc q3, old_alloc q4, by go_simp, by go_simp, by go_simp, by go_simp, old_alloc a1, old_alloc a2, old_alloc a3, old_alloc a4, old_alloc c1, old_alloc c2, old_alloc c3, old_alloc c4⟩
    go_wp2_with fail
    go_region_held3 (fun w' => Below w.heap.size w w' ∧ w'.cell? ⟨w1.heap.size, 0, none⟩ = some (.int .i64 (bq l).1) ∧ w'.cell? ⟨w1.heap.size, 1, none⟩ = some (.int .i64 (bq l).2.1) ∧ w'.cell? ⟨w1.heap.size, 2, none⟩ = some (.int .i64 (bq l).2.2.1) ∧ w'.cell? ⟨w1.heap.size, 3, none⟩ = some (.int .i64 (bq l).2.2.2) ∧ w'.cell? ⟨w2.heap.size, 0, none⟩ = some (.int .i64 (bq l).1) ∧ w'.cell? ⟨w2.heap.size, 1, none⟩ = some (.int .i64 (bq l).2.1) ∧ w'.cell? ⟨w2.heap.size, 2, none⟩ = some (.int .i64 (bq l).2.2.1) ∧ w'.cell? ⟨w2.heap.size, 3, none⟩ = some (.int .i64 (bq l).2.2.2) ∧ w'.cell? ⟨w.heap.size, 0, none⟩ = some (.int .i64 a) ∧ w'.cell? ⟨w.heap.size, 1, none⟩ = some (.int .i64 b) ∧ w'.cell? ⟨w.heap.size, 2, none⟩ = some (.int .i64 c) ∧ w'.cell? ⟨w.heap.size, 3, none⟩ = some (.int .i64 d) ∧ w'.cell? ⟨w.heap.size + 1, 0, none⟩ = some (.int .i64 e) ∧ w'.cell? ⟨w.heap.size + 1, 1, none⟩ = some (.int .i64 f) ∧ w'.cell? ⟨w.heap.size + 1, 2, none⟩ = some (.int .i64 g) ∧ w'.cell? ⟨w.heap.size + 1, 3, none⟩ = some (.int .i64 h))
      (first | exact S0.out _ rfl | assumption | exact keep16 (by assumption) (by assumption))
      (first
      | (go_at_call 17; (with_reducible refine (check_any _ _ _ _ _).mono ?_); rintro en wx ⟨rfl, bb⟩)
      | (go_at_call 18; (with_reducible refine (checkr_any _ _ _ _ _).mono ?_); rintro en wx ⟨rfl, bb⟩)
      | (go_at_call 19; (with_reducible refine (join_any _ _ _ _ _ _ _ _ _).mono ?_); rintro en wx ⟨rfl, bb⟩)
      | (go_at_call 20; (with_reducible refine (joinr_any _ _ _ _ _ _ _ _ _).mono ?_); rintro en wx ⟨rfl, bb⟩)
      | (go_at_call 21; (with_reducible refine (meets_any _ _ _ _ _ _ _ _ _).mono ?_); rintro en wx ⟨rfl, bb⟩)
      | (go_at_call 22; (with_reducible refine (meetsr_any _ _ _ _ _ _ _ _ _).mono ?_); rintro en wx ⟨rfl, bb⟩)
      | (go_at_call 14; (with_reducible refine (lives_any _).mono ?_); rintro en wx ⟨rfl, bb⟩))
    all_goals go_wp2
    all_goals go_ret
    all_goals exact ⟨rfl, bel_of (by assumption)⟩
end Go.Proofs.Ytahaigamigkhbaa
