/- The chapter's examples. -/
import Derived.Test.YtahaigamigkhbaaWh
namespace Go.Proofs.Ytahaigamigkhbaa
open Go.ChangeShapes Go.WideShapes Go.ChangeAt Go.RowKit Go.Joins Go.Deep

theorem old_alloc {w : World} {p : Addr} {v : Value} {o : Obj} (h : w.cell? p = some v) : (w.alloc o).cell? p = some v := old ((Below.refl _ _).alloc (Nat.le_refl _) o) h
def Ex (w wr : World) (p1 p3 p7 p8 : Nat) : Prop := Below w.heap.size w wr ∧ (wr.cell? ⟨p1, 0, none⟩ = some (.int .i64 16384) ∧ wr.cell? ⟨p1, 1, none⟩ = some (.int .i64 16384)) ∧ (wr.cell? ⟨p3, 0, none⟩ = some (.int .i64 32767) ∧ wr.cell? ⟨p3, 1, none⟩ = some (.int .i64 32767)) ∧
  (wr.cell? ⟨p7, 0, none⟩ = some (.int .i64 0) ∧ wr.cell? ⟨p7, 1, none⟩ = some (.int .i64 0) ∧ wr.cell? ⟨p7, 2, none⟩ = some (.int .i64 10) ∧ wr.cell? ⟨p7, 3, none⟩ = some (.int .i64 10)) ∧
  (wr.cell? ⟨p8, 0, none⟩ = some (.int .i64 1) ∧ wr.cell? ⟨p8, 1, none⟩ = some (.int .i64 4) ∧ wr.cell? ⟨p8, 2, none⟩ = some (.int .i64 3) ∧ wr.cell? ⟨p8, 3, none⟩ = some (.int .i64 9))
theorem Ex.next {w wr w2 : World} {p1 p3 p7 p8 : Nat} (h : Hid (Ex w wr p1 p3 p7 p8)) (hb : Below wr.heap.size wr w2) : Hid (Ex w w2 p1 p3 p7 p8) := by
  obtain ⟨h0, ⟨a1, a2⟩, ⟨b1, b2⟩, ⟨c1, c2, c3, c4⟩, ⟨d1, d2, d3, d4⟩⟩ := h.out
  exact ⟨h0.trans (hb.mono h0.size), ⟨old hb a1, old hb a2⟩, ⟨old hb b1, old hb b2⟩, ⟨old hb c1, old hb c2, old hb c3, old hb c4⟩, ⟨old hb d1, old hb d2, old hb d3, old hb d4⟩⟩
theorem pts2 (w : World) (x y z u : Int) (t : TypeId) (g : Nat) (hg : w.heap.size = g) : PtsAt (w.alloc (.cells #[.int .i64 x, .int .i64 y, .int .i64 z, .int .i64 u] t)) (some ⟨g, 0, none⟩) 2 [(x, y), (z, u)] := by
  subst hg
  refine ⟨rfl, Or.inr ⟨_, 0, rfl, by simp, fun i hi => ?_⟩⟩
  match i, hi with
  | 0, _ => exact ⟨by go_simp, by go_simp⟩
  | 1, _ => exact ⟨by go_simp, by go_simp⟩
theorem cbox : bq [(3, 4), (1, 9)] = (1, 4, 3, 9) ∧ bok [(3, 4), (1, 9)] = true := by decide
theorem cnil : bq [] = (0, 0, 0, 0) ∧ bok [] = false := by decide
theorem pts0 (w : World) : PtsAt w none 0 [] := ⟨rfl, Or.inl rfl⟩
theorem tbox : boxT [(3, 4), (1, 9)] = .tuple #[bx 1 4 3 9, .bool true] := by unfold boxT; rw [cbox.1, cbox.2]
theorem tnil : boxT [] = .tuple #[bx 0 0 0 0, .bool false] := by unfold boxT; rw [cnil.1, cnil.2]

theorem keep10 {w wr w2 : World} {p1 p2 p3 p4 p5 p6 p7 p8 p9 p10 : Addr} {v1 v2 v3 v4 v5 v6 v7 v8 v9 v10 : Value}
    (h : Below w.heap.size w wr ∧ wr.cell? p1 = some v1 ∧ wr.cell? p2 = some v2 ∧ wr.cell? p3 = some v3 ∧ wr.cell? p4 = some v4 ∧ wr.cell? p5 = some v5 ∧ wr.cell? p6 = some v6 ∧ wr.cell? p7 = some v7 ∧ wr.cell? p8 = some v8 ∧ wr.cell? p9 = some v9 ∧ wr.cell? p10 = some v10) (hb : Below wr.heap.size wr w2) :
    Below w.heap.size w w2 ∧ w2.cell? p1 = some v1 ∧ w2.cell? p2 = some v2 ∧ w2.cell? p3 = some v3 ∧ w2.cell? p4 = some v4 ∧ w2.cell? p5 = some v5 ∧ w2.cell? p6 = some v6 ∧ w2.cell? p7 = some v7 ∧ w2.cell? p8 = some v8 ∧ w2.cell? p9 = some v9 ∧ w2.cell? p10 = some v10 :=
  ⟨h.1.trans (hb.mono h.1.size), old hb h.2.1, old hb h.2.2.1, old hb h.2.2.2.1, old hb h.2.2.2.2.1, old hb h.2.2.2.2.2.1, old hb h.2.2.2.2.2.2.1, old hb h.2.2.2.2.2.2.2.1, old hb h.2.2.2.2.2.2.2.2.1, old hb h.2.2.2.2.2.2.2.2.2.1, old hb h.2.2.2.2.2.2.2.2.2.2⟩
theorem keep12 {w wr w2 : World} {p1 p2 p3 p4 p5 p6 p7 p8 p9 p10 p11 p12 : Addr} {v1 v2 v3 v4 v5 v6 v7 v8 v9 v10 v11 v12 : Value}
    (h : Below w.heap.size w wr ∧ wr.cell? p1 = some v1 ∧ wr.cell? p2 = some v2 ∧ wr.cell? p3 = some v3 ∧ wr.cell? p4 = some v4 ∧ wr.cell? p5 = some v5 ∧ wr.cell? p6 = some v6 ∧ wr.cell? p7 = some v7 ∧ wr.cell? p8 = some v8 ∧ wr.cell? p9 = some v9 ∧ wr.cell? p10 = some v10 ∧ wr.cell? p11 = some v11 ∧ wr.cell? p12 = some v12) (hb : Below wr.heap.size wr w2) :
    Below w.heap.size w w2 ∧ w2.cell? p1 = some v1 ∧ w2.cell? p2 = some v2 ∧ w2.cell? p3 = some v3 ∧ w2.cell? p4 = some v4 ∧ w2.cell? p5 = some v5 ∧ w2.cell? p6 = some v6 ∧ w2.cell? p7 = some v7 ∧ w2.cell? p8 = some v8 ∧ w2.cell? p9 = some v9 ∧ w2.cell? p10 = some v10 ∧ w2.cell? p11 = some v11 ∧ w2.cell? p12 = some v12 :=
  ⟨h.1.trans (hb.mono h.1.size), old hb h.2.1, old hb h.2.2.1, old hb h.2.2.2.1, old hb h.2.2.2.2.1, old hb h.2.2.2.2.2.1, old hb h.2.2.2.2.2.2.1, old hb h.2.2.2.2.2.2.2.1, old hb h.2.2.2.2.2.2.2.2.1, old hb h.2.2.2.2.2.2.2.2.2.1, old hb h.2.2.2.2.2.2.2.2.2.2.1, old hb h.2.2.2.2.2.2.2.2.2.2.2.1, old hb h.2.2.2.2.2.2.2.2.2.2.2.2⟩
theorem keep14 {w wr w2 : World} {p1 p2 p3 p4 p5 p6 p7 p8 p9 p10 p11 p12 p13 p14 : Addr} {v1 v2 v3 v4 v5 v6 v7 v8 v9 v10 v11 v12 v13 v14 : Value}
    (h : Below w.heap.size w wr ∧ wr.cell? p1 = some v1 ∧ wr.cell? p2 = some v2 ∧ wr.cell? p3 = some v3 ∧ wr.cell? p4 = some v4 ∧ wr.cell? p5 = some v5 ∧ wr.cell? p6 = some v6 ∧ wr.cell? p7 = some v7 ∧ wr.cell? p8 = some v8 ∧ wr.cell? p9 = some v9 ∧ wr.cell? p10 = some v10 ∧ wr.cell? p11 = some v11 ∧ wr.cell? p12 = some v12 ∧ wr.cell? p13 = some v13 ∧ wr.cell? p14 = some v14) (hb : Below wr.heap.size wr w2) :
    Below w.heap.size w w2 ∧ w2.cell? p1 = some v1 ∧ w2.cell? p2 = some v2 ∧ w2.cell? p3 = some v3 ∧ w2.cell? p4 = some v4 ∧ w2.cell? p5 = some v5 ∧ w2.cell? p6 = some v6 ∧ w2.cell? p7 = some v7 ∧ w2.cell? p8 = some v8 ∧ w2.cell? p9 = some v9 ∧ w2.cell? p10 = some v10 ∧ w2.cell? p11 = some v11 ∧ w2.cell? p12 = some v12 ∧ w2.cell? p13 = some v13 ∧ w2.cell? p14 = some v14 :=
  ⟨h.1.trans (hb.mono h.1.size), old hb h.2.1, old hb h.2.2.1, old hb h.2.2.2.1, old hb h.2.2.2.2.1, old hb h.2.2.2.2.2.1, old hb h.2.2.2.2.2.2.1, old hb h.2.2.2.2.2.2.2.1, old hb h.2.2.2.2.2.2.2.2.1, old hb h.2.2.2.2.2.2.2.2.2.1, old hb h.2.2.2.2.2.2.2.2.2.2.1, old hb h.2.2.2.2.2.2.2.2.2.2.2.1, old hb h.2.2.2.2.2.2.2.2.2.2.2.2.1, old hb h.2.2.2.2.2.2.2.2.2.2.2.2.2.1, old hb h.2.2.2.2.2.2.2.2.2.2.2.2.2.2⟩

theorem ex_start {w w5 : World} {p1 p3 p7 p8 : Nat} (h : Hid (Ex w w5 p1 p3 p7 p8)) (o : Obj) : Below w.heap.size w (World.drew (w5.alloc o)) ∧ (World.drew (w5.alloc o)).cell? ⟨p1, 0, none⟩ = some (.int .i64 16384) ∧ (World.drew (w5.alloc o)).cell? ⟨p1, 1, none⟩ = some (.int .i64 16384) ∧ (World.drew (w5.alloc o)).cell? ⟨p3, 0, none⟩ = some (.int .i64 32767) ∧ (World.drew (w5.alloc o)).cell? ⟨p3, 1, none⟩ = some (.int .i64 32767) ∧ (World.drew (w5.alloc o)).cell? ⟨p7, 0, none⟩ = some (.int .i64 0) ∧ (World.drew (w5.alloc o)).cell? ⟨p7, 1, none⟩ = some (.int .i64 0) ∧ (World.drew (w5.alloc o)).cell? ⟨p7, 2, none⟩ = some (.int .i64 10) ∧ (World.drew (w5.alloc o)).cell? ⟨p7, 3, none⟩ = some (.int .i64 10) ∧ (World.drew (w5.alloc o)).cell? ⟨p8, 0, none⟩ = some (.int .i64 1) ∧ (World.drew (w5.alloc o)).cell? ⟨p8, 1, none⟩ = some (.int .i64 4) ∧ (World.drew (w5.alloc o)).cell? ⟨p8, 2, none⟩ = some (.int .i64 3) ∧ (World.drew (w5.alloc o)).cell? ⟨p8, 3, none⟩ = some (.int .i64 9) := by
  obtain ⟨h0, ⟨a1, a2⟩, ⟨b1, b2⟩, ⟨c1, c2, c3, c4⟩, ⟨d1, d2, d3, d4⟩⟩ := h.out
  exact ⟨(h0.alloc h0.size o).drew, old_alloc a1, old_alloc a2, old_alloc b1, old_alloc b2, old_alloc c1, old_alloc c2, old_alloc c3, old_alloc c4, old_alloc d1, old_alloc d2, old_alloc d3, old_alloc d4⟩

set_option maxRecDepth 100000 in
set_option maxHeartbeats 8000000 in
theorem lives_any (w : World) : Calls Try.prog 14 #[] w fun e w' => e = .returned (.bool true) ∧ Below w.heap.size w w' := by
  have k1 : Hid (prX 0 0 = 16384 ∧ prY 0 0 = 16384 ∧ prE 0 0 = 0) := by show _ ∧ _ ∧ _; decide
  have k2 : Hid (prX 1800000000 (-900000000) = 32767 ∧ prY 1800000000 (-900000000) = 32767 ∧ prE 1800000000 (-900000000) = 0) := by show _ ∧ _ ∧ _; decide
  have k3 : Hid (prX 1800000001 0 = 0 ∧ prY 1800000001 0 = 0 ∧ prE 1800000001 0 = 11) := by show _ ∧ _ ∧ _; decide
  have k4 : Hid (ds 0 0 10 10 13 14 = 25) := by show _ = _; decide
  have k5 : Hid (hdB 0 0 10 10 10 10 = true) := by show _ = _; decide
  have k6 : Hid (chk 1 0 0 0 = 2) := by show _ = _; decide
  have k7 : Hid (mtB 0 0 10 10 1 4 3 9 = true) := by show _ = _; decide
  have k8 : Hid (lsB 0 9 1 0 = true) := by show _ = _; decide
  have k9 : Hid (jbx 0 0 10 10 1 4 3 9 = bx 0 0 10 10) := by show _ = _; rfl
  go_enter Try.func14, Try.ntmps14
  go_wp2_with fail
  refine (project_any _ _ _).mono ?_; rintro e w1 ⟨rfl, hb⟩; rw [k1.out.1, k1.out.2.1, k1.out.2.2]
  have B1 := Lib.hid hb; clear hb
  go_wp2_with fail
  refine (project_any _ _ _).mono ?_; rintro e w2 ⟨rfl, hb⟩; rw [k2.out.1, k2.out.2.1, k2.out.2.2]
  have A2 := Lib.hid (And.intro (old hb (show (w1.alloc (.cells #[.int .i64 16384, .int .i64 16384] 25)).cell? ⟨w1.heap.size, 0, none⟩ = some (.int .i64 16384) by go_simp)) (old hb (show (w1.alloc (.cells #[.int .i64 16384, .int .i64 16384] 25)).cell? ⟨w1.heap.size, 1, none⟩ = some (.int .i64 16384) by go_simp)))
  have B2 := Lib.hid ((B1.out.alloc B1.out.size _).trans (hb.mono (by have := B1.out.size; simp; omega))); clear hb
  go_wp2_with fail
  refine (project_any _ _ _).mono ?_; rintro e w3 ⟨rfl, hb⟩; rw [k3.out.1, k3.out.2.1, k3.out.2.2]
  have A3 := Lib.hid (And.intro (old hb (old_alloc A2.out.1)) (old hb (old_alloc A2.out.2)))
  have C3 := Lib.hid (And.intro (old hb (show (w2.alloc (.cells #[.int .i64 32767, .int .i64 32767] 25)).cell? ⟨w2.heap.size, 0, none⟩ = some (.int .i64 32767) by go_simp)) (old hb (show (w2.alloc (.cells #[.int .i64 32767, .int .i64 32767] 25)).cell? ⟨w2.heap.size, 1, none⟩ = some (.int .i64 32767) by go_simp)))
  have B3 := Lib.hid ((B2.out.alloc B2.out.size _).trans (hb.mono (by have := B2.out.size; simp; omega))); clear hb
  go_wp2_with fail
  refine (box_any _ _ _ [(3, 4), (1, 9)] _ ?hp (by omega)).mono ?_
  case hp => exact pts2 _ _ _ _ _ _ _ (by simp)
  rintro e w4 ⟨rfl, hb⟩; rw [tbox]
  have A4 := Lib.hid (And.intro (old hb (old_alloc (old_alloc (old_alloc A3.out.1)))) (old hb (old_alloc (old_alloc (old_alloc A3.out.2)))))
  have C4 := Lib.hid (And.intro (old hb (old_alloc (old_alloc (old_alloc C3.out.1)))) (old hb (old_alloc (old_alloc (old_alloc C3.out.2)))))
  have D4 := Lib.hid (And.intro (old hb (show World.cell? _ ⟨w3.heap.size + 1, 0, none⟩ = some (.int .i64 0) by go_simp)) (And.intro (old hb (show World.cell? _ ⟨w3.heap.size + 1, 1, none⟩ = some (.int .i64 0) by go_simp)) (And.intro (old hb (show World.cell? _ ⟨w3.heap.size + 1, 2, none⟩ = some (.int .i64 10) by go_simp)) (old hb (show World.cell? _ ⟨w3.heap.size + 1, 3, none⟩ = some (.int .i64 10) by go_simp)))))
  have B4 := Lib.hid ((((B3.out.alloc B3.out.size _).alloc (by have := B3.out.size; simp; omega) _).alloc (by have := B3.out.size; simp; omega) _).trans (hb.mono (by have := B3.out.size; simp; omega))); clear hb
  go_wp2_with fail
  refine (box_any _ _ _ [] _ (pts0 _) (by omega)).mono ?_
  rintro e w5 ⟨rfl, hb⟩; rw [tnil]
  have E5 : Hid (Ex w w5 w1.heap.size w2.heap.size (w3.heap.size + 1) w4.heap.size) :=
    ⟨(B4.out.alloc B4.out.size _).trans (hb.mono (by have := B4.out.size; simp; omega)), ⟨old hb (old_alloc A4.out.1), old hb (old_alloc A4.out.2)⟩, ⟨old hb (old_alloc C4.out.1), old hb (old_alloc C4.out.2)⟩, ⟨old hb (old_alloc D4.out.1), old hb (old_alloc D4.out.2.1), old hb (old_alloc D4.out.2.2.1), old hb (old_alloc D4.out.2.2.2)⟩, ⟨old hb (by go_simp), old hb (by go_simp), old hb (by go_simp), old hb (by go_simp)⟩⟩
  clear hb A2 A3 A4 B1 B2 B3 B4 C3 C4 D4
  go_wp2_with fail
  simp only [List.append_eq, List.cons_append, List.nil_append]
  go_region_held3 (fun w' => Below w.heap.size w w' ∧ w'.cell? ⟨w1.heap.size, 0, none⟩ = some (.int .i64 16384) ∧ w'.cell? ⟨w1.heap.size, 1, none⟩ = some (.int .i64 16384) ∧ w'.cell? ⟨w2.heap.size, 0, none⟩ = some (.int .i64 32767) ∧ w'.cell? ⟨w2.heap.size, 1, none⟩ = some (.int .i64 32767) ∧ w'.cell? ⟨w3.heap.size + 1, 0, none⟩ = some (.int .i64 0) ∧ w'.cell? ⟨w3.heap.size + 1, 1, none⟩ = some (.int .i64 0) ∧ w'.cell? ⟨w3.heap.size + 1, 2, none⟩ = some (.int .i64 10) ∧ w'.cell? ⟨w3.heap.size + 1, 3, none⟩ = some (.int .i64 10) ∧ w'.cell? ⟨w4.heap.size, 0, none⟩ = some (.int .i64 1) ∧ w'.cell? ⟨w4.heap.size, 1, none⟩ = some (.int .i64 4) ∧ w'.cell? ⟨w4.heap.size, 2, none⟩ = some (.int .i64 3) ∧ w'.cell? ⟨w4.heap.size, 3, none⟩ = some (.int .i64 9))
    (first | exact ex_start E5 _ | assumption | exact keep12 (by assumption) (by assumption))
    (first
      | (go_at_call 27; (with_reducible refine (dist_any _ _ _ _ _ _ _).mono ?_); rintro en wx ⟨rfl, bb⟩; rw [k4.out])
      | (go_at_call 25; (with_reducible refine (holds_any _ _ _ _ _ _ _).mono ?_); rintro en wx ⟨rfl, bb⟩; rw [k5.out])
      | (go_at_call 17; (with_reducible refine (check_any _ _ _ _ _).mono ?_); rintro en wx ⟨rfl, bb⟩; rw [k6.out])
      | (go_at_call 21; (with_reducible refine (meets_any _ _ _ _ _ _ _ _ _).mono ?_); rintro en wx ⟨rfl, bb⟩; rw [k7.out])
      | (go_at_call 23; (with_reducible refine (less_any _ _ _ _ _).mono ?_); rintro en wx ⟨rfl, bb⟩; rw [k8.out])
      | (go_at_call 19; (with_reducible refine (join_any _ _ _ _ _ _ _ _ _).mono ?_); rintro en wx ⟨rfl, bb⟩; rw [k9.out]))
  all_goals go_wp2
  all_goals go_ret
  all_goals exact ⟨rfl, bel_of (by assumption)⟩
end Go.Proofs.Ytahaigamigkhbaa
