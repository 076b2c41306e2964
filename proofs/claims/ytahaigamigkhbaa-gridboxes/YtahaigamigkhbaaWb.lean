/- Project and its reference. -/
import Derived.Test.YtahaigamigkhbaaWa
namespace Go.Proofs.Ytahaigamigkhbaa
open Go.ChangeShapes Go.WideShapes Go.ChangeAt Go.RowKit Go.Joins Go.Deep

theorem bcell {W w1 : World} (hb : Below W.heap.size W w1) : (∀ b o, b < W.heap.size → w1.cell? ⟨b, o, none⟩ = W.cell? ⟨b, o, none⟩) ∧ (∀ b o, b < W.heap.size → w1.frozen? ⟨b, o, none⟩ = W.frozen? ⟨b, o, none⟩) :=
  ⟨fun b o h => hb.cell (p := ⟨b, o, none⟩) h, fun b o h => hb.frozen (p := ⟨b, o, none⟩) h⟩
theorem cell_lt {w : World} {p : Addr} {v : Value} (h : w.cell? p = some v) : p.block < w.heap.size := by
  by_cases hb : p.block < w.heap.size
  · exact hb
  · exfalso
    unfold World.cell? at h
    simp [Array.getElem?_eq_none (Nat.le_of_not_lt hb)] at h
theorem old {wr w2 : World} (hb : Below wr.heap.size wr w2) {p : Addr} {v : Value} (h : wr.cell? p = some v) : w2.cell? p = some v := by rw [hb.cell (cell_lt h)]; exact h
theorem keep6 {w wr w2 : World} {p1 p2 p3 p4 p5 p6 : Addr} {v1 v2 v3 v4 v5 v6 : Value}
    (h : Below w.heap.size w wr ∧ wr.cell? p1 = some v1 ∧ wr.cell? p2 = some v2 ∧ wr.cell? p3 = some v3 ∧ wr.cell? p4 = some v4 ∧ wr.cell? p5 = some v5 ∧ wr.cell? p6 = some v6) (hb : Below wr.heap.size wr w2) :
    Below w.heap.size w w2 ∧ w2.cell? p1 = some v1 ∧ w2.cell? p2 = some v2 ∧ w2.cell? p3 = some v3 ∧ w2.cell? p4 = some v4 ∧ w2.cell? p5 = some v5 ∧ w2.cell? p6 = some v6 :=
  ⟨h.1.trans (hb.mono h.1.size), old hb h.2.1, old hb h.2.2.1, old hb h.2.2.2.1, old hb h.2.2.2.2.1, old hb h.2.2.2.2.2.1, old hb h.2.2.2.2.2.2⟩
theorem keep8 {w wr w2 : World} {p1 p2 p3 p4 p5 p6 p7 p8 : Addr} {v1 v2 v3 v4 v5 v6 v7 v8 : Value}
    (h : Below w.heap.size w wr ∧ wr.cell? p1 = some v1 ∧ wr.cell? p2 = some v2 ∧ wr.cell? p3 = some v3 ∧ wr.cell? p4 = some v4 ∧ wr.cell? p5 = some v5 ∧ wr.cell? p6 = some v6 ∧ wr.cell? p7 = some v7 ∧ wr.cell? p8 = some v8) (hb : Below wr.heap.size wr w2) :
    Below w.heap.size w w2 ∧ w2.cell? p1 = some v1 ∧ w2.cell? p2 = some v2 ∧ w2.cell? p3 = some v3 ∧ w2.cell? p4 = some v4 ∧ w2.cell? p5 = some v5 ∧ w2.cell? p6 = some v6 ∧ w2.cell? p7 = some v7 ∧ w2.cell? p8 = some v8 :=
  ⟨h.1.trans (hb.mono h.1.size), old hb h.2.1, old hb h.2.2.1, old hb h.2.2.2.1, old hb h.2.2.2.2.1, old hb h.2.2.2.2.2.1, old hb h.2.2.2.2.2.2.1, old hb h.2.2.2.2.2.2.2.1, old hb h.2.2.2.2.2.2.2.2⟩
theorem bel_of {w wr : World} {p : Prop} (h : Below w.heap.size w wr ∧ p) : Below w.heap.size w wr := h.1

def prX (lon lat : Int) : Int := if inB lon lat = true then px lon else 0
def prY (lon lat : Int) : Int := if inB lon lat = true then py lat else 0
def prE (lon lat : Int) : Int := if inB lon lat = true then 0 else 11
theorem ret_pe {a b c x y z : Int} (h1 : a = x) (h2 : b = y) (h3 : c = z) : Ending.returned (.tuple #[pt a b, .int .i64 c]) = .returned (.tuple #[pt x y, .int .i64 z]) := by rw [h1, h2, h3]

set_option maxHeartbeats 1000000 in
theorem project_any (lon lat : Int) (w : World) :
    Calls Try.prog 8 #[pt lon lat] w fun e w' => e = .returned (.tuple #[pt (prX lon lat) (prY lon lat), .int .i64 (prE lon lat)]) ∧ Below w.heap.size w w' := by
  by_cases hi : inB lon lat = true
  · obtain ⟨h1, h2, h3, h4⟩ := inB_iff.1 hi
    have e1 := Lib.hid (show prX lon lat = px lon by unfold prX; rw [if_pos hi])
    have e2 := Lib.hid (show prY lon lat = py lat by unfold prY; rw [if_pos hi])
    have e3 := Lib.hid (show prE lon lat = 0 by unfold prE; rw [if_pos hi])
    clear hi
    go_enter Try.func8, Try.ntmps8
    go_wp2_with (first | (go_at_call 29; refine (floor_any _ _ _ (by omega) (by omega) (by omega)).mono ?_; rintro e w' ⟨rfl, rfl⟩))
    all_goals
      refine bodyPost_ret (by simp [results, Try.results8, go_sem]; rfl) rfl ⟨?_, ?_⟩
      · exact ret_pe (by rw [e1.out]; unfold px; omega) (by rw [e2.out]; unfold py; omega) e3.out.symm
      · exact ((Below.refl _ _).alloc (Nat.le_refl _) _).alloc (by simp) _
  · have e1 := Lib.hid (show prX lon lat = 0 by unfold prX; rw [if_neg hi])
    have e2 := Lib.hid (show prY lon lat = 0 by unfold prY; rw [if_neg hi])
    have e3 := Lib.hid (show prE lon lat = 11 by unfold prE; rw [if_neg hi])
    have hn : lon < -1800000000 ∨ (-1800000000 ≤ lon ∧ 1800000000 < lon) ∨ (-1800000000 ≤ lon ∧ lon ≤ 1800000000 ∧ lat < -900000000) ∨ (-1800000000 ≤ lon ∧ lon ≤ 1800000000 ∧ -900000000 ≤ lat ∧ 900000000 < lat) := by
      rw [inB_iff] at hi; omega
    clear hi
    rcases hn with h | ⟨h1, h⟩ | ⟨h1, h2, h⟩ | ⟨h1, h2, h3, h⟩
    all_goals
      go_enter Try.func8, Try.ntmps8
      go_wp2
      refine bodyPost_ret (by simp [results, Try.results8, go_sem]; rfl) rfl ⟨?_, ?_⟩
      · exact ret_pe e1.out.symm e2.out.symm e3.out.symm
      · exact ((Below.refl _ _).alloc (Nat.le_refl _) _).alloc (by simp) _

set_option maxHeartbeats 1000000 in
theorem projectr_any (lon lat : Int) (w : World) :
    Calls Try.prog 9 #[pt lon lat] w fun e w' => e = .returned (.tuple #[pt (prX lon lat) (prY lon lat), .int .i64 (prE lon lat)]) ∧ Below w.heap.size w w' := by
  by_cases hi : inB lon lat = true
  · obtain ⟨h1, h2, h3, h4⟩ := inB_iff.1 hi
    have e1 := Lib.hid (show prX lon lat = px lon by unfold prX; rw [if_pos hi])
    have e2 := Lib.hid (show prY lon lat = py lat by unfold prY; rw [if_pos hi])
    have e3 := Lib.hid (show prE lon lat = 0 by unfold prE; rw [if_pos hi])
    clear hi
    go_enter Try.func9, Try.ntmps9
    go_wp2
    all_goals
      refine bodyPost_ret (by simp [results, Try.results9, go_sem]; rfl) rfl ⟨?_, ?_⟩
      · exact ret_pe (by rw [e1.out]; unfold px; omega) (by rw [e2.out]; unfold py; omega) e3.out.symm
      · exact ((Below.refl _ _).alloc (Nat.le_refl _) _).alloc (by simp) _
  · have e1 := Lib.hid (show prX lon lat = 0 by unfold prX; rw [if_neg hi])
    have e2 := Lib.hid (show prY lon lat = 0 by unfold prY; rw [if_neg hi])
    have e3 := Lib.hid (show prE lon lat = 11 by unfold prE; rw [if_neg hi])
    have hn : lon < -1800000000 ∨ (-1800000000 ≤ lon ∧ 1800000000 < lon) ∨ (-1800000000 ≤ lon ∧ lon ≤ 1800000000 ∧ lat < -900000000) ∨ (-1800000000 ≤ lon ∧ lon ≤ 1800000000 ∧ -900000000 ≤ lat ∧ 900000000 < lat) := by
      rw [inB_iff] at hi; omega
    clear hi
    rcases hn with h | ⟨h1, h⟩ | ⟨h1, h2, h⟩ | ⟨h1, h2, h3, h⟩
    all_goals
      go_enter Try.func9, Try.ntmps9
      go_wp2
      refine bodyPost_ret (by simp [results, Try.results9, go_sem]; rfl) rfl ⟨?_, ?_⟩
      · exact ret_pe e1.out.symm e2.out.symm e3.out.symm
      · exact ((Below.refl _ _).alloc (Nat.le_refl _) _).alloc (by simp) _
end Go.Proofs.Ytahaigamigkhbaa
