/- Contracts of the grid's small functions, for seg and hilbert. -/
import Derived.Test.YtfabfnjfnildhaaRows
import Derived.Test.YtfabfnjfnildhaaMath
import Derived.WalkKit
import Derived.ProofKit
import Derived.OpenShut
import Derived.Deep.QuietTactic
import Derived.BigQuiet
import Derived.Lib.Hide
import Derived.Lib.SmallJoins
import Derived.Deep.Slices
import Derived.ChangeSame
import Derived.WalkSmall
import Derived.WalkMore
import Derived.Deep.LoopGhost
import Derived.Deep.DeepCutAuto
import Derived.Deep.CutBlock
import Derived.Deep.RegionHeld3
import Derived.StillTailTactics
namespace Go.Proofs.Ytfabfnjfnildhaa
open Go.ChangeShapes Go.WideShapes Go.ChangeAt Go.RowKit Go.Joins Go.Deep

theorem ret_i64 {a b : Int} (h : a = b) : Ending.returned (.int .i64 a) = .returned (.int .i64 b) := by rw [h]
theorem ret_bool {a b : Bool} (h : a = b) : Ending.returned (.bool a) = .returned (.bool b) := by rw [h]
def I64 (a : Int) : Prop := -9223372036854775808 ≤ a ∧ a ≤ 9223372036854775807
abbrev pt (x y : Int) : Value := .agg #[.int .i64 x, .int .i64 y]
abbrev bx (a b c d : Int) : Value := .agg #[.int .i64 a, .int .i64 b, .int .i64 c, .int .i64 d]

theorem clamp_any (x lo hi : Int) (w : World) :
    Calls Try.prog 66 #[.int .i64 x, .int .i64 lo, .int .i64 hi] w fun e w' => e = .returned (.int .i64 (clampZ x lo hi)) ∧ w = w' := by
  go_enter Try.func66, Try.ntmps66
  go_wp2
  all_goals
    go_ret
    exact ⟨ret_i64 (by unfold clampZ; split <;> (try split) <;> omega), rfl⟩

theorem ret_bx {a b c d x y z u : Int} (h1 : a = x) (h2 : b = y) (h3 : c = z) (h4 : d = u) : Ending.returned (bx a b c d) = .returned (bx x y z u) := by rw [h1, h2, h3, h4]
theorem ret_pt {a b x y : Int} (h1 : a = x) (h2 : b = y) : Ending.returned (pt a b) = .returned (pt x y) := by rw [h1, h2]
set_option maxHeartbeats 1000000 in
theorem span_any (a b c d x y z u : Int) (w : World) :
    Calls Try.prog 59 #[bx a b c d, bx x y z u] w fun e w' => e = .returned (bx (minZ a x) (minZ b y) (maxZ c z) (maxZ d u)) ∧ Below w.heap.size w w' := by
  go_enter Try.func59, Try.ntmps59
  go_wp2
  all_goals
    refine bodyPost_ret (by simp [results, Try.results59, go_sem]; rfl) rfl ⟨?_, ?_⟩
    · exact ret_bx (by unfold minZ; split <;> omega) (by unfold minZ; split <;> omega) (by unfold maxZ; split <;> omega) (by unfold maxZ; split <;> omega)
    · exact (((Below.refl _ _).alloc (Nat.le_refl _) _).alloc (by simp) _).alloc (by simp; omega) _

theorem same {P : Program} {f : FuncId} {args : Array Value} {w : World} {v : Value}
    (h : Calls P f args w fun e w' => e = .returned v ∧ w = w') : Calls P f args w fun e w' => e = .returned v ∧ w' = w :=
  h.mono fun _ _ ⟨he, hm⟩ => ⟨he, hm.symm⟩
set_option maxHeartbeats 1000000 in
theorem nearest_any (a b c d x y : Int) (w : World) :
    Calls Try.prog 61 #[bx a b c d, pt x y] w fun e w' => e = .returned (pt (clampZ x a c) (clampZ y b d)) ∧ Below w.heap.size w w' := by
  go_enter Try.func61, Try.ntmps61
  go_wp2_with fail
  go_region_held3 (fun w' => w'.cell? ⟨w.heap.size, 0, none⟩ = some (.int .i64 a) ∧ w'.cell? ⟨w.heap.size, 1, none⟩ = some (.int .i64 b) ∧ w'.cell? ⟨w.heap.size, 2, none⟩ = some (.int .i64 c) ∧ w'.cell? ⟨w.heap.size, 3, none⟩ = some (.int .i64 d) ∧ w'.cell? ⟨w.heap.size + 1, 0, none⟩ = some (.int .i64 x) ∧ w'.cell? ⟨w.heap.size + 1, 1, none⟩ = some (.int .i64 y))
    (go_keep) (first | (go_at_call 66; (with_reducible refine (clamp_any _ _ _ _).mono ?_); rintro e w' ⟨rfl, rfl⟩))
  go_wp2
  refine bodyPost_ret (v := pt (clampZ x a c) (clampZ y b d)) (by simp [results, Try.results61, go_sem]) rfl ⟨rfl, ?_⟩
  exact ((((Below.refl _ _).alloc (Nat.le_refl _) _).alloc (by simp) _).alloc (by simp; omega) _).drew
theorem bcell {W w1 : World} (hb : Below W.heap.size W w1) : (∀ b o, b < W.heap.size → w1.cell? ⟨b, o, none⟩ = W.cell? ⟨b, o, none⟩) ∧ (∀ b o, b < W.heap.size → w1.frozen? ⟨b, o, none⟩ = W.frozen? ⟨b, o, none⟩) :=
  ⟨fun b o h => hb.cell (p := ⟨b, o, none⟩) h, fun b o h => hb.frozen (p := ⟨b, o, none⟩) h⟩
theorem cell_lt {w : World} {p : Addr} {v : Value} (h : w.cell? p = some v) : p.block < w.heap.size := by
  by_cases hb : p.block < w.heap.size
  · exact hb
  · exfalso
    unfold World.cell? at h
    simp [Array.getElem?_eq_none (Nat.le_of_not_lt hb)] at h
theorem old {wr w2 : World} (hb : Below wr.heap.size wr w2) {p : Addr} {v : Value} (h : wr.cell? p = some v) : w2.cell? p = some v := by rw [hb.cell (cell_lt h)]; exact h
theorem keep6 {w wr w2 : World} {p1 p2 p3 p4 p5 p6 : Addr} {v1 v2 v3 v4 v5 v6 : Value}
    (h : Below w.heap.size w wr ∧ wr.cell? p1 = some v1 ∧ wr.cell? p2 = some v2 ∧ wr.cell? p3 = some v3 ∧ wr.cell? p4 = some v4 ∧ wr.cell? p5 = some v5 ∧ wr.cell? p6 = some v6) (hb : Below wr.heap.size wr w2) :
    Below w.heap.size w w2 ∧ w2.cell? p1 = some v1 ∧ w2.cell? p2 = some v2 ∧ w2.cell? p3 = some v3 ∧ w2.cell? p4 = some v4 ∧ w2.cell? p5 = some v5 ∧ w2.cell? p6 = some v6 :=
  ⟨h.1.trans (hb.mono h.1.size), old hb h.2.1, old hb h.2.2.1, old hb h.2.2.2.1, old hb h.2.2.2.2.1, old hb h.2.2.2.2.2.1, old hb h.2.2.2.2.2.2⟩
theorem keep8 {w wr w2 : World} {p1 p2 p3 p4 p5 p6 p7 p8 : Addr} {v1 v2 v3 v4 v5 v6 v7 v8 : Value}
    (h : Below w.heap.size w wr ∧ wr.cell? p1 = some v1 ∧ wr.cell? p2 = some v2 ∧ wr.cell? p3 = some v3 ∧ wr.cell? p4 = some v4 ∧ wr.cell? p5 = some v5 ∧ wr.cell? p6 = some v6 ∧ wr.cell? p7 = some v7 ∧ wr.cell? p8 = some v8) (hb : Below wr.heap.size wr w2) :
    Below w.heap.size w w2 ∧ w2.cell? p1 = some v1 ∧ w2.cell? p2 = some v2 ∧ w2.cell? p3 = some v3 ∧ w2.cell? p4 = some v4 ∧ w2.cell? p5 = some v5 ∧ w2.cell? p6 = some v6 ∧ w2.cell? p7 = some v7 ∧ w2.cell? p8 = some v8 :=
  ⟨h.1.trans (hb.mono h.1.size), old hb h.2.1, old hb h.2.2.1, old hb h.2.2.2.1, old hb h.2.2.2.2.1, old hb h.2.2.2.2.2.1, old hb h.2.2.2.2.2.2.1, old hb h.2.2.2.2.2.2.2.1, old hb h.2.2.2.2.2.2.2.2⟩
theorem bel_of {w wr : World} {p : Prop} (h : Below w.heap.size w wr ∧ p) : Below w.heap.size w wr := h.1

theorem vld_clamp {x y : Int} (h : vldB x y = true) : clampZ x 0 32767 = x ∧ clampZ y 0 32767 = y := by
  obtain ⟨h1, h2, h3, h4⟩ := vldB_iff.1 h
  exact ⟨clamp_eq.2 ⟨h1, h2⟩, clamp_eq.2 ⟨h3, h4⟩⟩
theorem vld_not {x y : Int} (h : ¬ vldB x y = true) : (clampZ x 0 32767 == x && clampZ y 0 32767 == y) = false := by
  rw [vldB_iff] at h
  have := @clamp_eq x 0 32767
  have := @clamp_eq y 0 32767
  simp; omega

set_option maxHeartbeats 1000000 in
theorem valid_any (x y : Int) (w : World) :
    Calls Try.prog 53 #[pt x y] w fun e w' => e = .returned (.bool (vldB x y)) ∧ Below w.heap.size w w' := by
  have S0 : Hid (∀ W, W = ((w.alloc (.cells #[.int .i64 x, .int .i64 y] 23)).alloc (.cells #[.int .i64 0, .int .i64 0, .int .i64 32767, .int .i64 32767] 46)).drew →
      Below w.heap.size w W ∧ W.cell? ⟨w.heap.size + 1, 0, none⟩ = some (.int .i64 0) ∧ W.cell? ⟨w.heap.size + 1, 1, none⟩ = some (.int .i64 0) ∧ W.cell? ⟨w.heap.size + 1, 2, none⟩ = some (.int .i64 32767) ∧ W.cell? ⟨w.heap.size + 1, 3, none⟩ = some (.int .i64 32767) ∧ W.cell? ⟨w.heap.size, 0, none⟩ = some (.int .i64 x) ∧ W.cell? ⟨w.heap.size, 1, none⟩ = some (.int .i64 y)) := by
    intro W e; subst e
    exact ⟨(((Below.refl _ _).alloc (Nat.le_refl _) _).alloc (by simp) _).drew, by go_simp, by go_simp, by go_simp, by go_simp, by go_simp, by go_simp⟩
  have hcase : (vldB x y = true ∧ clampZ x 0 32767 = x ∧ clampZ y 0 32767 = y) ∨ (vldB x y = false ∧ (clampZ x 0 32767 == x) = false) ∨ (vldB x y = false ∧ clampZ x 0 32767 = x ∧ (clampZ y 0 32767 == y) = false) := by
    have e1 := @clamp_eq x 0 32767
    have e2 := @clamp_eq y 0 32767
    have e3 := @vldB_iff x y
    cases hv : vldB x y
    · simp [hv] at e3
      by_cases hx : clampZ x 0 32767 = x
      · exact Or.inr (Or.inr ⟨rfl, hx, by simp; omega⟩)
      · exact Or.inr (Or.inl ⟨rfl, by simpa using hx⟩)
    · obtain ⟨a, b⟩ := vld_clamp hv
      exact Or.inl ⟨rfl, a, b⟩
  rcases hcase with ⟨hv, k1, k2⟩ | ⟨hv, k1⟩ | ⟨hv, k1, k2⟩
  all_goals
    have HV := Lib.hid hv; clear hv
    go_enter Try.func53, Try.ntmps53
    go_wp2_with fail
    go_region_held3 (fun w' => Below w.heap.size w w' ∧ w'.cell? ⟨w.heap.size + 1, 0, none⟩ = some (.int .i64 0) ∧ w'.cell? ⟨w.heap.size + 1, 1, none⟩ = some (.int .i64 0) ∧ w'.cell? ⟨w.heap.size + 1, 2, none⟩ = some (.int .i64 32767) ∧ w'.cell? ⟨w.heap.size + 1, 3, none⟩ = some (.int .i64 32767) ∧ w'.cell? ⟨w.heap.size, 0, none⟩ = some (.int .i64 x) ∧ w'.cell? ⟨w.heap.size, 1, none⟩ = some (.int .i64 y))
      (first | exact S0.out _ rfl | assumption | exact keep6 (by assumption) (by assumption))
      (first | (go_at_call 61; (with_reducible refine (nearest_any _ _ _ _ _ _ _).mono ?_); rintro e w1 ⟨rfl, b1⟩))
    all_goals go_wp2
    all_goals go_ret
    all_goals exact ⟨ret_bool HV.out.symm, bel_of (by assumption)⟩

set_option maxHeartbeats 1000000 in
theorem validr_any (x y : Int) (w : World) :
    Calls Try.prog 31 #[pt x y] w fun e w' => e = .returned (.bool (vldB x y)) ∧ Below w.heap.size w w' := by
  go_enter Try.func31, Try.ntmps31
  go_wp2
  all_goals go_ret
  all_goals refine ⟨ret_bool ?_, (Below.refl _ _).alloc (Nat.le_refl _) _⟩
  all_goals (have e3 := @vldB_iff x y; cases hv : vldB x y <;> simp [hv] at e3 ⊢ <;> omega)

end Go.Proofs.Ytfabfnjfnildhaa
