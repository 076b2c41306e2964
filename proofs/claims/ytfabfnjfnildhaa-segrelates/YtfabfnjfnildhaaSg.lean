/- seg: shareMore at the example. -/
import Derived.Test.YtfabfnjfnildhaaSf
namespace Go.Proofs.Ytfabfnjfnildhaa
open Go.ChangeShapes Go.WideShapes Go.ChangeAt Go.RowKit Go.Joins Go.Deep

set_option maxRecDepth 100000 in
set_option maxHeartbeats 4000000 in
theorem share_ex (w : World) : Calls Try.prog 46 #[sg 0 0 4 0, sg 2 0 6 0] w fun e' w' => e' = .returned (.bool true) ∧ Below w.heap.size w w' := by
  have CA := Lib.hid (fun W => of_not 0 0 4 0 W (by decide))
  have CB := Lib.hid (fun W => of_not 2 0 6 0 W (by decide))
  have CL1 := Lib.hid (fun W => less_any (0) (0) (6) (0) W)
  have CL2 := Lib.hid (fun W => less_any (2) (0) (4) (0) W)
  rw [show lsB 0 0 6 0 = true by decide] at CL1
  rw [show lsB 2 0 4 0 = true by decide] at CL2
  go_enter Try.func46, Try.ntmps46
  go_wp2_with fail
  have S0 : Hid (∀ W, W = ((w.alloc (.cells #[.int .i64 0, .int .i64 0, .int .i64 4, .int .i64 0] 25)).alloc (.cells #[.int .i64 2, .int .i64 0, .int .i64 6, .int .i64 0] 25)).drew → Below w.heap.size w W ∧ W.cell? ⟨w.heap.size, 0, none⟩ = some (.int .i64 0) ∧ W.cell? ⟨w.heap.size, 1, none⟩ = some (.int .i64 0) ∧ W.cell? ⟨w.heap.size, 2, none⟩ = some (.int .i64 4) ∧ W.cell? ⟨w.heap.size, 3, none⟩ = some (.int .i64 0) ∧ W.cell? ⟨w.heap.size + 1, 0, none⟩ = some (.int .i64 2) ∧ W.cell? ⟨w.heap.size + 1, 1, none⟩ = some (.int .i64 0) ∧ W.cell? ⟨w.heap.size + 1, 2, none⟩ = some (.int .i64 6) ∧ W.cell? ⟨w.heap.size + 1, 3, none⟩ = some (.int .i64 0) ∧ W.frozen? ⟨w.heap.size, 0, none⟩ = false ∧ W.frozen? ⟨w.heap.size, 1, none⟩ = false ∧ W.frozen? ⟨w.heap.size, 2, none⟩ = false ∧ W.frozen? ⟨w.heap.size, 3, none⟩ = false ∧ W.frozen? ⟨w.heap.size + 1, 0, none⟩ = false ∧ W.frozen? ⟨w.heap.size + 1, 1, none⟩ = false ∧ W.frozen? ⟨w.heap.size + 1, 2, none⟩ = false ∧ W.frozen? ⟨w.heap.size + 1, 3, none⟩ = false) := by
    intro W e; subst e
    exact ⟨(((Below.refl _ _).alloc (Nat.le_refl _) _).alloc (by simp) _).drew, by go_simp, by go_simp, by go_simp, by go_simp, by go_simp, by go_simp, by go_simp, by go_simp, by go_simp, by go_simp, by go_simp, by go_simp, by go_simp, by go_simp, by go_simp, by go_simp⟩
  go_region_held3 (fun w' => Below w.heap.size w w' ∧ w'.cell? ⟨w.heap.size, 0, none⟩ = some (.int .i64 0) ∧ w'.cell? ⟨w.heap.size, 1, none⟩ = some (.int .i64 0) ∧ w'.cell? ⟨w.heap.size, 2, none⟩ = some (.int .i64 4) ∧ w'.cell? ⟨w.heap.size, 3, none⟩ = some (.int .i64 0) ∧ w'.cell? ⟨w.heap.size + 1, 0, none⟩ = some (.int .i64 2) ∧ w'.cell? ⟨w.heap.size + 1, 1, none⟩ = some (.int .i64 0) ∧ w'.cell? ⟨w.heap.size + 1, 2, none⟩ = some (.int .i64 6) ∧ w'.cell? ⟨w.heap.size + 1, 3, none⟩ = some (.int .i64 0) ∧ w'.frozen? ⟨w.heap.size, 0, none⟩ = false ∧ w'.frozen? ⟨w.heap.size, 1, none⟩ = false ∧ w'.frozen? ⟨w.heap.size, 2, none⟩ = false ∧ w'.frozen? ⟨w.heap.size, 3, none⟩ = false ∧ w'.frozen? ⟨w.heap.size + 1, 0, none⟩ = false ∧ w'.frozen? ⟨w.heap.size + 1, 1, none⟩ = false ∧ w'.frozen? ⟨w.heap.size + 1, 2, none⟩ = false ∧ w'.frozen? ⟨w.heap.size + 1, 3, none⟩ = false)
    (first | (with_reducible assumption) | (with_reducible exact keepF8 (by assumption) (by assumption)) | (with_reducible exact keepA (by assumption) (Nat.le_refl _) (Nat.le_refl _) (Nat.le_refl _) (Nat.le_refl _)) | (with_reducible exact keepB (by assumption) (Nat.le_succ _) (Nat.le_succ _) (Nat.le_succ _) (Nat.le_succ _)) | (with_reducible exact S0.out _ rfl))
    (first | (go_at_call 14; (with_reducible refine (CA.out _).mono ?_); rintro e' w9 ⟨rfl, b9⟩) | (go_at_call 14; (with_reducible refine (CB.out _).mono ?_); rintro e' w9 ⟨rfl, b9⟩))
  all_goals rename_i hHeld
  all_goals obtain ⟨q0, q1, q2, q3, q4, q5, q6, q7, q8, r1, r2, r3, r4, r5, r6, r7, r8⟩ := hHeld
  all_goals have Q0 := Lib.hid q0; clear q0 r1 r2 r3 r4 r5 r6 r7 r8 S0
  all_goals
    go_wp2_with fail
    refine (CL1.out _).mono ?_; rintro e' w3 ⟨rfl, hb3⟩
    replace q1 := old hb3 q1; replace q2 := old hb3 q2; replace q3 := old hb3 q3; replace q4 := old hb3 q4; replace q5 := old hb3 q5; replace q6 := old hb3 q6; replace q7 := old hb3 q7; replace q8 := old hb3 q8
    have Q1 := Lib.hid (Q0.out.trans (hb3.mono Q0.out.size)); clear hb3 Q0
    go_wp2_with fail
    refine (CL2.out _).mono ?_; rintro e' w4 ⟨rfl, hb4⟩
    have Q2 := Lib.hid (Q1.out.trans (hb4.mono Q1.out.size)); clear hb4 Q1
    go_wp2_with fail
    go_ret
    exact ⟨rfl, Q2.out⟩
end Go.Proofs.Ytfabfnjfnildhaa
