/- The walk of the law on repetitions. -/
import Derived.Test.YtpdpaahieplloaaWh
import Derived.Deep.RegionWith
namespace Go.Proofs.Ytpdpaahieplloaa
open Go.ChangeShapes Go.WideShapes Go.ChangeAt Go.RowKit Go.Joins Go.Deep

theorem Bx.drew {w wr : World} {x y z : Value} (h : Bx w wr x y z) : Bx w wr.drew x y z := ⟨h.1.drew, h.2.1, h.2.2.1, h.2.2.2.1, h.2.2.2.2⟩

theorem open_both {l : List Sp} {f e t T : Int} {c : Bool} {v : Value} {w : World} {q : Int} (h1 : openZ l f e t = c) (h2 : openZ l f e T = c) (ht : t ≤ 9223372036854775807) (hT : T ≤ 9223372036854775807) (hv : IsSched w v l f e) (hq : q = t ∨ q = T) :
    Calls Try.prog 12 #[v, .int .i64 q] w fun en w' => en = .returned (.bool c) ∧ Below w.heap.size w w' := by
  rcases hq with rfl | rfl
  · exact open_at v w hv ht h1
  · exact open_at v w hv hT h2

set_option maxRecDepth 100000 in
set_option maxHeartbeats 40000000 in
theorem scheduleRepeats_walk (v : Value) (t d : Int) (w : World) (hv : ∃ l f e, IsSched w v l f e) (_ : (Lit.int .i64 t).wf = true) (_ : (Lit.int .i64 d).wf = true) :
    Calls Try.prog 8 #[v, .int .i64 t, .int .i64 d] w fun e w' => e = .returned (.bool true) ∧ Below w.heap.size w w' := by
  obtain ⟨l, f, e, hv⟩ := hv
  have HV := Lib.hid hv
  obtain ⟨a, len, cap, rfl, hm, _, _, _⟩ := hv
  unfold maxLen at hm
  by_cases h1 : 40 < len
  · go_enter Try.func8, Try.ntmps8
    go_wp2_with fail
    refine (lives_any _).mono ?_; rintro en w1 ⟨rfl, b⟩
    go_wp2_with fail
    go_ret
    exact ⟨rfl, ((Bx.start w _ _ _ _).next b).1⟩
  · by_cases h2 : t < 0
    · go_enter Try.func8, Try.ntmps8
      go_wp2_with fail
      refine (lives_any _).mono ?_; rintro en w1 ⟨rfl, b⟩
      go_wp2_with fail
      go_ret
      exact ⟨rfl, ((Bx.start w _ _ _ _).next b).1⟩
    · by_cases h3 : 1099511627776 < t
      · go_enter Try.func8, Try.ntmps8
        go_wp2_with fail
        refine (lives_any _).mono ?_; rintro en w1 ⟨rfl, b⟩
        go_wp2_with fail
        go_ret
        exact ⟨rfl, ((Bx.start w _ _ _ _).next b).1⟩
      · by_cases h4 : d < 0
        · go_enter Try.func8, Try.ntmps8
          go_wp2_with fail
          refine (lives_any _).mono ?_; rintro en w1 ⟨rfl, b⟩
          go_wp2_with fail
          go_ret
          exact ⟨rfl, ((Bx.start w _ _ _ _).next b).1⟩
        · by_cases h5 : 1000 < d
          · go_enter Try.func8, Try.ntmps8
            go_wp2_with fail
            refine (lives_any _).mono ?_; rintro en w1 ⟨rfl, b⟩
            go_wp2_with fail
            go_ret
            exact ⟨rfl, ((Bx.start w _ _ _ _).next b).1⟩
          · have t0 : 0 ≤ t := by omega
            obtain ⟨D, hD⟩ : ∃ D, d * 1440 = D := ⟨_, rfl⟩
            have D0 : 0 ≤ D := by omega
            have D1 : D ≤ 1440000 := by omega
            obtain ⟨T, hT⟩ : ∃ T, t + D = T := ⟨_, rfl⟩
            have T0 : 0 ≤ T := by omega
            have T1 : T ≤ 1099513067776 := by omega
            obtain ⟨c, hc⟩ : ∃ c, openZ l f e t = c := ⟨_, rfl⟩
            have hc2 : openZ l f e T = c := by
              rw [← hT, ← hD, open_shift d t0 (by omega)]; exact hc
            have C1 := Lib.hid hc; have C2 := Lib.hid hc2
            have sh : ∀ x o, IsNext l f e t x o → IsNext l f e T (if o then x + D else 0) o := fun x o h => by
              have := next_shift d h t0 (by omega) (by omega)
              rw [hD, hT] at this; exact this
            have SH := Lib.hid sh
            clear hc hc2 sh
            have S0 := Lib.hid (Bx.start w (.slice a len cap) (.int .i64 f) (.int .i64 e) 24)
            go_enter Try.func8, Try.ntmps8
            go_wp2_with fail
            refine (next_any _ l f e t _ (HV.out.below S0.out.1)).mono ?_; rintro en w1 ⟨x, o, hn, rfl, b⟩
            have HN := Lib.hid hn; have S1 := Lib.hid (S0.out.next b); clear b hn
            have D' := S1.out.cells
            go_wp2_with fail
            refine (next_any _ l f e T _ (HV.out.below S1.out.1)).mono ?_; rintro en w2 ⟨y, q, hn', rfl, b⟩
            obtain ⟨hy, rfl⟩ := next_unique hn' (SH.out x o HN.out)
            have S2a := Lib.hid (S1.out.next b); have S2 := Lib.hid (S2a.out.drewN 1); clear b hn' D'
            have wD : IntKind.i64.wrap D = D := by rw [IntKind.wrap_i64]; omega
            have wT : IntKind.i64.wrap T = T := by rw [IntKind.wrap_i64]; omega
            cases q
            · have hy0 : y = 0 := by simpa using hy
              clear hy
              subst hy0
              have F0 := S2a.out
              have F1 := S2a.out.drew
              unfold Bx at F0 F1
              clear S0 S1 SH HN F0 F1
              go_wp2_with fail
              first
              | (go_region_held (fun w' => Below w.heap.size w w' ∧ w.heap.size < w'.heap.size ∧ w'.cell? ⟨w.heap.size, 0, none⟩ = some (.slice a len cap) ∧ w'.cell? ⟨w.heap.size, 1, none⟩ = some (.int .i64 f) ∧ w'.cell? ⟨w.heap.size, 2, none⟩ = some (.int .i64 e))
                  (first | exact S2.out | assumption | exact bx_next (by assumption) (by assumption))
                  (first
                    | (go_at_call 12; (with_reducible refine (open_both C1.out C2.out (by omega) (by omega) (bx_sched HV.out (by assumption)) (by first | exact Or.inl rfl | exact Or.inr rfl)).mono ?_); rintro en w1 ⟨rfl, b1⟩)
                    | (go_at_call 9; (with_reducible refine (lives_any _).mono ?_); rintro en w1 ⟨rfl, b1⟩)))
              | fail
              all_goals go_wp2
              all_goals go_ret
              all_goals exact ⟨rfl, bx_below (by assumption)⟩
            · have hx := next_yes HN.out t0
              have x1 := hx.2.1; have x2 := hx.2.2.1
              clear hx
              have hX : x + D = y := by simpa using hy.symm
              have wX : IntKind.i64.wrap y = y := by rw [IntKind.wrap_i64]; omega
              have yy : (y == y) = true := by simp
              clear hy
              go_wp2_with fail
              go_region_held3 (fun w' => Below w.heap.size w w' ∧ w.heap.size < w'.heap.size ∧ w'.cell? ⟨w.heap.size, 0, none⟩ = some (.slice a len cap) ∧ w'.cell? ⟨w.heap.size, 1, none⟩ = some (.int .i64 f) ∧ w'.cell? ⟨w.heap.size, 2, none⟩ = some (.int .i64 e))
                (first | exact S2.out | assumption | exact bx_next (by assumption) (by assumption))
                (first
                  | (go_at_call 12; (with_reducible refine (open_both C1.out C2.out (by omega) (by omega) (bx_sched HV.out (by assumption)) (by first | exact Or.inl rfl | exact Or.inr rfl)).mono ?_); rintro en w1 ⟨rfl, b1⟩)
                  | (go_at_call 9; (with_reducible refine (lives_any _).mono ?_); rintro en w1 ⟨rfl, b1⟩))
              all_goals go_wp2
              all_goals go_ret
              all_goals exact ⟨rfl, bx_below (by assumption)⟩
end Go.Proofs.Ytpdpaahieplloaa
