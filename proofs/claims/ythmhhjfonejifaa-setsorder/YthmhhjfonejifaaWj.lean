/- The walk of SetsOrder. -/
import Derived.Test.YthmhhjfonejifaaWi
namespace Go.Proofs.Ythmhhjfonejifaa
open Go.ChangeShapes Go.WideShapes Go.ChangeAt Go.RowKit Go.Joins Go.Deep

theorem qsame {P : Program} {f : FuncId} {args : Array Value} {w : World} {n : Nat} {v : Value}
    (h : Calls P f args (w.drewN n) fun e w' => e = .returned v ∧ w.drewN n = w') : Calls P f args (w.drewN n) fun e w'' => e = .returned v ∧ ∃ m, w'' = w.drewN m :=
  h.mono fun _ _ ⟨he, hm⟩ => ⟨he, n, hm.symm⟩
theorem has_at {w : World} {v : Value} {l : List Int} {x : Int} {d : Bool} (h : IntsAt w v l) (hl : l.length ≤ 1000) (hd : decide (x ∈ l) = d) : Calls Try.prog 18 #[v, .int .i64 x] w fun e w' => e = .returned (.bool d) ∧ w = w' := by
  have := has_any h x (by omega)
  rw [hd] at this; exact this
theorem bel_of {w wr : World} {p : Prop} (h : Below w.heap.size w wr ∧ p) : Below w.heap.size w wr := h.1
theorem keep1 {w wr w2 : World} {p : Addr} {v : Value} (h : Below w.heap.size w wr ∧ wr.cell? p = some v) (hb : Below wr.heap.size wr w2) : Below w.heap.size w w2 ∧ w2.cell? p = some v :=
  ⟨h.1.trans (hb.mono h.1.size), oldc hb h.2⟩
/- Diff, and whether an element is in it -/
def DiffHas (x : Int) (d : Bool) (w : World) (e : Ending) (w' : World) : Prop :=
  ∃ a n c, e = .returned (.slice a n c) ∧ Below w.heap.size w w' ∧ ∀ w3, Below w'.heap.size w' w3 → Calls Try.prog 18 #[.slice a n c, .int .i64 x] w3 fun e w4 => e = .returned (.bool d) ∧ w3 = w4
theorem diff_has {w : World} {va vb : Value} {l m : List Int} {x : Int} {d : Bool} (h : IntsAt w va l) (h' : IntsAt w vb m) (hl : l.length ≤ 200) (hm : m.length ≤ 200) (hx : x ∈ l) (hd : decide (x ∈ m) = d) : Calls Try.prog 24 #[va, vb] w (DiffHas x (!d) w) := by
  refine (di_P h h' hl hm (by omega) (by omega)).mono ?_
  rintro e w' ⟨r, s, rfl, ⟨h1, h2, h3, h4⟩, h5⟩
  obtain ⟨a, c, rfl⟩ := h1.form
  refine ⟨a, _, c, rfl, h5, fun w3 b3 => has_at (h1.below b3) (by omega) ?_⟩
  rw [← hd]
  have := h3 x
  by_cases hxm : x ∈ m <;> simp [hxm, hx] at this ⊢ <;> exact this
set_option maxRecDepth 100000 in
set_option maxHeartbeats 16000000 in
theorem setsOrder_walk (va vb : Value) (w : World) (ha : IsInts w va) (hb : IsInts w vb) :
    Calls Try.prog 7 #[va, vb] w fun e w' => e = .returned (.bool true) ∧ Below w.heap.size w w' := by
  obtain ⟨a, ha, ma⟩ := ha; have aI := Lib.hid ha; obtain ⟨aa, ca, ea⟩ := ha.form; subst ea; clear ha
  obtain ⟨b, hb, mb⟩ := hb; have bI := Lib.hid hb; obtain ⟨ab, cb, eb⟩ := hb.form; subst eb; clear hb
  by_cases aF : a.length ≤ 200
  · have aD : decide (a.length ≤ 200) = true := by simpa using aF
    have aE := Lib.hid aD; clear aD
    by_cases bF : b.length ≤ 200
    · have bD : decide (b.length ≤ 200) = true := by simpa using bF
      have bE := Lib.hid bD; clear bD
      go_enter Try.func7, Try.ntmps7
      go_wp2_with fail
      refine (few_any aI.out ma).mono ?_; rintro en w' ⟨rfl, rfl⟩; rw [aE.out]
      go_wp2_with fail
      refine (few_any bI.out mb).mono ?_; rintro en w' ⟨rfl, rfl⟩; rw [bE.out]
      go_wp2_with fail
      refine (un_P aI.out bI.out aF bF (by omega) (by omega)).mono ?_; rintro en w1 ⟨r, s, rfl, hp, hb⟩
      obtain ⟨au, cu, eu⟩ := hp.1.form; subst eu
      have P := Lib.hid hp; have B1 := Lib.hid hb
      have sL : s.length ≤ 400 := hp.2.2.2
      have A1 := Lib.hid (aI.out.below hb); have Bb1 := Lib.hid (bI.out.below hb)
      clear hp hb
      obtain ⟨n, hn⟩ : ∃ n, s.length = n := ⟨_, rfl⟩
      have HN := Lib.hid hn
      have PI : Hid (IntsAt w1 (.slice au n cu) s) := by show IntsAt _ _ _; rw [← hn]; exact P.out.1
      rw [hn] at sL ⊢; clear hn
      obtain ⟨na, hna⟩ : ∃ n, a.length = n := ⟨_, rfl⟩
      have HNA := Lib.hid hna
      have AI : Hid (IntsAt w1 (.slice aa na ca) a) := by show IntsAt _ _ _; rw [← hna]; exact A1.out
      rw [hna] at aF ⊢; clear hna A1
      go_wp2_with fail
      go_loopw [6] (fun s6 wr => ∃ k : Nat, k ≤ n ∧ s6 = .int .i64 k ∧ Hid (Below w1.heap.size w1 wr)) (fun s6 _ => n - (intOf s6).toNat)
      case atStart => exact ⟨0, by omega, rfl, Below.refl _ _⟩
      case round =>
        obtain ⟨k, hk, rfl, BB⟩ := hrel
        by_cases hlt : k < n
        · have hk' : k < s.length := by have := HN.out; omega
          obtain ⟨bu, ou, eau, c1⟩ := (PI.out.below BB.out).at hk'
          subst eau
          obtain ⟨x, hx⟩ : ∃ u, s.getD k 0 = u := ⟨_, rfl⟩
          rw [hx] at c1
          have hxm : x ∈ s := by rw [← hx]; simp [List.getD, hk']
          have HXM := Lib.hid ((P.out.2.2.1 x).1 hxm)
          have i1 : (0 : Int) ≤ (k : Int) := by omega
          have i2 : (k : Int) < (n : Int) := by omega
          obtain ⟨d1, hd1⟩ : ∃ d, decide (x ∈ a) = d := ⟨_, rfl⟩
          have D1 := Lib.hid hd1
          have HA1 : Hid (∀ w', Below w1.heap.size w1 w' → Calls Try.prog 18 #[.slice aa na ca, .int .i64 x] w' fun e w'' => e = .returned (.bool d1) ∧ w' = w'') :=
            fun w' b => has_at (AI.out.below b) (by have := HNA.out; omega) D1.out
          have HB1 : Hid (d1 = false → ∀ w', Below w1.heap.size w1 w' → Calls Try.prog 18 #[.slice ab b.length cb, .int .i64 x] w' fun e w'' => e = .returned (.bool true) ∧ w' = w'') :=
            fun hf w' bl => has_at (Bb1.out.below bl) (by omega) (by
              have h1 := D1.out; rw [hf] at h1; simp at h1
              rcases HXM.out with h | h
              · exact absurd h h1
              · simpa using h)
          clear hxm hd1
          by_cases h0 : 0 < k
          · have hk1 : k - 1 < s.length := by omega
            obtain ⟨bu', ou', eau, c2⟩ := (PI.out.below BB.out).at hk1
            injection eau with eau; injection eau with e1 e2; subst e1 e2
            obtain ⟨y, hy⟩ : ∃ u, s.getD (k - 1) 0 = u := ⟨_, rfl⟩
            rw [hy] at c2
            have hyx : y < x := by
              have h := List.pairwise_iff_getElem.1 P.out.2.1 (k - 1) k (by omega) hk' (by omega)
              rw [← hx, ← hy]; simpa [List.getD, hk', hk1] using h
            have g1 : decide (0 < k) = true := by simpa using h0
            have g2 : decide (x ≤ y) = false := by simp; omega
            have g3 : ((k : Int) - 1).toNat = k - 1 := by omega
            have g4 : (0 : Int) ≤ (k : Int) - 1 := by omega
            have g5 : (k : Int) - 1 < (n : Int) := by omega
            have g6 : IntKind.i64.wrap ((k : Int) - 1) = (k : Int) - 1 := IntWalk.i64_in _ (by omega)
            clear hx hy hk' hk1 hyx
            cases d1
            · have HB2 := Lib.hid (HB1.out rfl); clear HB1
              go_wp2_with fail
              go_quiet (first | (go_at_call 18; with_reducible exact qsame (HA1.out _ (below_drewN BB.out _))) | (go_at_call 18; with_reducible exact qsame (HB2.out _ (below_drewN BB.out _))))
              go_wp2
              go_roundw
              case rel => exact ⟨k + 1, by omega, by go_num, below_drewN BB.out _⟩
              case measure => simp [intOf]; omega
            · go_wp2_with fail
              go_quiet (first | (go_at_call 18; with_reducible exact qsame (HA1.out _ (below_drewN BB.out _))))
              go_wp2
              go_roundw
              case rel => exact ⟨k + 1, by omega, by go_num, below_drewN BB.out _⟩
              case measure => simp [intOf]; omega
          · have g0 : decide (0 < k) = false := by simp; omega
            clear hx hk' h0
            cases d1
            · have HB2 := Lib.hid (HB1.out rfl); clear HB1
              go_wp2_with fail
              go_quiet (first | (go_at_call 18; with_reducible exact qsame (HA1.out _ (below_drewN BB.out _))) | (go_at_call 18; with_reducible exact qsame (HB2.out _ (below_drewN BB.out _))))
              go_wp2
              go_roundw
              case rel => exact ⟨k + 1, by omega, by go_num, below_drewN BB.out _⟩
              case measure => simp [intOf]; omega
            · clear HB1
              go_wp2_with fail
              go_quiet (first | (go_at_call 18; with_reducible exact qsame (HA1.out _ (below_drewN BB.out _))))
              go_wp2
              go_roundw
              case rel => exact ⟨k + 1, by omega, by go_num, below_drewN BB.out _⟩
              case measure => simp [intOf]; omega
        · go_wp2_with fail
          go_loopw [7] (fun s7 wr => ∃ k : Nat, k ≤ na ∧ s7 = .int .i64 k ∧ Hid (Below w1.heap.size w1 wr)) (fun s7 _ => na - (intOf s7).toNat)
          case atStart => exact ⟨0, by omega, rfl, BB⟩
          case round =>
            clear BB
            obtain ⟨k2, hk2, rfl, BB⟩ := hrel
            by_cases hlt2 : k2 < na
            · have hk' : k2 < a.length := by have := HNA.out; omega
              obtain ⟨ba, oa, eaa, c1⟩ := (AI.out.below BB.out).at hk'
              subst eaa
              obtain ⟨x, hx⟩ : ∃ u, a.getD k2 0 = u := ⟨_, rfl⟩
              rw [hx] at c1
              have hxm : x ∈ a := by rw [← hx]; simp [List.getD, hk']
              have i1 : (0 : Int) ≤ (k2 : Int) := by omega
              have i2 : (k2 : Int) < (na : Int) := by omega
              obtain ⟨d, hd⟩ : ∃ d, decide (x ∈ b) = d := ⟨_, rfl⟩
              have HD := Lib.hid hd
              have HXM := Lib.hid hxm
              have HU : Hid (∀ w', Below w1.heap.size w1 w' → Calls Try.prog 18 #[.slice au n cu, .int .i64 x] w' fun e w'' => e = .returned (.bool true) ∧ w' = w'') :=
                fun w' bl => has_at (PI.out.below bl) (by have := HN.out; omega) (by simpa using (P.out.2.2.1 x).2 (Or.inl HXM.out))
              have HB1 : Hid (∀ w', Below w1.heap.size w1 w' → Calls Try.prog 18 #[.slice ab b.length cb, .int .i64 x] w' fun e w'' => e = .returned (.bool d) ∧ w' = w'') :=
                fun w' bl => has_at (Bb1.out.below bl) (by omega) HD.out
              have HDf : Hid (∀ w', Below w1.heap.size w1 w' → Calls Try.prog 24 #[.slice (some ⟨ba, oa, none⟩) na ca, .slice ab b.length cb] w' (DiffHas x (!d) w')) :=
                fun w' bl => diff_has (AI.out.below bl) (Bb1.out.below bl) (by have := HNA.out; omega) bF HXM.out HD.out
              clear hx hk' hxm hd
              have dd : (!d == d) = false := by cases d <;> rfl
              have SS := Lib.hid (And.intro BB.out c1)
              cases d
              all_goals
                go_wp2_with fail
                go_region_held3 (fun w' => Below w1.heap.size w1 w' ∧ w'.cell? ⟨ba, oa + k2, none⟩ = some (.int .i64 x))
                  (first | exact ⟨SS.out.1.drew, SS.out.2⟩ | assumption | exact keep1 (by assumption) (by assumption))
                  (first
                    | (go_at_call 24; refine (HDf.out _ (bel_of (by assumption))).mono ?_; rintro en w3 ⟨a3, n3, c3, rfl, b3, hd3⟩; have HD3 := Lib.hid hd3; clear hd3)
                    | (go_at_call 18; (with_reducible refine (HU.out _ (bel_of (by assumption))).mono ?_); rintro en w3 ⟨rfl, rfl⟩)
                    | (go_at_call 18; (with_reducible refine (HB1.out _ (bel_of (by assumption))).mono ?_); rintro en w3 ⟨rfl, rfl⟩)
                    | (go_at_call 18; (with_reducible refine (HD3.out _ (Below.refl _ _)).mono ?_); rintro en w3 ⟨rfl, rfl⟩))
                all_goals go_wp2
                all_goals
                  go_roundw
                  case rel => exact ⟨k2 + 1, by omega, by go_num, bel_of (by assumption)⟩
                  case measure => simp [intOf]; omega
            · go_wp2_with fail
              refine (lives_any _).mono ?_; rintro en w3 ⟨rfl, hb⟩
              have B3 := Lib.hid ((B1.out.trans (BB.out.mono B1.out.size)).trans (hb.mono (by have := BB.out.size; have := B1.out.size; omega)))
              clear hb
              go_wp2_with fail
              go_ret
              exact ⟨rfl, B3.out⟩
    · have bD : decide (b.length ≤ 200) = false := by simpa using bF
      have bE := Lib.hid bD; clear bD
      go_enter Try.func7, Try.ntmps7
      go_wp2_with fail
      refine (few_any aI.out ma).mono ?_; rintro en w' ⟨rfl, rfl⟩; rw [aE.out]
      go_wp2_with fail
      refine (few_any bI.out mb).mono ?_; rintro en w' ⟨rfl, rfl⟩; rw [bE.out]
      go_wp2_with fail
      refine (lives_any _).mono ?_; rintro en w1 ⟨rfl, hb⟩
      have B1 := Lib.hid hb; clear hb
      go_wp2_with fail
      go_ret
      exact ⟨rfl, B1.out⟩
  · have aD : decide (a.length ≤ 200) = false := by simpa using aF
    have aE := Lib.hid aD; clear aD
    go_enter Try.func7, Try.ntmps7
    go_wp2_with fail
    refine (few_any aI.out ma).mono ?_; rintro en w' ⟨rfl, rfl⟩; rw [aE.out]
    go_wp2_with fail
    refine (lives_any _).mono ?_; rintro en w1 ⟨rfl, hb⟩
    have B1 := Lib.hid hb; clear hb
    go_wp2_with fail
    go_ret
    exact ⟨rfl, B1.out⟩
end Go.Proofs.Ythmhhjfonejifaa
