/- The walk of NamesPlays. -/
import Derived.Test.YtpgblcemooamdaaWg
namespace Go.Proofs.Ytpgblcemooamdaa
open Go.ChangeShapes Go.WideShapes Go.ChangeAt Go.RowKit Go.Maps Go.WideMaps

theorem addL_ne {ss ss' : List ByteArray} {s : ByteArray} {c : Int} (h : AddL ss s c ss') : ss' ≠ [] := by
  rcases h with ⟨h, rfl, _⟩ | ⟨_, rfl, _⟩
  · intro e; subst e; cases h
  · simp
/- the operation's cells, in every world that has kept them -/
def Cells3 (w : World) (b o : Nat) (z : OpZ) : Prop := w.cell? ⟨b, o, none⟩ = some (.int .u8 z.kind) ∧ w.cell? ⟨b, o + 1, none⟩ = some (.string z.s) ∧ w.cell? ⟨b, o + 2, none⟩ = some (.int .i64 z.i)
theorem Cells3.below {w w' : World} {b o : Nat} {z : OpZ} (h : Cells3 w b o z) (hb : b < w.heap.size) (k : Below w.heap.size w w') : Cells3 w' b o z := by
  obtain ⟨h1, h2, h3⟩ := h
  refine ⟨?_, ?_, ?_⟩ <;> (rw [k.cell (by exact hb)]; assumption)

set_option maxRecDepth 100000 in
set_option maxHeartbeats 4000000 in
theorem namesPlays_walk (v : Value) (w : World) (hv : ∃ n g, OpsAt w v n g) : Calls Try.prog 3 #[v] w fun e w' => e = .returned (.bool true) ∧ Below w.heap.size w w' := by
  obtain ⟨n, g, a, cap, rfl, hm, hg, hcell⟩ := hv
  unfold maxLen at hm
  have HG := Lib.hid hg; have HC := Lib.hid hcell
  clear hg hcell
  by_cases h60 : 60 < n
  · go_enter Try.func3, Try.ntmps3
    go_wp2_with fail
    refine (new_any w).mono ?_; rintro e w1 ⟨rfl, _, hk, _⟩
    have B0 := Lib.hid hk.all; clear hk
    go_wp2_with fail
    refine (lives_any _).mono ?_; rintro e w2 ⟨rfl, b⟩
    go_wp2_with fail
    go_ret
    exact ⟨rfl, B0.out.trans (b.mono B0.out.size)⟩
  · go_enter Try.func3, Try.ntmps3
    go_wp2_with fail
    refine (new_any w).mono ?_; rintro e w1 ⟨rfl, ht, hk, hz⟩
    have P0 : Hid (Play w w1 (w.heap.size + 1) w.heap.size (.slice none 0 0) (.slice none 0 0) []) :=
      ⟨ht, (fun k e => by cases e), Nat.le_succ _, Nat.le_refl _, Or.inl ⟨rfl, rfl⟩, (fun ad n cap e => by cases e), hk.all⟩
    clear ht hk hz
    go_wp2_with fail
    go_loopw [4, 5] (fun s4 s5 wr => ∃ (k : Nat) (am : Option Addr) (cm : Nat) (sv : Value) (ss : List ByteArray) (q : Nat), k ≤ n ∧ s5 = .int .i64 k ∧ s4 = .slice am q cm ∧ Hid (ss.length = q) ∧ q ≤ k ∧ Hid (Play w wr (w.heap.size + 1) w.heap.size sv (.slice am q cm) ss)) (fun _ s5 _ => n - (intOf s5).toNat)
    case atStart => exact ⟨0, none, 0, _, [], 0, by omega, rfl, rfl, rfl, by omega, P0⟩
    case round =>
      clear P0
      obtain ⟨k, am, cm, sv, ss, q, hk, rfl, rfl, HQ, hq, P⟩ := hrel
      by_cases hlt : k < n
      · obtain ⟨b, off, rfl, hbl, hc⟩ : ∃ b off, a = some ⟨b, off, none⟩ ∧ b < w.heap.size ∧ ∀ j, j < n → w.cell? ⟨b, off + j * 3, none⟩ = some (.int .u8 (g j).kind) ∧ w.cell? ⟨b, off + j * 3 + 1, none⟩ = some (.string (g j).s) ∧ w.cell? ⟨b, off + j * 3 + 2, none⟩ = some (.int .i64 (g j).i) := by
          rcases HC.out with h | h
          · omega
          · exact h
        have C := Lib.hid (show Cells3 w b (off + k * 3) (g k) from hc k hlt)
        obtain ⟨k0, k1, ks⟩ := HG.out k hlt
        obtain ⟨z, hz⟩ : ∃ z, g k = z := ⟨_, rfl⟩
        rw [hz] at k0 k1 ks C
        obtain ⟨kd, s, x⟩ := z
        have SZ := Lib.hid ks
        have D := C.out.below hbl P.out.bel
        unfold Cells3 at D
        simp only at k0 k1 ks D
        unfold maxLen at ks
        clear hc hz HC HG
        by_cases h300 : 300 < s.size
        · go_wp2_with fail
          refine (lives_any _).mono ?_; rintro e w2 ⟨rfl, b⟩
          go_wp2_with fail
          go_ret
          exact ⟨rfl, (P.out.keep b).bel⟩
        · by_cases h0 : kd = 0
          · subst h0
            go_wp2_with fail
            refine (radd_any P.out.ref s (by have := HQ.out; omega)).mono ?_; rintro e w2 ⟨c, v', ss', hA, rfl, hs', hv', ⟨a', cap', rfl⟩, hb⟩
            have AL := Lib.hid hA; have S2 := Lib.hid hs'; have V2 := Lib.hid hv'; have B2 := Lib.hid hb
            have D2 := C.out.below hbl (P.out.keep hb).bel
            unfold Cells3 at D2
            simp only at D2
            clear hA hs' hv' hb D
            go_wp2_with fail
            refine (add_at (P.out.keep B2.out).tab s SZ.out (by have := HQ.out; omega) AL.out).mono ?_; rintro e w3 ⟨rfl, ha⟩
            obtain ⟨sv3, P3⟩ := P.out.add S2.out V2.out (Or.inr (addL_ne AL.out)) B2.out ha
            have Q3 := Lib.hid P3
            have hcc : (c != c) = false := by simp
            obtain ⟨q', hq'⟩ : ∃ q', ss'.length = q' := ⟨_, rfl⟩
            have hql : q' ≤ k + 1 := by have := (addL_len AL.out).1; have := HQ.out; omega
            have HQ' := Lib.hid hq'
            rw [hq'] at Q3
            have hqq : ((q' : Int) != (q' : Int)) = false := by simp
            rw [hq']
            clear ha P3 D2 hq'
            go_wp2_with fail
            refine (len_any Q3.out.tab).mono ?_; rintro e w' ⟨rfl, rfl⟩
            rw [HQ'.out]
            go_wp2_with fail
            refine (all_any Q3.out.tab).mono ?_; rintro e w4 ⟨v4, rfl, h1, h2, ⟨a4, cap4, rfl⟩, h4⟩
            have A4 := Lib.hid h1; have P4 := Lib.hid (Q3.out.keep h4)
            clear h1 h2 h4
            rw [HQ'.out] at A4 ⊢
            go_wp2_with fail
            refine (same_eq A4.out P4.out.ref (by have := HQ'.out; omega)).mono ?_; rintro e w5 ⟨rfl, q5, rfl⟩
            have P5 := Lib.hid (P4.out.keep (below_drewN (Below.refl w4.heap.size w4) q5))
            go_wp2_with fail
            go_roundw
            case rel => exact ⟨k + 1, _, _, sv3, ss', q', by omega, by go_num, rfl, HQ', by omega, P5⟩
            case measure => simp [intOf]; omega
          · have kz : (kd == 0) = false := by simpa using h0
            by_cases h1 : kd = 1
            · subst h1
              go_wp2_with fail
              refine (find_any P.out.tab s SZ.out).mono ?_; rintro e w' ⟨c, o, hnum, rfl, rfl⟩
              have NU := Lib.hid hnum; clear hnum
              go_wp2_with fail
              refine (rfind_any P.out.ref s (by have := HQ.out; omega)).mono ?_; rintro e w' ⟨c', o', hf, rfl, rfl⟩
              obtain ⟨rfl, rfl⟩ := num_unique P.out.tab.nd NU.out (first_to_num hf)
              clear hf
              have hcc : (c != c) = false := by simp
              cases o
              all_goals
                have hqq : ((q : Int) != (q : Int)) = false := by simp
                go_wp2_with fail
                refine (len_any P.out.tab).mono ?_; rintro e w' ⟨rfl, rfl⟩
                rw [HQ.out]
                go_wp2_with fail
                refine (all_any P.out.tab).mono ?_; rintro e w4 ⟨v4, rfl, h1, h2, ⟨a4, cap4, rfl⟩, h4⟩
                have A4 := Lib.hid h1; have P4 := Lib.hid (P.out.keep h4)
                clear h1 h2 h4
                rw [HQ.out] at A4 ⊢
                go_wp2_with fail
                refine (same_eq A4.out P4.out.ref (by have := HQ.out; omega)).mono ?_; rintro e w5 ⟨rfl, q5, rfl⟩
                have P5 := Lib.hid (P4.out.keep (below_drewN (Below.refl w4.heap.size w4) q5))
                go_wp2_with fail
                go_roundw
                case rel => exact ⟨k + 1, am, cm, sv, ss, q, by omega, by go_num, rfl, HQ, by omega, P5⟩
                case measure => simp [intOf]; omega
            · have k1' : (kd == 1) = false := by simpa using h1
              obtain ⟨u, bb, g1, g2⟩ := gets P.out.tab P.out.ref x
              have G1 := Lib.hid g1; have G2 := Lib.hid g2; clear g1 g2
              have huu : (u.toList != u.toList) = false := by simp
              go_wp2_with fail
              refine G1.out.mono ?_; rintro e w' ⟨rfl, rfl⟩
              go_wp2_with fail
              refine G2.out.mono ?_; rintro e w' ⟨rfl, rfl⟩
              cases bb
              all_goals
                have hqq : ((q : Int) != (q : Int)) = false := by simp
                go_wp2_with fail
                refine (len_any P.out.tab).mono ?_; rintro e w' ⟨rfl, rfl⟩
                rw [HQ.out]
                go_wp2_with fail
                refine (all_any P.out.tab).mono ?_; rintro e w4 ⟨v4, rfl, h1, h2, ⟨a4, cap4, rfl⟩, h4⟩
                have A4 := Lib.hid h1; have P4 := Lib.hid (P.out.keep h4)
                clear h1 h2 h4
                rw [HQ.out] at A4 ⊢
                go_wp2_with fail
                refine (same_eq A4.out P4.out.ref (by have := HQ.out; omega)).mono ?_; rintro e w5 ⟨rfl, q5, rfl⟩
                have P5 := Lib.hid (P4.out.keep (below_drewN (Below.refl w4.heap.size w4) q5))
                go_wp2_with fail
                go_roundw
                case rel => exact ⟨k + 1, am, cm, sv, ss, q, by omega, by go_num, rfl, HQ, by omega, P5⟩
                case measure => simp [intOf]; omega
      · go_wp2_with fail
        refine (lives_any _).mono ?_; rintro e w2 ⟨rfl, b⟩
        go_wp2_with fail
        go_ret
        exact ⟨rfl, (P.out.keep b).bel⟩
end Go.Proofs.Ytpgblcemooamdaa
