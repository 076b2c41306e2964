/- classify: IsArea, the zooms. -/
import Derived.Test.YtgfhanhonfpngaaDoorCd
namespace Go.Proofs.YtgfhanhonfpngaaDoor
open Go.ChangeShapes Go.WideShapes Go.ChangeAt Go.RowKit Go.Joins Go.Deep

open Go.Proofs.TagM Go.Shelf Go.Sort

theorem same_set {W : World} {b T i : Nat} {v : Value} {cs : List Value} (h : Row W b T cs) (hv : cs[i]? = some v) : W.setCell ⟨b, i, none⟩ v = W := by
  have e : (W.setCell ⟨b, i, none⟩ v).heap = W.heap := by
    apply Array.ext_getElem?
    intro q
    by_cases hi : q = b
    · subst hi
      have k := h.set (i := i) v
      have e2 : cs.set i v = cs := by
        obtain ⟨h1, h2⟩ := List.getElem?_eq_some_iff.1 hv
        rw [← h2]; exact List.set_getElem_self h1
      rw [e2] at k
      unfold Row at h k
      rw [k, h]
    · exact Below.heap_setCell _ _ _ _ hi
  have : ({ W with heap := (W.setCell ⟨b, i, none⟩ v).heap } : World) = W := by rw [e]
  exact this
theorem area_no {l : List Tg} (h : isB l sArea sNo = true) : area l = false := by
  have hy : isB l sArea sYes = false := by
    obtain ⟨a, b⟩ := isB_has h
    unfold isB; rw [b]; simp
  unfold area
  split
  · exact hy
  · split
    · rw [h]; rfl
    · rfl
set_option maxRecDepth 100000 in
set_option maxHeartbeats 4000000 in
theorem isArea_any {w : World} {v : Value} {l : List Tg} (h : TagsAt w v l) (g : GV w) (hl : l.length ≤ 1000000) : Calls Tryd.prog 11 #[v] w fun e w' => e = .returned (.bool (area l)) ∧ Below w.heap.size w w' := by
  have A0 := Lib.hid h; have HL := Lib.hid hl
  have G0 := Lib.hid g
  have TH := Lib.hid (theme_any h g hl)
  have RG := Lib.hid (thm_range l)
  obtain ⟨a, cap, rfl, _⟩ := h
  obtain ⟨n, hn⟩ : ∃ n, l.length = n := ⟨_, rfl⟩
  rw [hn] at A0 TH ⊢
  clear hn hl g
  rcases RG.out with ht | ht | ht | ht | ht | ht | ht
  · rw [ht] at TH
    have V := Lib.hid (show area l = false by unfold area; rw [if_neg (by rw [ht]; decide), if_neg (by rw [ht]; decide)])
    go_enter Tryd.func11, Tryd.ntmps11
    go_wp2_with fail
    refine TH.out.mono ?_; rintro e w2 ⟨rfl, b⟩
    have B0 := Lib.hid b
    clear b
    go_wp2_with fail
    go_ret
    exact ⟨by rw [V.out]; rfl, B0.out⟩
  · rw [ht] at TH
    have V := Lib.hid (show area l = !isB l sArea sNo by unfold area; rw [if_neg (by rw [ht]; decide), if_pos (by rw [ht]; decide)])
    obtain ⟨z, hz⟩ : ∃ z, isB l sArea sNo = z := ⟨_, rfl⟩
    rw [hz] at V
    go_enter Tryd.func11, Tryd.ntmps11
    go_wp2_with fail
    refine TH.out.mono ?_; rintro e w2 ⟨rfl, b⟩
    have B0 := Lib.hid b
    clear b
    go_wp2_with fail
    have IA := Lib.hid (is_any sArea sNo (A0.out.below B0.out) HL.out)
    rw [hz] at IA
    clear hz
    refine IA.out.mono ?_; rintro e w3 ⟨rfl, b⟩
    have B1 := Lib.hid (B0.out.trans (b.mono B0.out.size))
    clear b B0
    have B0 := B1
    clear B1
    go_wp2_with fail
    go_ret
    exact ⟨by rw [V.out]; rfl, B0.out⟩
  · rw [ht] at TH
    have V := Lib.hid (show area l = !isB l sArea sNo by unfold area; rw [if_neg (by rw [ht]; decide), if_pos (by rw [ht]; decide)])
    obtain ⟨z, hz⟩ : ∃ z, isB l sArea sNo = z := ⟨_, rfl⟩
    rw [hz] at V
    go_enter Tryd.func11, Tryd.ntmps11
    go_wp2_with fail
    refine TH.out.mono ?_; rintro e w2 ⟨rfl, b⟩
    have B0 := Lib.hid b
    clear b
    go_wp2_with fail
    have IA := Lib.hid (is_any sArea sNo (A0.out.below B0.out) HL.out)
    rw [hz] at IA
    clear hz
    refine IA.out.mono ?_; rintro e w3 ⟨rfl, b⟩
    have B1 := Lib.hid (B0.out.trans (b.mono B0.out.size))
    clear b B0
    have B0 := B1
    clear B1
    go_wp2_with fail
    go_ret
    exact ⟨by rw [V.out]; rfl, B0.out⟩
  · rw [ht] at TH
    have V := Lib.hid (show area l = !isB l sArea sNo by unfold area; rw [if_neg (by rw [ht]; decide), if_pos (by rw [ht]; decide)])
    obtain ⟨z, hz⟩ : ∃ z, isB l sArea sNo = z := ⟨_, rfl⟩
    rw [hz] at V
    go_enter Tryd.func11, Tryd.ntmps11
    go_wp2_with fail
    refine TH.out.mono ?_; rintro e w2 ⟨rfl, b⟩
    have B0 := Lib.hid b
    clear b
    go_wp2_with fail
    have IA := Lib.hid (is_any sArea sNo (A0.out.below B0.out) HL.out)
    rw [hz] at IA
    clear hz
    refine IA.out.mono ?_; rintro e w3 ⟨rfl, b⟩
    have B1 := Lib.hid (B0.out.trans (b.mono B0.out.size))
    clear b B0
    have B0 := B1
    clear B1
    go_wp2_with fail
    go_ret
    exact ⟨by rw [V.out]; rfl, B0.out⟩
  · rw [ht] at TH
    have V := Lib.hid (show area l = false by unfold area; rw [if_neg (by rw [ht]; decide), if_neg (by rw [ht]; decide)])
    go_enter Tryd.func11, Tryd.ntmps11
    go_wp2_with fail
    refine TH.out.mono ?_; rintro e w2 ⟨rfl, b⟩
    have B0 := Lib.hid b
    clear b
    go_wp2_with fail
    go_ret
    exact ⟨by rw [V.out]; rfl, B0.out⟩
  · rw [ht] at TH
    have V := Lib.hid (show area l = isB l sArea sYes by unfold area; rw [if_pos ht])
    obtain ⟨z, hz⟩ : ∃ z, isB l sArea sYes = z := ⟨_, rfl⟩
    rw [hz] at V
    go_enter Tryd.func11, Tryd.ntmps11
    go_wp2_with fail
    refine TH.out.mono ?_; rintro e w2 ⟨rfl, b⟩
    have B0 := Lib.hid b
    clear b
    go_wp2_with fail
    have IA := Lib.hid (is_any sArea sYes (A0.out.below B0.out) HL.out)
    rw [hz] at IA
    clear hz
    refine IA.out.mono ?_; rintro e w3 ⟨rfl, b⟩
    have B1 := Lib.hid (B0.out.trans (b.mono B0.out.size))
    clear b B0
    have B0 := B1
    clear B1
    go_wp2_with fail
    go_ret
    exact ⟨by rw [V.out]; rfl, B0.out⟩
  · rw [ht] at TH
    have V := Lib.hid (show area l = false by unfold area; rw [if_neg (by rw [ht]; decide), if_neg (by rw [ht]; decide)])
    go_enter Tryd.func11, Tryd.ntmps11
    go_wp2_with fail
    refine TH.out.mono ?_; rintro e w2 ⟨rfl, b⟩
    have B0 := Lib.hid b
    clear b
    go_wp2_with fail
    go_ret
    exact ⟨by rw [V.out]; rfl, B0.out⟩
set_option maxRecDepth 100000 in
set_option maxHeartbeats 4000000 in
theorem isArear_any {w : World} {v : Value} {l : List Tg} (h : TagsAt w v l) (hl : l.length ≤ 1000000) : Calls Tryd.prog 12 #[v] w fun e w' => e = .returned (.bool (area l)) ∧ w' = w := by
  have A0 := Lib.hid h; have HL := Lib.hid hl
  have TH := Lib.hid (themer_any h hl)
  have RG := Lib.hid (thm_range l)
  obtain ⟨a, cap, rfl, _⟩ := h
  obtain ⟨n, hn⟩ : ∃ n, l.length = n := ⟨_, rfl⟩
  rw [hn] at A0 TH ⊢
  clear hn hl
  rcases RG.out with ht | ht | ht | ht | ht | ht | ht
  · rw [ht] at TH
    go_enter Tryd.func12, Tryd.ntmps12
    go_wp2_with fail
    refine TH.out.mono ?_; rintro e w2 ⟨rfl, rfl⟩
    go_wp2_with fail
    refine (isr_any sArea sNo A0.out HL.out).mono ?_; rintro e w3 ⟨rfl, rfl⟩
    cases h0 : isB l sArea sNo with
    | true =>
      have V := Lib.hid (area_no h0)
      go_wp2_with fail
      go_ret
      exact ⟨by rw [V.out]; rfl, rfl⟩
    | false =>
      have V := Lib.hid (show area l = false by unfold area; rw [if_neg (by rw [ht]; decide), if_neg (by rw [ht]; decide)])
      go_wp2_with fail
      go_ret
      exact ⟨by rw [V.out]; rfl, rfl⟩
  · rw [ht] at TH
    go_enter Tryd.func12, Tryd.ntmps12
    go_wp2_with fail
    refine TH.out.mono ?_; rintro e w2 ⟨rfl, rfl⟩
    go_wp2_with fail
    refine (isr_any sArea sNo A0.out HL.out).mono ?_; rintro e w3 ⟨rfl, rfl⟩
    cases h0 : isB l sArea sNo with
    | true =>
      have V := Lib.hid (area_no h0)
      go_wp2_with fail
      go_ret
      exact ⟨by rw [V.out]; rfl, rfl⟩
    | false =>
      have V := Lib.hid (show area l = true by unfold area; rw [if_neg (by rw [ht]; decide), if_pos (by rw [ht]; decide), h0]; rfl)
      go_wp2_with fail
      go_ret
      exact ⟨by rw [V.out]; rfl, rfl⟩
  · rw [ht] at TH
    go_enter Tryd.func12, Tryd.ntmps12
    go_wp2_with fail
    refine TH.out.mono ?_; rintro e w2 ⟨rfl, rfl⟩
    go_wp2_with fail
    refine (isr_any sArea sNo A0.out HL.out).mono ?_; rintro e w3 ⟨rfl, rfl⟩
    cases h0 : isB l sArea sNo with
    | true =>
      have V := Lib.hid (area_no h0)
      go_wp2_with fail
      go_ret
      exact ⟨by rw [V.out]; rfl, rfl⟩
    | false =>
      have V := Lib.hid (show area l = true by unfold area; rw [if_neg (by rw [ht]; decide), if_pos (by rw [ht]; decide), h0]; rfl)
      go_wp2_with fail
      go_ret
      exact ⟨by rw [V.out]; rfl, rfl⟩
  · rw [ht] at TH
    go_enter Tryd.func12, Tryd.ntmps12
    go_wp2_with fail
    refine TH.out.mono ?_; rintro e w2 ⟨rfl, rfl⟩
    go_wp2_with fail
    refine (isr_any sArea sNo A0.out HL.out).mono ?_; rintro e w3 ⟨rfl, rfl⟩
    cases h0 : isB l sArea sNo with
    | true =>
      have V := Lib.hid (area_no h0)
      go_wp2_with fail
      go_ret
      exact ⟨by rw [V.out]; rfl, rfl⟩
    | false =>
      have V := Lib.hid (show area l = true by unfold area; rw [if_neg (by rw [ht]; decide), if_pos (by rw [ht]; decide), h0]; rfl)
      go_wp2_with fail
      go_ret
      exact ⟨by rw [V.out]; rfl, rfl⟩
  · rw [ht] at TH
    go_enter Tryd.func12, Tryd.ntmps12
    go_wp2_with fail
    refine TH.out.mono ?_; rintro e w2 ⟨rfl, rfl⟩
    go_wp2_with fail
    refine (isr_any sArea sNo A0.out HL.out).mono ?_; rintro e w3 ⟨rfl, rfl⟩
    cases h0 : isB l sArea sNo with
    | true =>
      have V := Lib.hid (area_no h0)
      go_wp2_with fail
      go_ret
      exact ⟨by rw [V.out]; rfl, rfl⟩
    | false =>
      have V := Lib.hid (show area l = false by unfold area; rw [if_neg (by rw [ht]; decide), if_neg (by rw [ht]; decide)])
      go_wp2_with fail
      go_ret
      exact ⟨by rw [V.out]; rfl, rfl⟩
  · rw [ht] at TH
    go_enter Tryd.func12, Tryd.ntmps12
    go_wp2_with fail
    refine TH.out.mono ?_; rintro e w2 ⟨rfl, rfl⟩
    go_wp2_with fail
    refine (isr_any sArea sNo A0.out HL.out).mono ?_; rintro e w3 ⟨rfl, rfl⟩
    cases h0 : isB l sArea sNo with
    | true =>
      have V := Lib.hid (area_no h0)
      go_wp2_with fail
      go_ret
      exact ⟨by rw [V.out]; rfl, rfl⟩
    | false =>
      go_wp2_with fail
      refine (isr_any sArea sYes A0.out HL.out).mono ?_; rintro e w4 ⟨rfl, rfl⟩
      have V := Lib.hid (show area l = isB l sArea sYes by unfold area; rw [if_pos ht])
      obtain ⟨z, hz⟩ : ∃ z, isB l sArea sYes = z := ⟨_, rfl⟩
      rw [hz] at V ⊢
      clear hz
      go_wp2_with fail
      go_ret
      exact ⟨by rw [V.out]; rfl, rfl⟩
  · rw [ht] at TH
    go_enter Tryd.func12, Tryd.ntmps12
    go_wp2_with fail
    refine TH.out.mono ?_; rintro e w2 ⟨rfl, rfl⟩
    go_wp2_with fail
    refine (isr_any sArea sNo A0.out HL.out).mono ?_; rintro e w3 ⟨rfl, rfl⟩
    cases h0 : isB l sArea sNo with
    | true =>
      have V := Lib.hid (area_no h0)
      go_wp2_with fail
      go_ret
      exact ⟨by rw [V.out]; rfl, rfl⟩
    | false =>
      have V := Lib.hid (show area l = false by unfold area; rw [if_neg (by rw [ht]; decide), if_neg (by rw [ht]; decide)])
      go_wp2_with fail
      go_ret
      exact ⟨by rw [V.out]; rfl, rfl⟩
theorem iz0 (w : World) : Sem.run Tryd.prog (Instr.index 49 (.agg #[.string sCity, .int .i64 0, .string sTown, .int .i64 3, .string sVil, .int .i64 5]) (.int .i64 0)) w = .ok (.agg #[.string sCity, .int .i64 0]) w := by rfl
theorem iz1 (w : World) : Sem.run Tryd.prog (Instr.index 49 (.agg #[.string sCity, .int .i64 0, .string sTown, .int .i64 3, .string sVil, .int .i64 5]) (.int .i64 1)) w = .ok (.agg #[.string sTown, .int .i64 3]) w := by rfl
theorem iz2 (w : World) : Sem.run Tryd.prog (Instr.index 49 (.agg #[.string sCity, .int .i64 0, .string sTown, .int .i64 3, .string sVil, .int .i64 5]) (.int .i64 2)) w = .ok (.agg #[.string sVil, .int .i64 5]) w := by rfl
set_option maxRecDepth 100000 in
set_option maxHeartbeats 4000000 in
theorem placeZoom_any {w : World} {v : Value} {l : List Tg} (h : TagsAt w v l) (g : GV w) (hl : l.length ≤ 1000000) : Calls Tryd.prog 31 #[v] w fun e w' => e = .returned (.int .i64 (plz l)) ∧ Below w.heap.size w w' := by
  have A0 := Lib.hid h; have HL := Lib.hid hl
  obtain ⟨c0, c1, c2, c3, c4, c5⟩ := g.c
  obtain ⟨a, cap, rfl, _⟩ := h
  obtain ⟨n, hn⟩ : ∃ n, l.length = n := ⟨_, rfl⟩
  rw [hn] at A0 ⊢
  clear hn hl g
  go_enter Tryd.func31, Tryd.ntmps31
  go_wp2_with fail
  clear c0 c1 c2 c3 c4 c5
  go_loopw [6] (fun s wr => ∃ k : Nat, k ≤ 3 ∧ s = .int .i64 (k : Int) ∧ Hid ((0 < k → isB l sPlace sCity = false) ∧ (1 < k → isB l sPlace sTown = false) ∧ (2 < k → isB l sPlace sVil = false)) ∧ Hid (Below w.heap.size w wr)) (fun s _ => 3 - (intOf s).toNat)
  case atStart => exact ⟨0, by decide, rfl, ⟨fun h => by omega, fun h => by omega, fun h => by omega⟩, Below.refl _ _⟩
  case round =>
    obtain ⟨k, hk, rfl, GG, BX⟩ := hrel
    have hk4 : k = 0 ∨ k = 1 ∨ k = 2 ∨ k = 3 := by omega
    rcases hk4 with rfl | rfl | rfl | rfl
    · have IX := iz0
      obtain ⟨xb, hxb⟩ : ∃ xb, wr.heap.size = xb := ⟨_, rfl⟩
      obtain ⟨W2, hW2⟩ : ∃ W2, wr.alloc (.cells #[.string sCity, .int .i64 0] 48) = W2 := ⟨_, rfl⟩
      have r2 : Row W2 xb 48 [.string sCity, .int .i64 0] := by rw [← hW2, ← hxb]; exact Row.new _ _ _
      have b2 : Below wr.heap.size wr W2 := by rw [← hW2]; exact (Below.refl _ _).alloc (Nat.le_refl _) _
      have x0 := r2.cell (i := 0) rfl; have x1 := r2.cell (i := 1) rfl
      have R2 := Lib.hid r2
      have B2 := Lib.hid (BX.out.trans (b2.mono BX.out.size))
      have IS := Lib.hid (is_any sPlace sCity (A0.out.below B2.out) HL.out)
      have f1 := r2.fr (i := 1)
      have s1 := same_set (i := 1) r2 rfl
      clear r2 b2 hk
      cases hb : isB l sPlace sCity with
      | true =>
        have V := Lib.hid (show plz l = 0 by unfold plz; rw [if_pos hb])
        rw [hb] at IS
        clear GG BX hb
        go_wp2_with fail
        refine IS.out.mono ?_; rintro e w3 ⟨rfl, b3⟩
        have y1 : w3.cell? ⟨xb, 1, none⟩ = some (.int .i64 0) := by rw [b3.cell (by exact R2.out.lt)]; exact x1
        have B3 := Lib.hid (B2.out.trans (b3.mono B2.out.size))
        clear b3 x0 x1 hW2 f1 s1
        go_wp2_with fail
        go_ret
        exact ⟨by rw [V.out]; rfl, B3.out⟩
      | false =>
        have G2 : Hid ((0 < 1 → isB l sPlace sCity = false) ∧ (1 < 1 → isB l sPlace sTown = false) ∧ (2 < 1 → isB l sPlace sVil = false)) := ⟨fun _ => hb, fun h => absurd h (by decide), fun h => absurd h (by decide)⟩
        rw [hb] at IS
        clear GG BX hb
        go_wp2_with fail
        refine IS.out.mono ?_; rintro e w3 ⟨rfl, b3⟩
        have B3 := Lib.hid (B2.out.trans (b3.mono B2.out.size))
        clear b3 x0 x1 hW2 f1 s1
        go_wp2_with fail
        go_roundw
        case measure => simp [intOf]
        case rel => first | exact ⟨1, by decide, rfl, G2, B3⟩ | exact ⟨1, by decide, rfl, ⟨fun _ => trivial, G2.out.2.1, G2.out.2.2⟩, B3⟩ | exact ⟨1, by decide, rfl, ⟨G2.out.1, fun _ => trivial, G2.out.2.2⟩, B3⟩ | exact ⟨1, by decide, rfl, ⟨G2.out.1, G2.out.2.1, fun _ => trivial⟩, B3⟩
    · have IX := iz1
      obtain ⟨xb, hxb⟩ : ∃ xb, wr.heap.size = xb := ⟨_, rfl⟩
      obtain ⟨W2, hW2⟩ : ∃ W2, wr.alloc (.cells #[.string sTown, .int .i64 3] 48) = W2 := ⟨_, rfl⟩
      have r2 : Row W2 xb 48 [.string sTown, .int .i64 3] := by rw [← hW2, ← hxb]; exact Row.new _ _ _
      have b2 : Below wr.heap.size wr W2 := by rw [← hW2]; exact (Below.refl _ _).alloc (Nat.le_refl _) _
      have x0 := r2.cell (i := 0) rfl; have x1 := r2.cell (i := 1) rfl
      have R2 := Lib.hid r2
      have B2 := Lib.hid (BX.out.trans (b2.mono BX.out.size))
      have IS := Lib.hid (is_any sPlace sTown (A0.out.below B2.out) HL.out)
      skip
      skip
      clear r2 b2 hk
      cases hb : isB l sPlace sTown with
      | true =>
        have V := Lib.hid (show plz l = 3 by unfold plz; rw [if_neg (by rw [GG.out.1 (by decide)]; simp)]; rw [if_pos hb])
        rw [hb] at IS
        clear GG BX hb
        go_wp2_with fail
        refine IS.out.mono ?_; rintro e w3 ⟨rfl, b3⟩
        have y1 : w3.cell? ⟨xb, 1, none⟩ = some (.int .i64 3) := by rw [b3.cell (by exact R2.out.lt)]; exact x1
        have B3 := Lib.hid (B2.out.trans (b3.mono B2.out.size))
        clear b3 x0 x1 hW2
        go_wp2_with fail
        go_ret
        exact ⟨by rw [V.out]; rfl, B3.out⟩
      | false =>
        have G2 : Hid ((0 < 2 → isB l sPlace sCity = false) ∧ (1 < 2 → isB l sPlace sTown = false) ∧ (2 < 2 → isB l sPlace sVil = false)) := ⟨fun _ => GG.out.1 (by decide), fun h => hb, fun h => absurd h (by decide)⟩
        rw [hb] at IS
        clear GG BX hb
        go_wp2_with fail
        refine IS.out.mono ?_; rintro e w3 ⟨rfl, b3⟩
        have B3 := Lib.hid (B2.out.trans (b3.mono B2.out.size))
        clear b3 x0 x1 hW2
        go_wp2_with fail
        go_roundw
        case measure => simp [intOf]
        case rel => first | exact ⟨2, by decide, rfl, G2, B3⟩ | exact ⟨2, by decide, rfl, ⟨fun _ => trivial, G2.out.2.1, G2.out.2.2⟩, B3⟩ | exact ⟨2, by decide, rfl, ⟨G2.out.1, fun _ => trivial, G2.out.2.2⟩, B3⟩ | exact ⟨2, by decide, rfl, ⟨G2.out.1, G2.out.2.1, fun _ => trivial⟩, B3⟩
    · have IX := iz2
      obtain ⟨xb, hxb⟩ : ∃ xb, wr.heap.size = xb := ⟨_, rfl⟩
      obtain ⟨W2, hW2⟩ : ∃ W2, wr.alloc (.cells #[.string sVil, .int .i64 5] 48) = W2 := ⟨_, rfl⟩
      have r2 : Row W2 xb 48 [.string sVil, .int .i64 5] := by rw [← hW2, ← hxb]; exact Row.new _ _ _
      have b2 : Below wr.heap.size wr W2 := by rw [← hW2]; exact (Below.refl _ _).alloc (Nat.le_refl _) _
      have x0 := r2.cell (i := 0) rfl; have x1 := r2.cell (i := 1) rfl
      have R2 := Lib.hid r2
      have B2 := Lib.hid (BX.out.trans (b2.mono BX.out.size))
      have IS := Lib.hid (is_any sPlace sVil (A0.out.below B2.out) HL.out)
      skip
      skip
      clear r2 b2 hk
      cases hb : isB l sPlace sVil with
      | true =>
        have V := Lib.hid (show plz l = 5 by unfold plz; rw [if_neg (by rw [GG.out.1 (by decide)]; simp), if_neg (by rw [GG.out.2.1 (by decide)]; simp)]; rw [if_pos hb])
        rw [hb] at IS
        clear GG BX hb
        go_wp2_with fail
        refine IS.out.mono ?_; rintro e w3 ⟨rfl, b3⟩
        have y1 : w3.cell? ⟨xb, 1, none⟩ = some (.int .i64 5) := by rw [b3.cell (by exact R2.out.lt)]; exact x1
        have B3 := Lib.hid (B2.out.trans (b3.mono B2.out.size))
        clear b3 x0 x1 hW2
        go_wp2_with fail
        go_ret
        exact ⟨by rw [V.out]; rfl, B3.out⟩
      | false =>
        have G2 : Hid ((0 < 3 → isB l sPlace sCity = false) ∧ (1 < 3 → isB l sPlace sTown = false) ∧ (2 < 3 → isB l sPlace sVil = false)) := ⟨fun _ => GG.out.1 (by decide), fun h => GG.out.2.1 (by decide), fun h => hb⟩
        rw [hb] at IS
        clear GG BX hb
        go_wp2_with fail
        refine IS.out.mono ?_; rintro e w3 ⟨rfl, b3⟩
        have B3 := Lib.hid (B2.out.trans (b3.mono B2.out.size))
        clear b3 x0 x1 hW2
        go_wp2_with fail
        go_roundw
        case measure => simp [intOf]
        case rel => first | exact ⟨3, by decide, rfl, G2, B3⟩ | exact ⟨3, by decide, rfl, ⟨fun _ => trivial, G2.out.2.1, G2.out.2.2⟩, B3⟩ | exact ⟨3, by decide, rfl, ⟨G2.out.1, fun _ => trivial, G2.out.2.2⟩, B3⟩ | exact ⟨3, by decide, rfl, ⟨G2.out.1, G2.out.2.1, fun _ => trivial⟩, B3⟩
    · have V := Lib.hid (show plz l = 6 by unfold plz; rw [if_neg (by rw [GG.out.1 (by decide)]; simp), if_neg (by rw [GG.out.2.1 (by decide)]; simp), if_neg (by rw [GG.out.2.2 (by decide)]; simp)])
      clear GG hk
      go_wp2_with fail
      go_ret
      exact ⟨by rw [V.out]; rfl, BX.out⟩
set_option maxRecDepth 100000 in
set_option maxHeartbeats 4000000 in
theorem minZoom_any {w : World} {v : Value} {l : List Tg} (h : TagsAt w v l) (g : GV w) (hl : l.length ≤ 1000000) : Calls Tryd.prog 13 #[v] w fun e w' => e = .returned (.int .i64 (mz l)) ∧ Below w.heap.size w w' := by
  have A0 := Lib.hid h; have HL := Lib.hid hl
  have G0 := Lib.hid g
  have TH := Lib.hid (theme_any h g hl)
  have RG := Lib.hid (thm_range l)
  obtain ⟨a, cap, rfl, _⟩ := h
  obtain ⟨n, hn⟩ : ∃ n, l.length = n := ⟨_, rfl⟩
  rw [hn] at A0 TH ⊢
  clear hn hl g
  rcases RG.out with ht | ht | ht | ht | ht | ht | ht
  · rw [ht] at TH
    have V := Lib.hid (show mz l = 8 by simp [mz, ht])
    go_enter Tryd.func13, Tryd.ntmps13
    go_wp2_with fail
    refine TH.out.mono ?_; rintro e w2 ⟨rfl, b⟩
    have B0 := Lib.hid b
    clear b
    go_wp2_with fail
    go_ret
    exact ⟨by rw [V.out]; rfl, B0.out⟩
  · rw [ht] at TH
    have V := Lib.hid (show mz l = 0 by simp [mz, ht])
    go_enter Tryd.func13, Tryd.ntmps13
    go_wp2_with fail
    refine TH.out.mono ?_; rintro e w2 ⟨rfl, b⟩
    have B0 := Lib.hid b
    clear b
    go_wp2_with fail
    go_ret
    exact ⟨by rw [V.out]; rfl, B0.out⟩
  · rw [ht] at TH
    have V := Lib.hid (show mz l = 2 by simp [mz, ht])
    go_enter Tryd.func13, Tryd.ntmps13
    go_wp2_with fail
    refine TH.out.mono ?_; rintro e w2 ⟨rfl, b⟩
    have B0 := Lib.hid b
    clear b
    go_wp2_with fail
    go_ret
    exact ⟨by rw [V.out]; rfl, B0.out⟩
  · rw [ht] at TH
    have V := Lib.hid (show mz l = 6 by simp [mz, ht])
    go_enter Tryd.func13, Tryd.ntmps13
    go_wp2_with fail
    refine TH.out.mono ?_; rintro e w2 ⟨rfl, b⟩
    have B0 := Lib.hid b
    clear b
    go_wp2_with fail
    go_ret
    exact ⟨by rw [V.out]; rfl, B0.out⟩
  · rw [ht] at TH
    have V := Lib.hid (show mz l = rz (cls l) by simp [mz, ht])
    obtain ⟨c, hc⟩ : ∃ c, cls l = c := ⟨_, rfl⟩
    rw [hc] at V
    go_enter Tryd.func13, Tryd.ntmps13
    go_wp2_with fail
    refine TH.out.mono ?_; rintro e w2 ⟨rfl, b⟩
    have B0 := Lib.hid b
    clear b
    go_wp2_with fail
    have CL := Lib.hid (class_any (A0.out.below B0.out) (G0.out.below B0.out) HL.out)
    rw [hc] at CL
    clear hc
    refine CL.out.mono ?_; rintro e w3 ⟨rfl, b⟩
    have B1 := Lib.hid (B0.out.trans (b.mono B0.out.size))
    clear b B0
    have B0 := B1
    clear B1
    go_wp2_with fail
    refine (roadZoom_any c).mono ?_; rintro e w4 ⟨rfl, rfl⟩
    go_wp2_with fail
    go_ret
    exact ⟨by rw [V.out]; rfl, B0.out⟩
  · rw [ht] at TH
    have V := Lib.hid (show mz l = 0 by simp [mz, ht])
    go_enter Tryd.func13, Tryd.ntmps13
    go_wp2_with fail
    refine TH.out.mono ?_; rintro e w2 ⟨rfl, b⟩
    have B0 := Lib.hid b
    clear b
    go_wp2_with fail
    go_ret
    exact ⟨by rw [V.out]; rfl, B0.out⟩
  · rw [ht] at TH
    have V := Lib.hid (show mz l = plz l by simp [mz, ht])
    go_enter Tryd.func13, Tryd.ntmps13
    go_wp2_with fail
    refine TH.out.mono ?_; rintro e w2 ⟨rfl, b⟩
    have B0 := Lib.hid b
    clear b
    go_wp2_with fail
    refine (placeZoom_any (A0.out.below B0.out) (G0.out.below B0.out) HL.out).mono ?_; rintro e w3 ⟨rfl, b⟩
    have B1 := Lib.hid (B0.out.trans (b.mono B0.out.size))
    clear b B0
    have B0 := B1
    clear B1
    go_wp2_with fail
    go_ret
    exact ⟨by rw [V.out]; rfl, B0.out⟩
set_option maxRecDepth 100000 in
set_option maxHeartbeats 4000000 in
theorem minZoomr_any {w : World} {v : Value} {l : List Tg} (h : TagsAt w v l) (hl : l.length ≤ 1000000) : Calls Tryd.prog 14 #[v] w fun e w' => e = .returned (.int .i64 (mz l)) ∧ w' = w := by
  have A0 := Lib.hid h; have HL := Lib.hid hl
  have TH := Lib.hid (themer_any h hl)
  have RG := Lib.hid (thm_range l)
  obtain ⟨a, cap, rfl, _⟩ := h
  obtain ⟨n, hn⟩ : ∃ n, l.length = n := ⟨_, rfl⟩
  rw [hn] at A0 TH ⊢
  clear hn hl
  rcases RG.out with ht | ht | ht | ht | ht | ht | ht
  · rw [ht] at TH
    have V := Lib.hid (show mz l = 8 by simp [mz, ht])
    go_enter Tryd.func14, Tryd.ntmps14
    go_wp2_with fail
    refine TH.out.mono ?_; rintro e w2 ⟨rfl, rfl⟩
    go_wp2_with fail
    go_ret
    exact ⟨by rw [V.out]; rfl, rfl⟩
  · rw [ht] at TH
    have V := Lib.hid (show mz l = 0 by simp [mz, ht])
    go_enter Tryd.func14, Tryd.ntmps14
    go_wp2_with fail
    refine TH.out.mono ?_; rintro e w2 ⟨rfl, rfl⟩
    go_wp2_with fail
    go_ret
    exact ⟨by rw [V.out]; rfl, rfl⟩
  · rw [ht] at TH
    have V := Lib.hid (show mz l = 2 by simp [mz, ht])
    go_enter Tryd.func14, Tryd.ntmps14
    go_wp2_with fail
    refine TH.out.mono ?_; rintro e w2 ⟨rfl, rfl⟩
    go_wp2_with fail
    go_ret
    exact ⟨by rw [V.out]; rfl, rfl⟩
  · rw [ht] at TH
    have V := Lib.hid (show mz l = 6 by simp [mz, ht])
    go_enter Tryd.func14, Tryd.ntmps14
    go_wp2_with fail
    refine TH.out.mono ?_; rintro e w2 ⟨rfl, rfl⟩
    go_wp2_with fail
    go_ret
    exact ⟨by rw [V.out]; rfl, rfl⟩
  · rw [ht] at TH
    have V0 := Lib.hid (show mz l = rz (cls l) by simp [mz, ht])
    go_enter Tryd.func14, Tryd.ntmps14
    go_wp2_with fail
    refine TH.out.mono ?_; rintro e w2 ⟨rfl, rfl⟩
    go_wp2_with fail
    have CL := Lib.hid (classr_any A0.out HL.out)
    obtain ⟨c, hc⟩ : ∃ c, cls l = c := ⟨_, rfl⟩
    rw [hc] at CL V0
    clear hc
    refine CL.out.mono ?_; rintro e w3 ⟨rfl, rfl⟩
    by_cases c1 : c = 1
    · subst c1
      have V := Lib.hid (V0.out.trans (show rz 1 = 0 from rfl))
      go_wp2_with fail
      go_ret
      exact ⟨by rw [V.out]; rfl, rfl⟩
    · by_cases c2 : c = 2
      · subst c2
        have V := Lib.hid (V0.out.trans (show rz 2 = 2 from rfl))
        go_wp2_with fail
        go_ret
        exact ⟨by rw [V.out]; rfl, rfl⟩
      · by_cases c3 : c = 3
        · subst c3
          have V := Lib.hid (V0.out.trans (show rz 3 = 4 from rfl))
          go_wp2_with fail
          go_ret
          exact ⟨by rw [V.out]; rfl, rfl⟩
        · have V := Lib.hid (V0.out.trans (show rz c = 5 by unfold rz; rw [if_neg c1, if_neg c2, if_neg c3]))
          have e1 : (c == 1) = false := by simpa using c1
          have e2 : (c == 2) = false := by simpa using c2
          have e3 : (c == 3) = false := by simpa using c3
          go_wp2_with fail
          go_ret
          exact ⟨by rw [V.out]; rfl, rfl⟩
  · rw [ht] at TH
    have V := Lib.hid (show mz l = 0 by simp [mz, ht])
    go_enter Tryd.func14, Tryd.ntmps14
    go_wp2_with fail
    refine TH.out.mono ?_; rintro e w2 ⟨rfl, rfl⟩
    go_wp2_with fail
    go_ret
    exact ⟨by rw [V.out]; rfl, rfl⟩
  · rw [ht] at TH
    go_enter Tryd.func14, Tryd.ntmps14
    go_wp2_with fail
    refine TH.out.mono ?_; rintro e w2 ⟨rfl, rfl⟩
    go_wp2_with fail
    refine (isr_any sPlace sCity A0.out HL.out).mono ?_; rintro e p0 ⟨rfl, rfl⟩
    cases g0 : isB l sPlace sCity with
    | true =>
      have V := Lib.hid (show mz l = 0 by simp [mz, ht, plz, g0])
      go_wp2_with fail
      go_ret
      exact ⟨by rw [V.out]; rfl, rfl⟩
    | false =>
      go_wp2_with fail
      refine (isr_any sPlace sTown A0.out HL.out).mono ?_; rintro e p1 ⟨rfl, rfl⟩
      cases g1 : isB l sPlace sTown with
      | true =>
        have V := Lib.hid (show mz l = 3 by simp [mz, ht, plz, g0, g1])
        go_wp2_with fail
        go_ret
        exact ⟨by rw [V.out]; rfl, rfl⟩
      | false =>
        go_wp2_with fail
        refine (isr_any sPlace sVil A0.out HL.out).mono ?_; rintro e p2 ⟨rfl, rfl⟩
        cases g2 : isB l sPlace sVil with
        | true =>
          have V := Lib.hid (show mz l = 5 by simp [mz, ht, plz, g0, g1, g2])
          go_wp2_with fail
          go_ret
          exact ⟨by rw [V.out]; rfl, rfl⟩
        | false =>
          have V := Lib.hid (show mz l = 6 by simp [mz, ht, plz, g0, g1, g2])
          go_wp2_with fail
          go_ret
          exact ⟨by rw [V.out]; rfl, rfl⟩
end Go.Proofs.YtgfhanhonfpngaaDoor
