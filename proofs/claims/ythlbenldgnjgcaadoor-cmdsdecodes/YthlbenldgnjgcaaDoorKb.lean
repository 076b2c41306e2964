/- cmds: the program's Check. -/
import Derived.Test.YthlbenldgnjgcaaDoorKa
namespace Go.Proofs.YthlbenldgnjgcaaDoor
open Go.ChangeShapes Go.WideShapes Go.ChangeAt Go.RowKit Go.Joins Go.Deep

set_option maxRecDepth 100000 in
set_option maxHeartbeats 4000000 in
theorem checkPart_1 {w : World} {v : Value} {l : List Pt} (h : PtsAt w v l) : Calls Tryd.prog 21 #[.int .i64 1, v] w fun e w' => e = .returned (.int .i64 (cpt 1 l)) ∧ Below w.heap.size w w' := by
  have A0 := h
  obtain ⟨a, cap, rfl, _⟩ := h.form
  obtain ⟨n, hn⟩ : ∃ n, l.length = n := ⟨_, rfl⟩
  by_cases hs : shK 1 l.length
  · rw [cpt_short hs]
    have fs : ((n : Int) != 1) = true := by unfold shK at hs; rw [hn] at hs; simp at hs ⊢; omega
    rw [hn]
    clear A0 h hs hn
    go_enter Tryd.func21, Tryd.ntmps21
    go_wp2_with fail
    go_ret
    exact ⟨rfl, Below.refl _ _⟩
  · have fs : ((n : Int) != 1) = false := by unfold shK at hs; rw [hn] at hs; simp at hs ⊢; omega
    by_cases hl : 8000 < l.length
    · rw [cpt_long hs hl]
      have fl : (8000 : Int) < (n : Int) := by omega
      rw [hn]
      clear A0 h hs hn hl
      go_enter Tryd.func21, Tryd.ntmps21
      go_wp2_with fail
      go_ret
      exact ⟨rfl, Below.refl _ _⟩
    · have HS := Lib.hid hs; have HL := Lib.hid hl
      have fl : ¬ (8000 : Int) < (n : Int) := by omega
      have HN := Lib.hid hn
      have AA := Lib.hid A0
      have FS := Lib.hid fs; have FL := Lib.hid fl
      rw [hn] at AA ⊢
      clear A0 h hs hn hl
      go_enter Tryd.func21, Tryd.ntmps21
      go_wp2_with fail
      clear fs fl
      go_loopw [35] (fun s wr => ∃ i : Nat, i ≤ n ∧ s = .int .i64 (i : Int) ∧ Hid (∀ j, j < i → inE (l.getD j (0, 0))) ∧ Hid (Below w.heap.size w wr)) (fun s _ => n - (intOf s).toNat)
      case atStart => exact ⟨0, Nat.zero_le _, rfl, fun j hj => absurd hj (by omega), Below.refl _ _⟩
      case round =>
        obtain ⟨i, hi, rfl, GG, BW⟩ := hrel
        by_cases hin : i < n
        · obtain ⟨b, off, rfl, bl, o0, o1⟩ := (AA.out.below BW.out).at_ (j := i) (by rw [HN.out]; exact hin)
          have BD := Lib.hid (fun hb => cpt_bad HS.out HL.out (j := i) (by rw [HN.out]; exact hin) hb)
          obtain ⟨⟨x, y⟩, hz⟩ : ∃ z, l.getD i (0, 0) = z := ⟨_, rfl⟩
          rw [hz] at o0 o1 BD
          dsimp only at o0 o1
          have HZ := Lib.hid hz
          obtain ⟨k1, hk1⟩ : ∃ k1, i + 1 = k1 := ⟨_, rfl⟩
          have HK := Lib.hid hk1
          have k0 : (0 : Int) ≤ (i : Int) := by omega
          have kl : (i : Int) < (n : Int) := by omega
          have e1 : (i : Int) + 1 = (k1 : Int) := by omega
          have e2 : IntKind.i64.wrap (k1 : Int) = (k1 : Int) := by rw [IntKind.wrap_i64]; have := FL.out; omega
          obtain ⟨xb, hxb⟩ : ∃ xb, wr.heap.size = xb := ⟨_, rfl⟩
          obtain ⟨W2, hW2⟩ : ∃ W2, wr.alloc (.cells #[.int .i64 x, .int .i64 y] 44) = W2 := ⟨_, rfl⟩
          have r2 : Row W2 xb 44 [.int .i64 x, .int .i64 y] := by rw [← hW2, ← hxb]; exact Row.new _ _ _
          have b2 : Below wr.heap.size wr W2 := by rw [← hW2]; exact (Below.refl _ _).alloc (Nat.le_refl _) _
          have x0 := r2.cell (i := 0) rfl; have x1 := r2.cell (i := 1) rfl
          have B2 := Lib.hid (BW.out.trans (b2.mono BW.out.size))
          have Q := Lib.hid (inExtent_any x y W2)
          clear hz hk1 r2 b2 bl
          obtain ⟨eb, heb⟩ : ∃ eb, decide (inE (x, y)) = eb := ⟨_, rfl⟩
          rw [heb] at Q
          have HE := Lib.hid heb
          clear heb
          go_wp2_with fail
          refine Q.out.mono ?_; rintro e w3 ⟨rfl, b3⟩
          have B3 := Lib.hid (B2.out.trans (b3.mono B2.out.size))
          clear b3 Q
          cases eb with
          | false =>
            have V := Lib.hid (BD.out (of_decide_eq_false HE.out))
            clear BD GG
            go_wp2_with fail
            go_ret
            exact ⟨by rw [V.out]; rfl, B3.out⟩
          | true =>
            have G2 : Hid (∀ j, j < k1 → inE (l.getD j (0, 0))) := by
              intro j hj
              by_cases e : j = i
              · rw [e, HZ.out]; exact of_decide_eq_true HE.out
              · exact GG.out j (by have := HK.out; omega)
            clear BD GG
            go_wp2_with fail
            go_roundw
            case measure => simp [intOf]; have := HK.out; omega
            case rel => exact ⟨k1, by have := HK.out; omega, rfl, G2, B3⟩
        · have kl : ¬ (i : Int) < (n : Int) := by omega
          have V := Lib.hid (cpt_ok HS.out HL.out (fun j hj => GG.out j (by have := HN.out; omega)))
          clear GG
          go_wp2_with fail
          go_ret
          exact ⟨by rw [V.out]; rfl, BW.out⟩
set_option maxRecDepth 100000 in
set_option maxHeartbeats 4000000 in
theorem checkPart_2 {w : World} {v : Value} {l : List Pt} (h : PtsAt w v l) : Calls Tryd.prog 21 #[.int .i64 2, v] w fun e w' => e = .returned (.int .i64 (cpt 2 l)) ∧ Below w.heap.size w w' := by
  have A0 := h
  obtain ⟨a, cap, rfl, _⟩ := h.form
  obtain ⟨n, hn⟩ : ∃ n, l.length = n := ⟨_, rfl⟩
  by_cases hs : shK 2 l.length
  · rw [cpt_short hs]
    have fs : (n : Int) < 2 := by unfold shK at hs; rw [hn] at hs; simp at hs ⊢; omega
    rw [hn]
    clear A0 h hs hn
    go_enter Tryd.func21, Tryd.ntmps21
    go_wp2_with fail
    go_ret
    exact ⟨rfl, Below.refl _ _⟩
  · have fs : ¬ (n : Int) < 2 := by unfold shK at hs; rw [hn] at hs; simp at hs ⊢; omega
    by_cases hl : 8000 < l.length
    · rw [cpt_long hs hl]
      have fl : (8000 : Int) < (n : Int) := by omega
      rw [hn]
      clear A0 h hs hn hl
      go_enter Tryd.func21, Tryd.ntmps21
      go_wp2_with fail
      go_ret
      exact ⟨rfl, Below.refl _ _⟩
    · have HS := Lib.hid hs; have HL := Lib.hid hl
      have fl : ¬ (8000 : Int) < (n : Int) := by omega
      have HN := Lib.hid hn
      have AA := Lib.hid A0
      have FS := Lib.hid fs; have FL := Lib.hid fl
      rw [hn] at AA ⊢
      clear A0 h hs hn hl
      go_enter Tryd.func21, Tryd.ntmps21
      go_wp2_with fail
      clear fs fl
      go_loopw [35] (fun s wr => ∃ i : Nat, i ≤ n ∧ s = .int .i64 (i : Int) ∧ Hid (∀ j, j < i → inE (l.getD j (0, 0))) ∧ Hid (Below w.heap.size w wr)) (fun s _ => n - (intOf s).toNat)
      case atStart => exact ⟨0, Nat.zero_le _, rfl, fun j hj => absurd hj (by omega), Below.refl _ _⟩
      case round =>
        obtain ⟨i, hi, rfl, GG, BW⟩ := hrel
        by_cases hin : i < n
        · obtain ⟨b, off, rfl, bl, o0, o1⟩ := (AA.out.below BW.out).at_ (j := i) (by rw [HN.out]; exact hin)
          have BD := Lib.hid (fun hb => cpt_bad HS.out HL.out (j := i) (by rw [HN.out]; exact hin) hb)
          obtain ⟨⟨x, y⟩, hz⟩ : ∃ z, l.getD i (0, 0) = z := ⟨_, rfl⟩
          rw [hz] at o0 o1 BD
          dsimp only at o0 o1
          have HZ := Lib.hid hz
          obtain ⟨k1, hk1⟩ : ∃ k1, i + 1 = k1 := ⟨_, rfl⟩
          have HK := Lib.hid hk1
          have k0 : (0 : Int) ≤ (i : Int) := by omega
          have kl : (i : Int) < (n : Int) := by omega
          have e1 : (i : Int) + 1 = (k1 : Int) := by omega
          have e2 : IntKind.i64.wrap (k1 : Int) = (k1 : Int) := by rw [IntKind.wrap_i64]; have := FL.out; omega
          obtain ⟨xb, hxb⟩ : ∃ xb, wr.heap.size = xb := ⟨_, rfl⟩
          obtain ⟨W2, hW2⟩ : ∃ W2, wr.alloc (.cells #[.int .i64 x, .int .i64 y] 44) = W2 := ⟨_, rfl⟩
          have r2 : Row W2 xb 44 [.int .i64 x, .int .i64 y] := by rw [← hW2, ← hxb]; exact Row.new _ _ _
          have b2 : Below wr.heap.size wr W2 := by rw [← hW2]; exact (Below.refl _ _).alloc (Nat.le_refl _) _
          have x0 := r2.cell (i := 0) rfl; have x1 := r2.cell (i := 1) rfl
          have B2 := Lib.hid (BW.out.trans (b2.mono BW.out.size))
          have Q := Lib.hid (inExtent_any x y W2)
          clear hz hk1 r2 b2 bl
          obtain ⟨eb, heb⟩ : ∃ eb, decide (inE (x, y)) = eb := ⟨_, rfl⟩
          rw [heb] at Q
          have HE := Lib.hid heb
          clear heb
          go_wp2_with fail
          refine Q.out.mono ?_; rintro e w3 ⟨rfl, b3⟩
          have B3 := Lib.hid (B2.out.trans (b3.mono B2.out.size))
          clear b3 Q
          cases eb with
          | false =>
            have V := Lib.hid (BD.out (of_decide_eq_false HE.out))
            clear BD GG
            go_wp2_with fail
            go_ret
            exact ⟨by rw [V.out]; rfl, B3.out⟩
          | true =>
            have G2 : Hid (∀ j, j < k1 → inE (l.getD j (0, 0))) := by
              intro j hj
              by_cases e : j = i
              · rw [e, HZ.out]; exact of_decide_eq_true HE.out
              · exact GG.out j (by have := HK.out; omega)
            clear BD GG
            go_wp2_with fail
            go_roundw
            case measure => simp [intOf]; have := HK.out; omega
            case rel => exact ⟨k1, by have := HK.out; omega, rfl, G2, B3⟩
        · have kl : ¬ (i : Int) < (n : Int) := by omega
          have V := Lib.hid (cpt_ok HS.out HL.out (fun j hj => GG.out j (by have := HN.out; omega)))
          clear GG
          go_wp2_with fail
          go_ret
          exact ⟨by rw [V.out]; rfl, BW.out⟩
set_option maxRecDepth 100000 in
set_option maxHeartbeats 4000000 in
theorem checkPart_3 {w : World} {v : Value} {l : List Pt} (h : PtsAt w v l) : Calls Tryd.prog 21 #[.int .i64 3, v] w fun e w' => e = .returned (.int .i64 (cpt 3 l)) ∧ Below w.heap.size w w' := by
  have A0 := h
  obtain ⟨a, cap, rfl, _⟩ := h.form
  obtain ⟨n, hn⟩ : ∃ n, l.length = n := ⟨_, rfl⟩
  by_cases hs : shK 3 l.length
  · rw [cpt_short hs]
    have fs : (n : Int) < 3 := by unfold shK at hs; rw [hn] at hs; simp at hs ⊢; omega
    rw [hn]
    clear A0 h hs hn
    go_enter Tryd.func21, Tryd.ntmps21
    go_wp2_with fail
    go_ret
    exact ⟨rfl, Below.refl _ _⟩
  · have fs : ¬ (n : Int) < 3 := by unfold shK at hs; rw [hn] at hs; simp at hs ⊢; omega
    by_cases hl : 8000 < l.length
    · rw [cpt_long hs hl]
      have fl : (8000 : Int) < (n : Int) := by omega
      rw [hn]
      clear A0 h hs hn hl
      go_enter Tryd.func21, Tryd.ntmps21
      go_wp2_with fail
      go_ret
      exact ⟨rfl, Below.refl _ _⟩
    · have HS := Lib.hid hs; have HL := Lib.hid hl
      have fl : ¬ (8000 : Int) < (n : Int) := by omega
      have HN := Lib.hid hn
      have AA := Lib.hid A0
      have FS := Lib.hid fs; have FL := Lib.hid fl
      rw [hn] at AA ⊢
      clear A0 h hs hn hl
      go_enter Tryd.func21, Tryd.ntmps21
      go_wp2_with fail
      clear fs fl
      go_loopw [35] (fun s wr => ∃ i : Nat, i ≤ n ∧ s = .int .i64 (i : Int) ∧ Hid (∀ j, j < i → inE (l.getD j (0, 0))) ∧ Hid (Below w.heap.size w wr)) (fun s _ => n - (intOf s).toNat)
      case atStart => exact ⟨0, Nat.zero_le _, rfl, fun j hj => absurd hj (by omega), Below.refl _ _⟩
      case round =>
        obtain ⟨i, hi, rfl, GG, BW⟩ := hrel
        by_cases hin : i < n
        · obtain ⟨b, off, rfl, bl, o0, o1⟩ := (AA.out.below BW.out).at_ (j := i) (by rw [HN.out]; exact hin)
          have BD := Lib.hid (fun hb => cpt_bad HS.out HL.out (j := i) (by rw [HN.out]; exact hin) hb)
          obtain ⟨⟨x, y⟩, hz⟩ : ∃ z, l.getD i (0, 0) = z := ⟨_, rfl⟩
          rw [hz] at o0 o1 BD
          dsimp only at o0 o1
          have HZ := Lib.hid hz
          obtain ⟨k1, hk1⟩ : ∃ k1, i + 1 = k1 := ⟨_, rfl⟩
          have HK := Lib.hid hk1
          have k0 : (0 : Int) ≤ (i : Int) := by omega
          have kl : (i : Int) < (n : Int) := by omega
          have e1 : (i : Int) + 1 = (k1 : Int) := by omega
          have e2 : IntKind.i64.wrap (k1 : Int) = (k1 : Int) := by rw [IntKind.wrap_i64]; have := FL.out; omega
          obtain ⟨xb, hxb⟩ : ∃ xb, wr.heap.size = xb := ⟨_, rfl⟩
          obtain ⟨W2, hW2⟩ : ∃ W2, wr.alloc (.cells #[.int .i64 x, .int .i64 y] 44) = W2 := ⟨_, rfl⟩
          have r2 : Row W2 xb 44 [.int .i64 x, .int .i64 y] := by rw [← hW2, ← hxb]; exact Row.new _ _ _
          have b2 : Below wr.heap.size wr W2 := by rw [← hW2]; exact (Below.refl _ _).alloc (Nat.le_refl _) _
          have x0 := r2.cell (i := 0) rfl; have x1 := r2.cell (i := 1) rfl
          have B2 := Lib.hid (BW.out.trans (b2.mono BW.out.size))
          have Q := Lib.hid (inExtent_any x y W2)
          clear hz hk1 r2 b2 bl
          obtain ⟨eb, heb⟩ : ∃ eb, decide (inE (x, y)) = eb := ⟨_, rfl⟩
          rw [heb] at Q
          have HE := Lib.hid heb
          clear heb
          go_wp2_with fail
          refine Q.out.mono ?_; rintro e w3 ⟨rfl, b3⟩
          have B3 := Lib.hid (B2.out.trans (b3.mono B2.out.size))
          clear b3 Q
          cases eb with
          | false =>
            have V := Lib.hid (BD.out (of_decide_eq_false HE.out))
            clear BD GG
            go_wp2_with fail
            go_ret
            exact ⟨by rw [V.out]; rfl, B3.out⟩
          | true =>
            have G2 : Hid (∀ j, j < k1 → inE (l.getD j (0, 0))) := by
              intro j hj
              by_cases e : j = i
              · rw [e, HZ.out]; exact of_decide_eq_true HE.out
              · exact GG.out j (by have := HK.out; omega)
            clear BD GG
            go_wp2_with fail
            go_roundw
            case measure => simp [intOf]; have := HK.out; omega
            case rel => exact ⟨k1, by have := HK.out; omega, rfl, G2, B3⟩
        · have kl : ¬ (i : Int) < (n : Int) := by omega
          have V := Lib.hid (cpt_ok HS.out HL.out (fun j hj => GG.out j (by have := HN.out; omega)))
          clear GG
          go_wp2_with fail
          go_ret
          exact ⟨by rw [V.out]; rfl, BW.out⟩
theorem checkPart_any {w : World} {k : Int} {v : Value} {l : List Pt} (h : PtsAt w v l) (hk : vK k) : Calls Tryd.prog 21 #[.int .i64 k, v] w fun e w' => e = .returned (.int .i64 (cpt k l)) ∧ Below w.heap.size w w' := by
  have h3 : k = 1 ∨ k = 2 ∨ k = 3 := by unfold vK at hk; omega
  rcases h3 with rfl | rfl | rfl
  · exact checkPart_1 h
  · exact checkPart_2 h
  · exact checkPart_3 h
end Go.Proofs.YthlbenldgnjgcaaDoor
