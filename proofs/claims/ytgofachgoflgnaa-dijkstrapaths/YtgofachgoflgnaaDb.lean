/- dijkstra: Check, the program's and the reference's; check; few. -/
import Derived.Test.YtgofachgoflgnaaDa
namespace Go.Proofs.Ytgofachgoflgnaa
open Go.ChangeShapes Go.WideShapes Go.ChangeAt Go.RowKit Go.Joins Go.Deep

def wbad (x : Int) : Prop := x < -1 ∨ 1073741824 < x
instance (x : Int) : Decidable (wbad x) := by unfold wbad; infer_instance
def ck (N : Int) (ars : List (Int × Int)) (ws : List Int) : Int := if chk N ars ≠ 0 then chk N ars else if ws.length ≠ ars.length ∨ ∃ x ∈ ws, wbad x then 17 else 0
theorem ck_len {N : Int} {ars : List (Int × Int)} {ws : List Int} (h : chk N ars = 0) (hl : ws.length = ars.length) : ck N ars ws = if ∃ x ∈ ws, wbad x then 17 else 0 := by
  unfold ck
  rw [if_neg (by simpa using h)]
  by_cases hx : ∃ x ∈ ws, wbad x
  · rw [if_pos hx, if_pos (Or.inr hx)]
  · rw [if_neg hx, if_neg]; rintro (k | k)
    · exact k hl
    · exact hx k
theorem getD_mem' {l : List Int} {i : Nat} (h : i < l.length) : l.getD i 0 ∈ l := by rw [List.getD, List.getElem?_eq_getElem h]; exact List.getElem_mem _
/- a graph with weights that Check accepts -/
structure OkW (m : Nat) (ars : List (Int × Int)) (ws : List Int) : Prop where
  c : chk (m : Int) ars = 0
  l : ws.length = ars.length
  w : ∀ i, i < ws.length → -1 ≤ ws.getD i 0 ∧ ws.getD i 0 ≤ 1073741824
theorem OkW.arc {m : Nat} {ars : List (Int × Int)} {ws : List Int} (h : OkW m ars ws) : ∀ j, j < ars.length → ¬ bad (m : Int) (ars.getD j (0, 0)) := (chk_zero h.c).2
theorem OkW.size {m : Nat} {ars : List (Int × Int)} {ws : List Int} (h : OkW m ars ws) : m ≤ 1048576 ∧ ars.length ≤ 4194304 := by have := (chk_zero h.c).1; unfold long at this; omega
theorem chk_nat {N : Int} {ars : List (Int × Int)} (h : chk N ars = 0) : ∃ m : Nat, N = (m : Int) := by
  have := (chk_zero h).1
  unfold long at this
  exact ⟨N.toNat, by omega⟩
theorem ck_ok {N : Int} {ars : List (Int × Int)} {ws : List Int} (h : ck N ars ws = 0) : ∃ m : Nat, N = (m : Int) ∧ OkW m ars ws := by
  unfold ck at h
  by_cases hc : chk N ars = 0
  · rw [if_neg (by simpa using hc)] at h
    obtain ⟨m, rfl⟩ := chk_nat hc
    by_cases hx : ws.length ≠ ars.length ∨ ∃ x ∈ ws, wbad x
    · rw [if_pos hx] at h; cases h
    · refine ⟨m, rfl, hc, Classical.byContradiction fun k => hx (Or.inl k), fun i hi => ?_⟩
      have : ¬ wbad (ws.getD i 0) := fun k => hx (Or.inr ⟨_, getD_mem' hi, k⟩)
      unfold wbad at this; omega
  · rw [if_pos hc] at h; exact absurd h hc
theorem ok_ck {m : Nat} {ars : List (Int × Int)} {ws : List Int} (h : OkW m ars ws) : ck (m : Int) ars ws = 0 := by
  rw [ck_len h.c h.l, if_neg]
  rintro ⟨x, hx, hb⟩
  obtain ⟨i, hi, e⟩ := List.getElem_of_mem hx
  have := h.w i hi
  rw [List.getD, List.getElem?_eq_getElem hi, Option.getD_some, e] at this
  unfold wbad at hb; omega
theorem arc_nat {l : List (Int × Int)} {m : Nat} (hb : ∀ j, j < l.length → ¬ bad (m : Int) (l.getD j (0, 0))) {j : Nat} (hj : j < l.length) : ∃ x y : Nat, l.getD j (0, 0) = ((x : Int), (y : Int)) ∧ x < m ∧ y < m := by
  have nb := hb j hj
  generalize l.getD j (0, 0) = a at nb
  obtain ⟨xx, yy⟩ := a
  unfold bad at nb
  dsimp only at nb
  obtain ⟨x, rfl⟩ : ∃ x : Nat, xx = (x : Int) := ⟨xx.toNat, by omega⟩
  obtain ⟨y, rfl⟩ : ∃ y : Nat, yy = (y : Int) := ⟨yy.toNat, by omega⟩
  exact ⟨x, y, rfl, by omega, by omega⟩
set_option maxRecDepth 100000 in
set_option maxHeartbeats 4000000 in
theorem ck_any {w : World} {N : Int} {v u : Value} {ars : List (Int × Int)} {ws : List Int} (h : ArcsAt w v ars) (hw : IntsAt w u ws) : Calls Try.prog 14 #[gv N v, u] w fun e w' => e = .returned (.int .i64 (ck N ars ws)) ∧ Below w.heap.size w w' := by
  have A0 := h
  obtain ⟨a, cap, rfl, _⟩ := h
  obtain ⟨ua, uc, rfl⟩ := hw.form
  have CK := Lib.hid (fun W (b : Below w.heap.size w W) => check_any (N := N) (A0.below b))
  have UU := Lib.hid hw
  obtain ⟨n, hn⟩ : ∃ n, ars.length = n := ⟨_, rfl⟩
  obtain ⟨k, hk⟩ : ∃ k, ws.length = k := ⟨_, rfl⟩
  have HN := Lib.hid hn; have HK := Lib.hid hk
  rw [hn] at CK ⊢
  rw [hk] at UU ⊢
  obtain ⟨W1, hW1⟩ : ∃ W1, w.alloc (.cells #[.int .i64 N, .slice a n cap] 24) = W1 := ⟨_, rfl⟩
  have r1 : Row W1 w.heap.size 24 [.int .i64 N, .slice a n cap] := by rw [← hW1]; exact Row.new _ _ _
  have q0 := r1.cell (i := 0) rfl; have q1 := r1.cell (i := 1) rfl
  have R1 := Lib.hid r1
  have BB := Lib.hid (show Below w.heap.size w W1 by rw [← hW1]; exact (Below.refl _ _).alloc (Nat.le_refl _) _)
  clear r1 hw
  by_cases hc : chk N ars = 0
  · rw [hc] at CK
    have hnn : n ≤ 4194304 := by have := (chk_zero hc).1; unfold long at this; rw [hn] at this; omega
    have NN := Lib.hid hnn
    by_cases hl : k = n
    · obtain rfl := hl
      have CV := Lib.hid (ck_len hc (hk.trans hn.symm))
      clear hn hk hc hnn A0
      go_enter Try.func14, Try.ntmps14
      go_wp2_with fail
      refine (CK.out _ BB.out).mono ?_; rintro e w3 ⟨rfl, b⟩
      have B3 := Lib.hid (BB.out.trans (b.mono BB.out.size))
      have rr := R1.out.below b R1.out.lt
      clear b q0 q1 hW1
      have q0 := rr.cell (i := 0) rfl; have q1 := rr.cell (i := 1) rfl
      clear rr
      go_wp2_with fail
      clear q0 q1
      go_loopw [21] (fun s wr => ∃ j : Nat, j ≤ k ∧ s = .int .i64 (j : Int) ∧ Hid (∀ i, i < j → ¬ wbad (ws.getD i 0)) ∧ wr = w3) (fun s _ => k - (intOf s).toNat)
      case atStart => exact ⟨0, Nat.zero_le _, rfl, fun i hi => absurd hi (by omega), rfl⟩
      case round =>
        obtain ⟨j, hj, rfl, GG, rfl⟩ := hrel
        by_cases hjk : j < k
        · obtain ⟨b, off, rfl, o0⟩ := (UU.out.below B3.out).at (k := j) (by rw [HK.out]; exact hjk)
          obtain ⟨x, hx⟩ : ∃ x, ws.getD j 0 = x := ⟨_, rfl⟩
          rw [hx] at o0
          have HX := Lib.hid hx
          obtain ⟨j1, hj1⟩ : ∃ j1, j + 1 = j1 := ⟨_, rfl⟩
          have HJ := Lib.hid hj1
          have j0 : (0 : Int) ≤ (j : Int) := by omega
          have jl : (j : Int) < (k : Int) := by omega
          have e1 : (j : Int) + 1 = (j1 : Int) := by omega
          have e2 : IntKind.i64.wrap (j1 : Int) = (j1 : Int) := by rw [IntKind.wrap_i64]; have := NN.out; omega
          have JL := Lib.hid (show j < ws.length by rw [HK.out]; exact hjk)
          clear hx hj1 hj hjk
          by_cases c0 : x < -1
          · have V : Hid (ck N ars ws = 17) := by show _ = _; rw [CV.out, if_pos]; exact ⟨_, getD_mem' JL.out, by rw [HX.out]; exact Or.inl c0⟩
            go_wp2_with fail
            go_ret
            exact ⟨by rw [V.out]; rfl, B3.out⟩
          · by_cases c1 : 1073741824 < x
            · have V : Hid (ck N ars ws = 17) := by show _ = _; rw [CV.out, if_pos]; exact ⟨_, getD_mem' JL.out, by rw [HX.out]; exact Or.inr c1⟩
              go_wp2_with fail
              go_ret
              exact ⟨by rw [V.out]; rfl, B3.out⟩
            · have GG2 : Hid (∀ i, i < j1 → ¬ wbad (ws.getD i 0)) := by
                intro i hi
                by_cases e : i = j
                · rw [e, HX.out]; unfold wbad; omega
                · exact GG.out i (by have := HJ.out; omega)
              have JK : Hid (j < k) := by have := JL.out; rw [HK.out] at this; exact this
              go_wp2_with fail
              go_roundw
              case measure => simp [intOf]; have := HJ.out; have := JK.out; omega
              case rel => first | exact ⟨j1, by have := HJ.out; have := JK.out; omega, rfl, GG2, rfl⟩ | exact ⟨j1, by have := HJ.out; have := JK.out; omega, rfl, GG2, trivial⟩
        · have jl : ¬ (j : Int) < (k : Int) := by omega
          have V : Hid (ck N ars ws = 0) := by
            show _ = _
            rw [CV.out, if_neg]
            rintro ⟨x, hx, hb⟩
            obtain ⟨i, hi, e⟩ := List.getElem_of_mem hx
            refine GG.out i (by rw [HK.out] at hi; omega) ?_
            rw [List.getD, List.getElem?_eq_getElem hi, Option.getD_some, e]; exact hb
          obtain rfl : j = k := by omega
          clear hj hjk
          go_wp2_with fail
          go_ret
          exact ⟨by rw [V.out]; rfl, B3.out⟩
    · have V : Hid (ck N ars ws = 17) := by show _ = _; unfold ck; rw [if_neg (by simpa using hc), if_pos (Or.inl (by rw [hn, hk]; exact hl))]
      have c0 : ((k : Int) == (n : Int)) = false := by simp; omega
      have c1 : ((k : Int) != (n : Int)) = true := by simp; omega
      clear hn hk hc hnn hl A0
      go_enter Try.func14, Try.ntmps14
      go_wp2_with fail
      refine (CK.out _ BB.out).mono ?_; rintro e w3 ⟨rfl, b⟩
      have B3 := Lib.hid (BB.out.trans (b.mono BB.out.size))
      have rr := R1.out.below b R1.out.lt
      clear b q0 q1 hW1
      have q0 := rr.cell (i := 0) rfl; have q1 := rr.cell (i := 1) rfl
      clear rr
      go_wp2_with fail
      go_ret
      exact ⟨by rw [V.out]; rfl, B3.out⟩
  · obtain ⟨c, hcc⟩ : ∃ c, chk N ars = c := ⟨_, rfl⟩
    have V : Hid (ck N ars ws = c) := by show _ = _; unfold ck; rw [if_pos hc, hcc]
    rw [hcc] at CK hc
    have c1 : (c == 0) = false := by simpa using hc
    have c2 : (c != 0) = true := by simpa using hc
    clear hn hk hcc hc A0
    go_enter Try.func14, Try.ntmps14
    go_wp2_with fail
    refine (CK.out _ BB.out).mono ?_; rintro e w3 ⟨rfl, b⟩
    have B3 := Lib.hid (BB.out.trans (b.mono BB.out.size))
    clear b q0 q1 hW1
    go_wp2_with fail
    go_ret
    exact ⟨by rw [V.out]; rfl, B3.out⟩
set_option maxRecDepth 100000 in
set_option maxHeartbeats 4000000 in
theorem ckr_any {w : World} {N : Int} {v u : Value} {ars : List (Int × Int)} {ws : List Int} (h : ArcsAt w v ars) (hw : IntsAt w u ws) : Calls Try.prog 15 #[gv N v, u] w fun e w' => e = .returned (.int .i64 (ck N ars ws)) ∧ Below w.heap.size w w' := by
  have A0 := h
  obtain ⟨a, cap, rfl, _⟩ := h
  obtain ⟨ua, uc, rfl⟩ := hw.form
  have CK := Lib.hid (fun W (b : Below w.heap.size w W) => checkr_any (N := N) (A0.below b))
  have UU := Lib.hid hw
  obtain ⟨n, hn⟩ : ∃ n, ars.length = n := ⟨_, rfl⟩
  obtain ⟨k, hk⟩ : ∃ k, ws.length = k := ⟨_, rfl⟩
  have HN := Lib.hid hn; have HK := Lib.hid hk
  rw [hn] at CK ⊢
  rw [hk] at UU ⊢
  obtain ⟨W1, hW1⟩ : ∃ W1, w.alloc (.cells #[.int .i64 N, .slice a n cap] 24) = W1 := ⟨_, rfl⟩
  have r1 : Row W1 w.heap.size 24 [.int .i64 N, .slice a n cap] := by rw [← hW1]; exact Row.new _ _ _
  have q0 := r1.cell (i := 0) rfl; have q1 := r1.cell (i := 1) rfl
  have R1 := Lib.hid r1
  have BB := Lib.hid (show Below w.heap.size w W1 by rw [← hW1]; exact (Below.refl _ _).alloc (Nat.le_refl _) _)
  clear r1 hw
  by_cases hc : chk N ars = 0
  · rw [hc] at CK
    have hnn : n ≤ 4194304 := by have := (chk_zero hc).1; unfold long at this; rw [hn] at this; omega
    have NN := Lib.hid hnn
    by_cases hl : k = n
    · obtain rfl := hl
      have CV := Lib.hid (ck_len hc (hk.trans hn.symm))
      clear hn hk hc hnn A0
      go_enter Try.func15, Try.ntmps15
      go_wp2_with fail
      refine (CK.out _ BB.out).mono ?_; rintro e w3 ⟨rfl, b⟩
      have B3 := Lib.hid (BB.out.trans (b.mono BB.out.size))
      have rr := R1.out.below b R1.out.lt
      clear b q0 q1 hW1
      have q0 := rr.cell (i := 0) rfl; have q1 := rr.cell (i := 1) rfl
      clear rr
      go_wp2_with fail
      clear q0 q1
      go_loopw [6] (fun s wr => ∃ j : Nat, j ≤ k ∧ s = .int .i64 (j : Int) ∧ Hid (∀ i, i < j → ¬ wbad (ws.getD i 0)) ∧ wr = w3) (fun s _ => k - (intOf s).toNat)
      case atStart => exact ⟨0, Nat.zero_le _, rfl, fun i hi => absurd hi (by omega), rfl⟩
      case round =>
        obtain ⟨j, hj, rfl, GG, rfl⟩ := hrel
        by_cases hjk : j < k
        · obtain ⟨b, off, rfl, o0⟩ := (UU.out.below B3.out).at (k := j) (by rw [HK.out]; exact hjk)
          obtain ⟨x, hx⟩ : ∃ x, ws.getD j 0 = x := ⟨_, rfl⟩
          rw [hx] at o0
          have HX := Lib.hid hx
          obtain ⟨j1, hj1⟩ : ∃ j1, j + 1 = j1 := ⟨_, rfl⟩
          have HJ := Lib.hid hj1
          have j0 : (0 : Int) ≤ (j : Int) := by omega
          have jl : (j : Int) < (k : Int) := by omega
          have e1 : (j : Int) + 1 = (j1 : Int) := by omega
          have e2 : IntKind.i64.wrap (j1 : Int) = (j1 : Int) := by rw [IntKind.wrap_i64]; have := NN.out; omega
          have JL := Lib.hid (show j < ws.length by rw [HK.out]; exact hjk)
          clear hx hj1 hj hjk
          by_cases c0 : x < -1
          · have V : Hid (ck N ars ws = 17) := by show _ = _; rw [CV.out, if_pos]; exact ⟨_, getD_mem' JL.out, by rw [HX.out]; exact Or.inl c0⟩
            go_wp2_with fail
            go_ret
            exact ⟨by rw [V.out]; rfl, B3.out⟩
          · by_cases c1 : 1073741824 < x
            · have V : Hid (ck N ars ws = 17) := by show _ = _; rw [CV.out, if_pos]; exact ⟨_, getD_mem' JL.out, by rw [HX.out]; exact Or.inr c1⟩
              go_wp2_with fail
              go_ret
              exact ⟨by rw [V.out]; rfl, B3.out⟩
            · have GG2 : Hid (∀ i, i < j1 → ¬ wbad (ws.getD i 0)) := by
                intro i hi
                by_cases e : i = j
                · rw [e, HX.out]; unfold wbad; omega
                · exact GG.out i (by have := HJ.out; omega)
              have JK : Hid (j < k) := by have := JL.out; rw [HK.out] at this; exact this
              go_wp2_with fail
              go_roundw
              case measure => simp [intOf]; have := HJ.out; have := JK.out; omega
              case rel => first | exact ⟨j1, by have := HJ.out; have := JK.out; omega, rfl, GG2, rfl⟩ | exact ⟨j1, by have := HJ.out; have := JK.out; omega, rfl, GG2, trivial⟩
        · have jl : ¬ (j : Int) < (k : Int) := by omega
          have V : Hid (ck N ars ws = 0) := by
            show _ = _
            rw [CV.out, if_neg]
            rintro ⟨x, hx, hb⟩
            obtain ⟨i, hi, e⟩ := List.getElem_of_mem hx
            refine GG.out i (by rw [HK.out] at hi; omega) ?_
            rw [List.getD, List.getElem?_eq_getElem hi, Option.getD_some, e]; exact hb
          obtain rfl : j = k := by omega
          clear hj hjk
          go_wp2_with fail
          go_ret
          exact ⟨by rw [V.out]; rfl, B3.out⟩
    · have V : Hid (ck N ars ws = 17) := by show _ = _; unfold ck; rw [if_neg (by simpa using hc), if_pos (Or.inl (by rw [hn, hk]; exact hl))]
      have c0 : ((k : Int) == (n : Int)) = false := by simp; omega
      have c1 : ((k : Int) != (n : Int)) = true := by simp; omega
      clear hn hk hc hnn hl A0
      go_enter Try.func15, Try.ntmps15
      go_wp2_with fail
      refine (CK.out _ BB.out).mono ?_; rintro e w3 ⟨rfl, b⟩
      have B3 := Lib.hid (BB.out.trans (b.mono BB.out.size))
      have rr := R1.out.below b R1.out.lt
      clear b q0 q1 hW1
      have q0 := rr.cell (i := 0) rfl; have q1 := rr.cell (i := 1) rfl
      clear rr
      go_wp2_with fail
      go_ret
      exact ⟨by rw [V.out]; rfl, B3.out⟩
  · obtain ⟨c, hcc⟩ : ∃ c, chk N ars = c := ⟨_, rfl⟩
    have V : Hid (ck N ars ws = c) := by show _ = _; unfold ck; rw [if_pos hc, hcc]
    rw [hcc] at CK hc
    have c1 : (c == 0) = false := by simpa using hc
    have c2 : (c != 0) = true := by simpa using hc
    clear hn hk hcc hc A0
    go_enter Try.func15, Try.ntmps15
    go_wp2_with fail
    refine (CK.out _ BB.out).mono ?_; rintro e w3 ⟨rfl, b⟩
    have B3 := Lib.hid (BB.out.trans (b.mono BB.out.size))
    clear b q0 q1 hW1
    go_wp2_with fail
    go_ret
    exact ⟨by rw [V.out]; rfl, B3.out⟩
end Go.Proofs.Ytgofachgoflgnaa
