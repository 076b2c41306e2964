/- dijkstra: check with vertices; few. -/
import Derived.Test.YtgofachgoflgnaaDb
namespace Go.Proofs.Ytgofachgoflgnaa
open Go.ChangeShapes Go.WideShapes Go.ChangeAt Go.RowKit Go.Joins Go.Deep

def out (N : Int) (x : Int) : Prop := x < 0 ∨ N ≤ x
instance (N x : Int) : Decidable (out N x) := by unfold out; infer_instance
def ckv (N : Int) (ars : List (Int × Int)) (ws vl : List Int) : Int := if ck N ars ws ≠ 0 then ck N ars ws else if ∃ x ∈ vl, out N x then 2 else 0
theorem ckv_ok {N : Int} {ars : List (Int × Int)} {ws vl : List Int} (h : ck N ars ws = 0) : ckv N ars ws vl = if ∃ x ∈ vl, out N x then 2 else 0 := by unfold ckv; rw [if_neg (by simpa using h)]
theorem ckv_no {N : Int} {ars : List (Int × Int)} {ws vl : List Int} (h : ck N ars ws ≠ 0) : ckv N ars ws vl = ck N ars ws := by unfold ckv; rw [if_pos h]
set_option maxRecDepth 100000 in
set_option maxHeartbeats 4000000 in
theorem ckv_any {w : World} {N : Int} {v u z : Value} {ars : List (Int × Int)} {ws vl : List Int} (h : ArcsAt w v ars) (hw : IntsAt w u ws) (hz : IntsAt w z vl) (hl : vl.length ≤ 1000) : Calls Try.prog 22 #[gv N v, u, z] w fun e w' => e = .returned (.int .i64 (ckv N ars ws vl)) ∧ Below w.heap.size w w' := by
  have A0 := h
  obtain ⟨a, cap, rfl, _⟩ := h
  have CK := Lib.hid (fun W (b : Below w.heap.size w W) => ck_any (N := N) (A0.below b) (hw.below b))
  obtain ⟨ua, uc, rfl⟩ := hw.form
  obtain ⟨za, zc, rfl⟩ := hz.form
  have UU := Lib.hid hz
  obtain ⟨n, hn⟩ : ∃ n, ars.length = n := ⟨_, rfl⟩
  obtain ⟨k, hk⟩ : ∃ k, vl.length = k := ⟨_, rfl⟩
  obtain ⟨q, hq⟩ : ∃ q, ws.length = q := ⟨_, rfl⟩
  have HK := Lib.hid hk; have HL := Lib.hid hl
  rw [hn, hq] at CK
  rw [hn, hq, hk]
  rw [hk] at UU
  obtain ⟨W1, hW1⟩ : ∃ W1, w.alloc (.cells #[.int .i64 N, .slice a n cap] 24) = W1 := ⟨_, rfl⟩
  have r1 : Row W1 w.heap.size 24 [.int .i64 N, .slice a n cap] := by rw [← hW1]; exact Row.new _ _ _
  have q0 := r1.cell (i := 0) rfl; have q1 := r1.cell (i := 1) rfl
  have R1 := Lib.hid r1
  have BB := Lib.hid (show Below w.heap.size w W1 by rw [← hW1]; exact (Below.refl _ _).alloc (Nat.le_refl _) _)
  clear r1 hw hz hl A0 hn hq hk
  by_cases hc : ck N ars ws = 0
  · have CV := Lib.hid (ckv_ok (vl := vl) hc)
    rw [hc] at CK
    clear hc
    go_enter Try.func22, Try.ntmps22
    go_wp2_with fail
    refine (CK.out _ BB.out).mono ?_; rintro e w3 ⟨rfl, b⟩
    have B3 := Lib.hid (BB.out.trans (b.mono BB.out.size))
    have rr := R1.out.below b R1.out.lt
    clear b q0 q1 hW1
    have q0 := rr.cell (i := 0) rfl; have q1 := rr.cell (i := 1) rfl
    clear rr
    go_wp2_with fail
    go_loopw [18] (fun s wr => ∃ j : Nat, j ≤ k ∧ s = .int .i64 (j : Int) ∧ Hid (∀ i, i < j → ¬ out N (vl.getD i 0)) ∧ wr = w3) (fun s _ => k - (intOf s).toNat)
    case atStart => exact ⟨0, Nat.zero_le _, rfl, fun i hi => absurd hi (by omega), rfl⟩
    case round =>
      obtain ⟨j, hj, rfl, GG, rfl⟩ := hrel
      by_cases hjk : j < k
      · obtain ⟨b, off, rfl, o0⟩ := (UU.out.below B3.out).at (k := j) (by rw [HK.out]; exact hjk)
        obtain ⟨x, hx⟩ : ∃ x, vl.getD j 0 = x := ⟨_, rfl⟩
        rw [hx] at o0
        have HX := Lib.hid hx
        obtain ⟨j1, hj1⟩ : ∃ j1, j + 1 = j1 := ⟨_, rfl⟩
        have HJ := Lib.hid hj1
        have j0 : (0 : Int) ≤ (j : Int) := by omega
        have jl : (j : Int) < (k : Int) := by omega
        have e1 : (j : Int) + 1 = (j1 : Int) := by omega
        have e2 : IntKind.i64.wrap (j1 : Int) = (j1 : Int) := by rw [IntKind.wrap_i64]; have h1 := HL.out; have h2 := HK.out; omega
        have JL := Lib.hid (show j < vl.length by rw [HK.out]; exact hjk)
        clear hx hj1 hj hjk
        by_cases c0 : x < 0
        · have V : Hid (ckv N ars ws vl = 2) := by show _ = _; rw [CV.out, if_pos]; exact ⟨_, getD_mem' JL.out, by rw [HX.out]; exact Or.inl c0⟩
          go_wp2_with fail
          go_ret
          exact ⟨by rw [V.out]; rfl, B3.out⟩
        · by_cases c1 : N ≤ x
          · have V : Hid (ckv N ars ws vl = 2) := by show _ = _; rw [CV.out, if_pos]; exact ⟨_, getD_mem' JL.out, by rw [HX.out]; exact Or.inr c1⟩
            go_wp2_with fail
            go_ret
            exact ⟨by rw [V.out]; rfl, B3.out⟩
          · have GG2 : Hid (∀ i, i < j1 → ¬ out N (vl.getD i 0)) := by
              intro i hi
              by_cases e : i = j
              · rw [e, HX.out]; unfold out; omega
              · exact GG.out i (by have := HJ.out; omega)
            have JK : Hid (j < k) := by have := JL.out; rw [HK.out] at this; exact this
            go_wp2_with fail
            go_roundw
            case measure => simp [intOf]; have := HJ.out; have := JK.out; omega
            case rel => first | exact ⟨j1, by have := HJ.out; have := JK.out; omega, rfl, GG2, rfl⟩ | exact ⟨j1, by have := HJ.out; have := JK.out; omega, rfl, GG2, trivial⟩
      · have jl : ¬ (j : Int) < (k : Int) := by omega
        have V : Hid (ckv N ars ws vl = 0) := by
          show _ = _
          rw [CV.out, if_neg]
          rintro ⟨x, hx, hb⟩
          obtain ⟨i, hi, e⟩ := List.getElem_of_mem hx
          refine GG.out i (by rw [HK.out] at hi; omega) ?_
          rw [List.getD, List.getElem?_eq_getElem hi, Option.getD_some, e]; exact hb
        obtain rfl : j = k := by omega
        clear hj hjk
        go_wp2_with fail
        go_ret
        exact ⟨by rw [V.out]; rfl, B3.out⟩
  · have CV := Lib.hid (ckv_no (vl := vl) hc)
    obtain ⟨c, hcc⟩ : ∃ c, ck N ars ws = c := ⟨_, rfl⟩
    rw [hcc] at CK CV hc
    have c1 : (c == 0) = false := by simpa using hc
    have c2 : (c != 0) = true := by simpa using hc
    clear hcc hc
    go_enter Try.func22, Try.ntmps22
    go_wp2_with fail
    refine (CK.out _ BB.out).mono ?_; rintro e w3 ⟨rfl, b⟩
    have B3 := Lib.hid (BB.out.trans (b.mono BB.out.size))
    clear b q0 q1 hW1
    go_wp2_with fail
    go_ret
    exact ⟨by rw [CV.out]; rfl, B3.out⟩
def fewD (N : Int) (n k : Nat) : Bool := decide (N ≤ 12 ∧ n ≤ 40 ∧ k ≤ 60)
theorem few_any (N : Int) (n cap k cu : Nat) (a ua : Option Addr) (w : World) : Calls Try.prog 8 #[gv N (.slice a n cap), .slice ua k cu] w fun e w' => e = .returned (.bool (fewD N n k)) ∧ Below w.heap.size w w' := by
  obtain ⟨W1, hW1⟩ : ∃ W1, w.alloc (.cells #[.int .i64 N, .slice a n cap] 24) = W1 := ⟨_, rfl⟩
  have r1 : Row W1 w.heap.size 24 [.int .i64 N, .slice a n cap] := by rw [← hW1]; exact Row.new _ _ _
  have q0 := r1.cell (i := 0) rfl; have q1 := r1.cell (i := 1) rfl
  have BB := Lib.hid (show Below w.heap.size w W1 by rw [← hW1]; exact (Below.refl _ _).alloc (Nat.le_refl _) _)
  clear r1
  by_cases h0 : N ≤ 12
  · by_cases h1 : n ≤ 40
    · have h1' : (n : Int) ≤ 40 := by omega
      by_cases h2 : k ≤ 60
      · have h2' : (k : Int) ≤ 60 := by omega
        have V := Lib.hid (show fewD N n k = true by unfold fewD; simp; omega)
        clear h1 h2
        go_enter Try.func8, Try.ntmps8
        go_wp2_with fail
        go_ret
        exact ⟨by rw [V.out]; rfl, BB.out⟩
      · have h2' : ¬ (k : Int) ≤ 60 := by omega
        have V := Lib.hid (show fewD N n k = false by unfold fewD; simp; omega)
        clear h1 h2
        go_enter Try.func8, Try.ntmps8
        go_wp2_with fail
        go_ret
        exact ⟨by rw [V.out]; rfl, BB.out⟩
    · have h1' : ¬ (n : Int) ≤ 40 := by omega
      have V := Lib.hid (show fewD N n k = false by unfold fewD; simp; omega)
      clear h1
      go_enter Try.func8, Try.ntmps8
      go_wp2_with fail
      go_ret
      exact ⟨by rw [V.out]; rfl, BB.out⟩
  · have V := Lib.hid (show fewD N n k = false by unfold fewD; simp; omega)
    go_enter Try.func8, Try.ntmps8
    go_wp2_with fail
    go_ret
    exact ⟨by rw [V.out]; rfl, BB.out⟩
end Go.Proofs.Ytgofachgoflgnaa
