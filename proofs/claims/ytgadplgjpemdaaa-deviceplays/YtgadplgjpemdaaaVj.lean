/- device: the reference's pad, zero, Read, Writes, Limit. -/
import Derived.Test.YtgadplgjpemdaaaVi
set_option linter.unusedSimpArgs false
namespace Go.Proofs.Ytgadplgjpemdaaa
open Go.ChangeShapes Go.WideShapes Go.ChangeAt Go.RowKit Go.Joins Go.Deep

theorem zer_succ (k : Nat) : zer (k + 1) = ⟨#[0]⟩ ++ zer k := by
  apply ByteArray.ext
  rw [ByteArray.data_append]
  unfold zer
  apply Array.ext'
  simp [List.replicate_succ]
theorem pad_step {t : ByteArray} (h : t.size < 64) : (t ++ ⟨#[0]⟩) ++ zer (64 - (t ++ ⟨#[0]⟩ : ByteArray).size) = t ++ zer (64 - t.size) := by
  have e : (t ++ ⟨#[0]⟩ : ByteArray).size = t.size + 1 := by rw [ByteArray.size_append]; rfl
  rw [e, show 64 - t.size = (64 - (t.size + 1)) + 1 by omega, zer_succ, ByteArray.append_assoc]
set_option maxRecDepth 100000 in
set_option maxHeartbeats 2000000 in
theorem pad_any (s : ByteArray) (h : s.size ≤ 64) (w : World) : Calls Try.prog 25 #[.string s] w fun e w' => e = .returned (.string (padS s)) ∧ Below w.heap.size w w' := by
  have P0 : Hid (s ++ zer (64 - s.size) = padS s) := padS_eq s
  have HS := Lib.hid h
  clear h
  go_enter Try.func25, Try.ntmps25
  go_wp2_with fail
  go_loopw [0] (fun s0 wr => ∃ t : ByteArray, s0 = .string t ∧ Hid (t.size ≤ 64 ∧ t ++ zer (64 - t.size) = padS s) ∧ Hid (Below w.heap.size w wr)) (fun s0 _ => 64 - (match s0 with | .string t => t.size | _ => 0))
  case atStart => exact ⟨s, rfl, ⟨HS.out, P0.out⟩, Below.refl _ _⟩
  case round =>
    obtain ⟨t, rfl, HT, BW⟩ := hrel
    by_cases hlt : t.size < 64
    · have a1 : (t.size : Int) < 64 := by omega
      have a2 : decide ((t.size : Int) < 64) = true := by simpa using a1
      have a3 : decide (t.size < 64) = true := by simpa using hlt
      have b1 : ¬ 9223372036854775807 < t.size + 1 := by omega
      have b2 : ¬ 9223372036854775807 < t.size + (ByteArray.mk #[0]).size := b1
      obtain ⟨u, hu⟩ : ∃ u : ByteArray, t ++ ⟨#[0]⟩ = u := ⟨_, rfl⟩
      have HU : Hid (u.size ≤ 64 ∧ u ++ zer (64 - u.size) = padS s ∧ u.size = t.size + 1) := by
        have e : (t ++ ⟨#[0]⟩ : ByteArray).size = t.size + 1 := by rw [ByteArray.size_append]; rfl
        rw [← hu]
        exact (show _ ∧ _ ∧ _ from ⟨by rw [e]; omega, by rw [pad_step hlt]; exact HT.out.2, e⟩)
      have HL := Lib.hid hlt
      clear hlt
      go_wp2_with fail
      go_roundw
      case measure => show 64 - u.size < 64 - t.size; have := HU.out.2.2; have := HL.out; omega
      case rel => exact ⟨u, rfl, ⟨HU.out.1, HU.out.2.1⟩, BW⟩
    · have a1 : ¬ (t.size : Int) < 64 := by omega
      have a2 : decide ((t.size : Int) < 64) = false := by simpa using a1
      have a3 : decide (t.size < 64) = false := by simpa using hlt
      have E : Hid (t = padS s) := by
        have h1 := HT.out.2
        rw [show 64 - t.size = 0 by omega] at h1
        rw [← h1]
        show t = t ++ zer 0
        apply ByteArray.ext
        rw [ByteArray.data_append]
        simp [zer]
      clear hlt
      go_wp2_with fail
      go_ret
      exact ⟨by rw [E.out]; rfl, BW.out⟩
theorem zero_any (w : World) : Calls Try.prog 22 #[] w fun e w' => e = .returned (.string (padS ByteArray.empty)) ∧ Below w.heap.size w w' := by
  have P := Lib.hid (pad_any ByteArray.empty (by decide) w)
  go_enter Try.func22, Try.ntmps22
  go_wp2_with fail
  refine (show Calls Try.prog 25 #[.string _] w _ from P.out).mono ?_; rintro e w2 ⟨rfl, b⟩
  have B := Lib.hid b
  clear b
  go_wp2_with fail
  go_ret
  exact ⟨rfl, B.out⟩
/- the reference's device -/
abbrev rv (nil : Bool) (vB vF vA vP : Value) (left : Int) : Value := .agg #[.bool nil, vB, vF, vA, vP, .int .i64 left]
abbrev rcs (nil : Bool) (vB vF vA vP : Value) (left : Int) : List Value := [.bool nil, vB, vF, vA, vP, .int .i64 left]
def sts (l : List ByteArray) : List Value := l.map .string
theorem sts_at {l : List ByteArray} {j : Nat} (h : j < l.length) : (sts l)[j]? = some (.string (l.getD j ByteArray.empty)) := by
  unfold sts; rw [List.getElem?_map, List.getElem?_eq_getElem h, List.getD, List.getElem?_eq_getElem h]; rfl
def rdr (bs : List ByteArray) (i : Int) : ByteArray := if i < 0 ∨ (bs.length : Int) ≤ i then ByteArray.empty else bs.getD i.toNat ByteArray.empty
set_option maxRecDepth 100000 in
set_option maxHeartbeats 2000000 in
theorem readr_any {w : World} {B : Nat} {vB vF vA vP : Value} {left : Int} {bs : List ByteArray} (h : w.ownsRow B 9 1 vB bs.length (sts bs)) (i : Int) :
    Calls Try.prog 14 #[rv false vB vF vA vP left, .int .i64 i] w fun e w' => e = .returned (.tuple #[.string (rdr bs i), .int .i64 (cerr bs.length i)]) ∧ Below w.heap.size w w' := by
  obtain ⟨a, cap, rfl⟩ := row_form1 h
  obtain ⟨n, hn⟩ : ∃ n, bs.length = n := ⟨_, rfl⟩
  have H := Lib.hid h
  rw [hn] at H ⊢
  obtain ⟨W1, hW1⟩ : ∃ W1, w.alloc (.cells #[.bool false, .slice a n cap, vF, vA, vP, .int .i64 left] 31) = W1 := ⟨_, rfl⟩
  have r1 : Row W1 w.heap.size 31 (rcs false (.slice a n cap) vF vA vP left) := by rw [← hW1]; exact Row.new _ _ _
  have b1 : Below w.heap.size w W1 := by rw [← hW1]; exact below_al _ _
  have g0 := r1.cell (i := 0) rfl; have g1 := r1.cell (i := 1) rfl
  have B1 := Lib.hid b1; have HN := Lib.hid hn
  clear h r1 b1 hn
  by_cases h0 : i < 0
  · have d0 : decide (i < 0) = true := by simpa using h0
    have V : Hid (rdr bs i = ByteArray.empty) := if_pos (Or.inl h0)
    have E : Hid (cerr n i = 2) := if_pos (Or.inl h0)
    rw [V.out, E.out]
    clear h0
    go_enter Try.func14, Try.ntmps14
    go_wp2_with fail
    go_ret2
    exact ⟨rfl, B1.out⟩
  have d0 : decide (i < 0) = false := by simpa using h0
  by_cases h1 : (n : Int) ≤ i
  · have d1 : decide ((n : Int) ≤ i) = true := by simpa using h1
    have V : Hid (rdr bs i = ByteArray.empty) := if_pos (Or.inr (by rw [HN.out]; exact h1))
    have E : Hid (cerr n i = 2) := if_pos (Or.inr h1)
    rw [V.out, E.out]
    clear h0 h1
    go_enter Try.func14, Try.ntmps14
    go_wp2_with fail
    go_ret2
    exact ⟨rfl, B1.out⟩
  have d1 : decide ((n : Int) ≤ i) = false := by simpa using h1
  have E : Hid (cerr n i = 0) := if_neg (by omega)
  have V : Hid (rdr bs i = bs.getD i.toNat ByteArray.empty) := if_neg (by rw [HN.out]; omega)
  obtain ⟨q, rfl⟩ : ∃ q : Nat, i = (q : Int) := ⟨i.toNat, by omega⟩
  have q0 : (0 : Int) ≤ (q : Int) := by omega
  have ql : (q : Int) < (n : Int) := by omega
  obtain ⟨g, hg, _, hc⟩ := own_at1 (own_below H.out B1.out) (sts_at (l := bs) (j := q) (by rw [HN.out]; omega))
  subst hg
  rw [V.out, E.out, Int.toNat_natCast]
  obtain ⟨x, hx⟩ : ∃ x, bs.getD q ByteArray.empty = x := ⟨_, rfl⟩
  rw [hx] at hc ⊢
  clear h0 h1 hx
  go_enter Try.func14, Try.ntmps14
  go_wp2_with fail
  go_ret2
  exact ⟨rfl, B1.out⟩
theorem readr_nil (w : World) (vB vF vA vP : Value) (left i : Int) :
    Calls Try.prog 14 #[rv true vB vF vA vP left, .int .i64 i] w fun e w' => e = .returned (.tuple #[.string ByteArray.empty, .int .i64 1]) ∧ Below w.heap.size w w' := by
  obtain ⟨W1, hW1⟩ : ∃ W1, w.alloc (.cells #[.bool true, vB, vF, vA, vP, .int .i64 left] 31) = W1 := ⟨_, rfl⟩
  have r1 : Row W1 w.heap.size 31 (rcs true vB vF vA vP left) := by rw [← hW1]; exact Row.new _ _ _
  have b1 : Below w.heap.size w W1 := by rw [← hW1]; exact below_al _ _
  have g0 := r1.cell (i := 0) rfl
  have B1 := Lib.hid b1
  clear r1 b1
  go_enter Try.func14, Try.ntmps14
  go_wp2_with fail
  go_ret2
  exact ⟨rfl, B1.out⟩
theorem writesr_any {w : World} {nil : Bool} {vB vF vP : Value} {a : Option Addr} {n cap : Nat} {left : Int} :
    Calls Try.prog 23 #[rv nil vB vF (.slice a n cap) vP left] w fun e w' => e = .returned (.int .i64 (n : Int)) ∧ Below w.heap.size w w' := by
  obtain ⟨W1, hW1⟩ : ∃ W1, w.alloc (.cells #[.bool nil, vB, vF, .slice a n cap, vP, .int .i64 left] 31) = W1 := ⟨_, rfl⟩
  have r1 : Row W1 w.heap.size 31 (rcs nil vB vF (.slice a n cap) vP left) := by rw [← hW1]; exact Row.new _ _ _
  have b1 : Below w.heap.size w W1 := by rw [← hW1]; exact below_al _ _
  have g3 := r1.cell (i := 3) rfl
  have B1 := Lib.hid b1
  clear r1 b1
  go_enter Try.func23, Try.ntmps23
  go_wp2_with fail
  go_ret
  exact ⟨rfl, B1.out⟩
end Go.Proofs.Ytgadplgjpemdaaa
