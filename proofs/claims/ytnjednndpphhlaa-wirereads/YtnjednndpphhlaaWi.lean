/- Count and Text. -/
import Derived.Test.YtnjednndpphhlaaWh
namespace Go.Proofs.Ytnjednndpphhlaa
open Go.ChangeShapes Go.WideShapes Go.ChangeAt Go.RowKit Go.Maps Go.WideMaps

theorem cnt_used {s : ByteArray} {n k : Nat} {c most : Int} (hp : Parse s n k c) : cntK n k c most ≤ s.size := by
  unfold cntK; split
  · exact hp.used.1
  · exact Nat.zero_le _
set_option maxRecDepth 100000 in
theorem clo_count {w : World} {mb nb : Nat} {s : ByteArray} {n k : Nat} {c most : Int} {v : Value} (hs : s.size ≤ 1000000) (hp : Parse s n k c) (h0 : -9223372036854775808 ≤ most) (h1 : most ≤ 9223372036854775807) (hm : Num1 w mb 3 (.int .i64 most)) (h : Num1 w nb 3 v) :
    Calls Try.prog 34 #[.string s, .pointer (some ⟨mb, 0, none⟩), .pointer (some ⟨nb, 0, none⟩)] w fun en w' => en = .returned (.tuple #[.int .i64 (cntK n k c most), .int .i64 (cntE n c most)]) ∧ After nb w w' ∧ Num1 w' nb 3 (.int .i64 (cntN n c most)) := by
  have c0 := h.cell
  have f0 := h.fr
  have m0 := hm.cell
  have H := Lib.hid h; have CO := Lib.hid (pcount_any (w := w) (most := most) hs hp h0 h1)
  clear h hp hs hm h0 h1
  go_enter Try.func34, Try.ntmps34
  go_wp2_with fail
  refine CO.out.mono ?_; rintro e w1 ⟨rfl, rfl⟩
  go_wp2
  go_ret2
  exact ⟨rfl, After.set _ _ _ _, H.out.set⟩
set_option maxRecDepth 100000 in
theorem count_any {w : World} {rb : Nat} {s : ByteArray} {n k : Nat} {c most : Int} (hs : s.size ≤ 1000000) (hp : Parse s n k c) (h0 : -9223372036854775808 ≤ most) (h1 : most ≤ 9223372036854775807) (h : RdAt w rb s 0) :
    Calls Try.prog 21 #[.pointer (some ⟨rb, 0, none⟩), .int .i64 most] w fun en w' => en = .returned (.int .i64 (cntN n c most)) ∧ RdAt w' rb (rest s (cntK n k c most) (cntE n c most)) (cntE n c most) ∧ Below rb w w' ∧ ∀ j, j < w.heap.size → j ≠ rb → w'.heap[j]? = w.heap[j]? := by
  have hrb := h.lt
  obtain ⟨W1, hW1⟩ : ∃ W1, w.alloc (Obj.cells #[Value.int IntKind.i64 most] 3) = W1 := ⟨_, rfl⟩
  have b1 := below_alloc w (Obj.cells #[Value.int IntKind.i64 most] 3)
  have n1 := Num1.new w 3 (Value.int IntKind.i64 most)
  have z1 : W1.heap.size = w.heap.size + 1 := by rw [← hW1, World.size_alloc]
  rw [hW1] at b1 n1
  obtain ⟨W2, hW2⟩ : ∃ W2, W1.alloc (Obj.cells #[Value.int IntKind.i64 0] 3) = W2 := ⟨_, rfl⟩
  have b2 := below_alloc W1 (Obj.cells #[Value.int IntKind.i64 0] 3)
  have n2 := Num1.new W1 3 (Value.int IntKind.i64 0)
  have z2 : W2.heap.size = w.heap.size + 1 + 1 := by rw [← hW2, World.size_alloc, z1]
  rw [hW2, z1] at b2; rw [hW2, z1] at n2
  have m1 := n1.below b2 (by omega)
  have CO := Lib.hid (rd_34 (w := W2) (p1 := .pointer (some ⟨w.heap.size, 0, none⟩)) (p2 := .pointer (some ⟨w.heap.size + 1, 0, none⟩)) (v' := .int .i64 (cntN n c most)) (t := 3) (k := cntK n k c most) (c := cntE n c most) ((h.below b1 hrb).below b2 (by omega)) (nb := w.heap.size + 1) (by omega) (by omega) (fun _ => cnt_used hp)
    (fun W hW => clo_count hs hp h0 h1 (m1.below hW (by omega)) (n2.below hW (by omega))))
  have B0 := Lib.hid (b1.trans (b2.mono (by omega)))
  have B1 := Lib.hid ((b1.trans (b2.mono (by omega))).mono (Nat.le_of_lt hrb))
  clear h b1 n1 hp hs h0 h1 b2 n2 m1
  go_enter Try.func21, Try.ntmps21
  go_wp2_with fail
  refine CO.out.mono ?_; rintro e w1 ⟨rfl, r2, n2, b2, k2⟩
  have c := n2.cell
  have R2 := Lib.hid r2; have B2 := Lib.hid (b2 rb (Nat.le_refl _) (by omega))
  have K2 : Hid (∀ j, j < w.heap.size → j ≠ rb → w1.heap[j]? = w.heap[j]?) := fun j h1 h2 => by
    rw [k2 j (by omega) h2 (by omega), B0.out.block j h1]
  clear r2 n2 b2 k2
  go_wp2
  go_ret
  exact ⟨rfl, R2.out, B1.out.trans B2.out, K2.out⟩
/- a string: what is read, its length, its error -/
def Fits (s : ByteArray) (n k : Nat) (c : Int) : Prop := c = 0 ∧ k + n ≤ s.size
instance (s : ByteArray) (n k : Nat) (c : Int) : Decidable (Fits s n k c) := by unfold Fits; exact inferInstance
def txtS (s : ByteArray) (n k : Nat) (c : Int) : ByteArray := if Fits s n k c then s.extract k (k + n) else ⟨#[]⟩
def txtK (s : ByteArray) (n k : Nat) (c : Int) : Nat := if Fits s n k c then k + n else 0
def txtE (s : ByteArray) (n k : Nat) (c : Int) : Int := if Fits s n k c then 0 else if c = 0 then 3 else c
set_option maxRecDepth 100000 in
theorem clo_text {w : World} {mb nb : Nat} {s : ByteArray} {n k n' k' : Nat} {c c' most : Int} (hs : s.size ≤ 1000000) (hp : Parse s n' k' c') (h0 : -9223372036854775808 ≤ most) (h1 : most ≤ 9223372036854775807) (hN : cntN n' c' most = n) (hK : cntK n' k' c' most = k) (hE : cntE n' c' most = c) (hm : Num1 w mb 3 (.int .i64 most)) (h : Num1 w nb 9 (.string ⟨#[]⟩)) :
    Calls Try.prog 36 #[.string s, .pointer (some ⟨mb, 0, none⟩), .pointer (some ⟨nb, 0, none⟩)] w fun en w' => en = .returned (.tuple #[.int .i64 (txtK s n k c), .int .i64 (txtE s n k c)]) ∧ After nb w w' ∧ Num1 w' nb 9 (.string (txtS s n k c)) := by
  have c0 := h.cell
  have f0 := h.fr
  have m0 := hm.cell
  have CO := pcount_any (w := w) (most := most) hs hp h0 h1
  have hku : k ≤ s.size := by rw [← hK]; exact cnt_used hp
  have hnu : c = 0 → (n : Int) ≤ 9223372036854775807 := fun hc => by
    rw [← hE] at hc; rw [← hN]; unfold cntN; unfold cntE at hc
    split at hc
    · split at hc
      · rename_i a b; rw [if_pos ⟨a, b⟩]; omega
      · cases hc
    · rename_i a; exact absurd hc a
  rw [hN, hK, hE] at CO
  have H := Lib.hid h; have COO := Lib.hid CO
  obtain ⟨L, hL⟩ : ∃ L, s.size = L := ⟨_, rfl⟩
  have HL := Lib.hid hL
  have hL2 : L ≤ 1000000 := by omega
  rw [hL] at hku
  clear h hp hs hm h0 h1 hN hK hE CO
  by_cases hc : c = 0
  · subst hc
    have hn2 := hnu rfl
    clear hnu
    have ws : IntKind.i64.wrap ((L : Int) - (k : Int)) = (L : Int) - k := by rw [IntKind.wrap_i64]; omega
    by_cases hf : k + n ≤ L
    · have F : Fits s n k 0 := ⟨rfl, by rw [HL.out]; exact hf⟩
      have e1 : txtS s n k 0 = s.extract k (k + n) := by rw [txtS, if_pos F]
      have e2 : txtK s n k 0 = k + n := by rw [txtK, if_pos F]
      have e3 : txtE s n k 0 = 0 := by rw [txtE, if_pos F]
      have E1 := Lib.hid e1; have E2 := Lib.hid e2; have E3 := Lib.hid e3
      have g1 : (n : Int) ≤ (L : Int) - k := by omega
      obtain ⟨K2, hK2⟩ : ∃ K2, k + n = K2 := ⟨_, rfl⟩
      rw [hK2] at E1 E2
      have g2 : (k : Int) + (n : Int) = (K2 : Int) := by omega
      have g5 : IntKind.i64.wrap (K2 : Int) = K2 := by rw [IntKind.wrap_i64]; omega
      have g3 : (k : Int) ≤ (K2 : Int) := by omega
      have g4 : (K2 : Int) ≤ L := by omega
      clear e1 e2 e3 F hK2 hf
      go_enter Try.func36, Try.ntmps36
      go_wp2_with fail
      refine COO.out.mono ?_; rintro e w1 ⟨rfl, rfl⟩
      go_wp2_with fail
      go_ret2
      refine ⟨by rw [E2.out, E3.out]; rfl, After.set _ _ _ _, ?_⟩
      rw [E1.out]; exact H.out.set
    · have F : ¬ Fits s n k 0 := fun h => hf (by have := h.2; rw [HL.out] at this; exact this)
      have e1 : txtS s n k 0 = ⟨#[]⟩ := by rw [txtS, if_neg F]
      have e2 : txtK s n k 0 = 0 := by rw [txtK, if_neg F]
      have e3 : txtE s n k 0 = 3 := by rw [txtE, if_neg F, if_pos rfl]
      have E1 := Lib.hid e1; have E2 := Lib.hid e2; have E3 := Lib.hid e3
      have g1 : (L : Int) - k < (n : Int) := by omega
      clear e1 e2 e3 F
      go_enter Try.func36, Try.ntmps36
      go_wp2_with fail
      refine COO.out.mono ?_; rintro e w1 ⟨rfl, rfl⟩
      go_wp2_with fail
      go_ret2
      refine ⟨by rw [E2.out, E3.out]; rfl, After.refl _ _, ?_⟩
      rw [E1.out]; exact H.out
  · have F : ¬ Fits s n k c := fun h => hc h.1
    have e1 : txtS s n k c = ⟨#[]⟩ := by rw [txtS, if_neg F]
    have e2 : txtK s n k c = 0 := by rw [txtK, if_neg F]
    have e3 : txtE s n k c = c := by rw [txtE, if_neg F, if_neg hc]
    have E1 := Lib.hid e1; have E2 := Lib.hid e2; have E3 := Lib.hid e3
    have hb : (c != 0) = true := by simpa using hc
    clear e1 e2 e3 F hnu hc
    go_enter Try.func36, Try.ntmps36
    go_wp2_with fail
    refine COO.out.mono ?_; rintro e w1 ⟨rfl, rfl⟩
    go_wp2_with fail
    go_ret2
    refine ⟨by rw [E2.out, E3.out]; rfl, After.refl _ _, ?_⟩
    rw [E1.out]; exact H.out
theorem txt_used {s : ByteArray} {n k : Nat} {c : Int} (_ : txtE s n k c = 0) : txtK s n k c ≤ s.size := by
  unfold txtK; split
  · rename_i h; exact h.2
  · exact Nat.zero_le _
set_option maxRecDepth 100000 in
theorem text_any {w : World} {rb : Nat} {s : ByteArray} {n k n' k' : Nat} {c c' most : Int} (hs : s.size ≤ 1000000) (hp : Parse s n' k' c') (h0 : -9223372036854775808 ≤ most) (h1 : most ≤ 9223372036854775807) (hN : cntN n' c' most = n) (hK : cntK n' k' c' most = k) (hE : cntE n' c' most = c) (h : RdAt w rb s 0) :
    Calls Try.prog 23 #[.pointer (some ⟨rb, 0, none⟩), .int .i64 most] w fun en w' => en = .returned (.string (txtS s n k c)) ∧ RdAt w' rb (rest s (txtK s n k c) (txtE s n k c)) (txtE s n k c) ∧ Below rb w w' ∧ ∀ j, j < w.heap.size → j ≠ rb → w'.heap[j]? = w.heap[j]? := by
  have hrb := h.lt
  obtain ⟨W1, hW1⟩ : ∃ W1, w.alloc (Obj.cells #[Value.int IntKind.i64 most] 3) = W1 := ⟨_, rfl⟩
  have b1 := below_alloc w (Obj.cells #[Value.int IntKind.i64 most] 3)
  have n1 := Num1.new w 3 (Value.int IntKind.i64 most)
  have z1 : W1.heap.size = w.heap.size + 1 := by rw [← hW1, World.size_alloc]
  rw [hW1] at b1 n1
  obtain ⟨W2, hW2⟩ : ∃ W2, W1.alloc (Obj.cells #[Value.string ⟨#[]⟩] 9) = W2 := ⟨_, rfl⟩
  have b2 := below_alloc W1 (Obj.cells #[Value.string ⟨#[]⟩] 9)
  have n2 := Num1.new W1 9 (Value.string ⟨#[]⟩)
  have z2 : W2.heap.size = w.heap.size + 1 + 1 := by rw [← hW2, World.size_alloc, z1]
  rw [hW2, z1] at b2; rw [hW2, z1] at n2
  have m1 := n1.below b2 (by omega)
  have CO := Lib.hid (rd_36 (w := W2) (p1 := .pointer (some ⟨w.heap.size, 0, none⟩)) (p2 := .pointer (some ⟨w.heap.size + 1, 0, none⟩)) (v' := .string (txtS s n k c)) (t := 9) (k := txtK s n k c) (c := txtE s n k c) ((h.below b1 hrb).below b2 (by omega)) (nb := w.heap.size + 1) (by omega) (by omega) txt_used
    (fun W hW => clo_text hs hp h0 h1 hN hK hE (m1.below hW (by omega)) (n2.below hW (by omega))))
  have B0 := Lib.hid (b1.trans (b2.mono (by omega)))
  have B1 := Lib.hid ((b1.trans (b2.mono (by omega))).mono (Nat.le_of_lt hrb))
  clear h b1 n1 hp hs h0 h1 b2 n2 m1 hN hK hE
  go_enter Try.func23, Try.ntmps23
  go_wp2_with fail
  refine CO.out.mono ?_; rintro e w1 ⟨rfl, r2, n2, b2, k2⟩
  have c := n2.cell
  have R2 := Lib.hid r2; have B2 := Lib.hid (b2 rb (Nat.le_refl _) (by omega))
  have K2 : Hid (∀ j, j < w.heap.size → j ≠ rb → w1.heap[j]? = w.heap[j]?) := fun j h1 h2 => by
    rw [k2 j (by omega) h2 (by omega), B0.out.block j h1]
  clear r2 n2 b2 k2
  go_wp2
  go_ret
  exact ⟨rfl, R2.out, B1.out.trans B2.out, K2.out⟩
end Go.Proofs.Ytnjednndpphhlaa
