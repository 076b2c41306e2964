/- A reader with an error reads nothing; the reference's reader. -/
import Derived.Test.YtnjednndpphhlaaWo
namespace Go.Proofs.Ytnjednndpphhlaa
open Go.ChangeShapes Go.WideShapes Go.ChangeAt Go.RowKit Go.Maps Go.WideMaps

theorem count_err {w : World} {rb : Nat} {s : ByteArray} {e most : Int} (he : e ≠ 0) (h : RdAt w rb s e) :
    Calls Try.prog 21 #[.pointer (some ⟨rb, 0, none⟩), .int .i64 most] w fun en w' => en = .returned (.int .i64 0) ∧ RdAt w' rb s e ∧ Below w.heap.size w w' := by
  have hrb := h.lt
  obtain ⟨W1, hW1⟩ : ∃ W1, w.alloc (Obj.cells #[Value.int IntKind.i64 most] 3) = W1 := ⟨_, rfl⟩
  have b1 := below_alloc w (Obj.cells #[Value.int IntKind.i64 most] 3)
  have z1 : W1.heap.size = w.heap.size + 1 := by rw [← hW1, World.size_alloc]
  rw [hW1] at b1
  obtain ⟨W2, hW2⟩ : ∃ W2, W1.alloc (Obj.cells #[Value.int IntKind.i64 0] 3) = W2 := ⟨_, rfl⟩
  have b2 := below_alloc W1 (Obj.cells #[Value.int IntKind.i64 0] 3)
  have n2 := Num1.new W1 3 (Value.int IntKind.i64 0)
  have z2 : W2.heap.size = w.heap.size + 1 + 1 := by rw [← hW2, World.size_alloc, z1]
  rw [hW2, z1] at b2; rw [hW2, z1] at n2
  have H2 := Lib.hid ((h.below b1 hrb).below b2 (by omega))
  have B0 := Lib.hid (b1.trans (b2.mono (by omega)))
  have N2 := Lib.hid n2; have HE := Lib.hid he; have Z2 := Lib.hid z2
  clear h b1 b2 n2 he z2
  go_enter Try.func21, Try.ntmps21
  go_wp2_with fail
  refine (rd_err _ H2.out HE.out).mono ?_; rintro e w1 ⟨rfl, b3⟩
  have c := (N2.out.below b3 N2.out.lt).cell
  have R2 := Lib.hid (H2.out.below b3 H2.out.lt); have B2 := Lib.hid (B0.out.trans (b3.mono (by have := Z2.out; omega)))
  clear b3
  go_wp2
  go_ret
  exact ⟨rfl, R2.out, B2.out⟩
theorem text_err {w : World} {rb : Nat} {s : ByteArray} {e most : Int} (he : e ≠ 0) (h : RdAt w rb s e) :
    Calls Try.prog 23 #[.pointer (some ⟨rb, 0, none⟩), .int .i64 most] w fun en w' => en = .returned (.string ⟨#[]⟩) ∧ RdAt w' rb s e ∧ Below w.heap.size w w' := by
  have hrb := h.lt
  obtain ⟨W1, hW1⟩ : ∃ W1, w.alloc (Obj.cells #[Value.int IntKind.i64 most] 3) = W1 := ⟨_, rfl⟩
  have b1 := below_alloc w (Obj.cells #[Value.int IntKind.i64 most] 3)
  have z1 : W1.heap.size = w.heap.size + 1 := by rw [← hW1, World.size_alloc]
  rw [hW1] at b1
  obtain ⟨W2, hW2⟩ : ∃ W2, W1.alloc (Obj.cells #[Value.string ⟨#[]⟩] 9) = W2 := ⟨_, rfl⟩
  have b2 := below_alloc W1 (Obj.cells #[Value.string ⟨#[]⟩] 9)
  have n2 := Num1.new W1 9 (Value.string ⟨#[]⟩)
  have z2 : W2.heap.size = w.heap.size + 1 + 1 := by rw [← hW2, World.size_alloc, z1]
  rw [hW2, z1] at b2; rw [hW2, z1] at n2
  have H2 := Lib.hid ((h.below b1 hrb).below b2 (by omega))
  have B0 := Lib.hid (b1.trans (b2.mono (by omega)))
  have N2 := Lib.hid n2; have HE := Lib.hid he; have Z2 := Lib.hid z2
  clear h b1 b2 n2 he z2
  go_enter Try.func23, Try.ntmps23
  go_wp2_with fail
  refine (rd_err _ H2.out HE.out).mono ?_; rintro e w1 ⟨rfl, b3⟩
  have c := (N2.out.below b3 N2.out.lt).cell
  have R2 := Lib.hid (H2.out.below b3 H2.out.lt); have B2 := Lib.hid (B0.out.trans (b3.mono (by have := Z2.out; omega)))
  clear b3
  go_wp2
  go_ret
  exact ⟨rfl, R2.out, B2.out⟩
def dE (e : Int) (n : Nat) : Int := if e = 0 ∧ 0 < n then 5 else e
def X3 (w : World) (b : Nat) (S : ByteArray) (t e : Int) : Prop := w.heap[b]? = some (.cells #[.string S, .int .i64 t, .int .i64 e] 32)
theorem X3.c0 {w : World} {b : Nat} {S : ByteArray} {t e : Int} (h : X3 w b S t e) : w.cell? ⟨b, 0, none⟩ = some (.string S) := by unfold X3 at h; simp [World.cell?, h]
theorem X3.c1 {w : World} {b : Nat} {S : ByteArray} {t e : Int} (h : X3 w b S t e) : w.cell? ⟨b, 1, none⟩ = some (.int .i64 t) := by unfold X3 at h; simp [World.cell?, h]
theorem X3.c2 {w : World} {b : Nat} {S : ByteArray} {t e : Int} (h : X3 w b S t e) : w.cell? ⟨b, 2, none⟩ = some (.int .i64 e) := by unfold X3 at h; simp [World.cell?, h]
theorem X3.fr {w : World} {b i : Nat} {S : ByteArray} {t e : Int} (h : X3 w b S t e) : w.frozen? ⟨b, i, none⟩ = false := by unfold X3 at h; simp [World.frozen?, h]
theorem X3.below {w w' : World} {b B : Nat} {S : ByteArray} {t e : Int} (h : X3 w b S t e) (hb : Below B w w') (hn : b < B) : X3 w' b S t e := by
  unfold X3; rw [hb.block _ hn]; exact h
theorem X3.lt {w : World} {b : Nat} {S : ByteArray} {t e : Int} (h : X3 w b S t e) : b < w.heap.size := by
  unfold X3 at h
  by_cases c : b < w.heap.size
  · exact c
  · rw [Array.getElem?_eq_none (by omega)] at h; cases h
theorem X3.new (w : World) (S : ByteArray) (t e : Int) : X3 (w.alloc (.cells #[.string S, .int .i64 t, .int .i64 e] 32)) w.heap.size S t e := by
  show (w.heap.push _)[w.heap.size]? = _
  rw [Array.getElem?_push, if_pos rfl]
theorem X3.set {w : World} {b : Nat} {S S' : ByteArray} {t e t' e' : Int} (h : X3 w b S t e) : X3 (((w.setCell ⟨b, 0, none⟩ (.string S')).setCell ⟨b, 1, none⟩ (.int .i64 t')).setCell ⟨b, 2, none⟩ (.int .i64 e')) b S' t' e' := by
  have h0 : X3 (w.setCell ⟨b, 0, none⟩ (.string S')) b S' t e := by
    unfold X3 at h ⊢; rw [heap_setCell_same _ _ _ _ _ _ h]; rfl
  have h1 : X3 ((w.setCell ⟨b, 0, none⟩ (.string S')).setCell ⟨b, 1, none⟩ (.int .i64 t')) b S' t' e := by
    unfold X3 at h0 ⊢; rw [heap_setCell_same _ _ _ _ _ _ h0]; rfl
  unfold X3 at h1 ⊢; rw [heap_setCell_same _ _ _ _ _ _ h1]; rfl
theorem X3.other {w : World} {b : Nat} {S : ByteArray} {t e : Int} {u : Value} {a : Addr} (h : X3 w b S t e) (hn : b ≠ a.block) : X3 (w.setCell a u) b S t e := by
  unfold X3; rw [Below.heap_setCell _ _ _ _ hn]; exact h
theorem done_any {w : World} {rb : Nat} {s : ByteArray} {e : Int} (h : RdAt w rb s e) : Calls Try.prog 28 #[.pointer (some ⟨rb, 0, none⟩)] w fun en w' => en = .returned (.int .i64 (dE e s.size)) ∧ w = w' := by
  have HH := Lib.hid h; clear h
  obtain ⟨L, hL⟩ : ∃ L, s.size = L := ⟨_, rfl⟩
  have HL := Lib.hid hL
  by_cases he : e = 0
  · subst he
    go_enter Try.func28, Try.ntmps28
    go_wp2_with fail
    refine (err_any HH.out).mono ?_; rintro e w' ⟨rfl, rfl⟩
    go_wp2_with fail
    refine (left_any HH.out).mono ?_; rintro e w' ⟨rfl, rfl⟩
    rw [HL.out]
    by_cases h0 : 0 < L
    · have h0' : (0 : Int) < (L : Int) := by omega
      have D : dE 0 L = 5 := by unfold dE; rw [if_pos ⟨rfl, h0⟩]
      go_wp2_with fail
      go_ret
      exact ⟨by rw [HL.out, D]; rfl, rfl⟩
    · obtain rfl : L = 0 := by omega
      have D : dE 0 0 = 0 := rfl
      go_wp2_with fail
      go_ret
      exact ⟨by rw [HL.out, D]; rfl, rfl⟩
  · have he' : (e == 0) = false := by simpa using he
    go_enter Try.func28, Try.ntmps28
    go_wp2_with fail
    refine (err_any HH.out).mono ?_; rintro e w' ⟨rfl, rfl⟩
    have D : dE e s.size = e := by unfold dE; rw [if_neg (fun h => he h.1)]
    go_wp2_with fail
    go_ret
    exact ⟨by rw [D]; rfl, rfl⟩
abbrev rv (S : ByteArray) (t : Int) (e : Int) : Value := .agg #[.string S, .int .i64 t, .int .i64 e]
abbrev T (S : ByteArray) (t : Nat) : ByteArray := S.extract t S.size
theorem t_size {S : ByteArray} {t : Nat} (h : t ≤ S.size) : (T S t).size = S.size - t := by
  rw [ByteArray.size_extract]; omega
theorem rread_any (S : ByteArray) (w : World) : Calls Try.prog 15 #[.string S] w fun en w' => en = .returned (rv S 0 0) ∧ Below w.heap.size w w' := by
  go_enter Try.func15, Try.ntmps15
  go_wp2
  refine bodyPost_ret (by simp [results, Try.results15, go_sem] <;> rfl) rfl ?_
  exact ⟨rfl, by (repeat (first | exact Below.refl _ _ | (refine Below.setCell ?_ (by simp) _) | (refine Below.alloc ?_ (by first | omega | (simp <;> omega)) _)))⟩
theorem rerr_any (S : ByteArray) (t e : Int) (w : World) : Calls Try.prog 27 #[rv S t e] w fun en w' => en = .returned (.int .i64 e) ∧ Below w.heap.size w w' := by
  go_enter Try.func27, Try.ntmps27
  go_wp2
  go_ret
  exact ⟨rfl, below_alloc _ _⟩
theorem rleft_any (S : ByteArray) (t : Nat) (e : Int) (w : World) (ht : t ≤ S.size) (hs : S.size ≤ 2000) : Calls Try.prog 25 #[rv S t e] w fun en w' => en = .returned (.int .i64 (T S t).size) ∧ Below w.heap.size w w' := by
  rw [t_size ht]
  obtain ⟨L, hL⟩ : ∃ L, S.size = L := ⟨_, rfl⟩
  rw [hL] at ht hs ⊢
  have hw : IntKind.i64.wrap ((L : Int) - (t : Int)) = ((L - t : Nat) : Int) := by rw [IntKind.wrap_i64]; omega
  go_enter Try.func25, Try.ntmps25
  go_wp2
  go_ret
  exact ⟨rfl, below_alloc _ _⟩
theorem rdone_any (S : ByteArray) (t : Nat) (e : Int) (w : World) (ht : t ≤ S.size) (hs : S.size ≤ 2000) : Calls Try.prog 29 #[rv S t e] w fun en w' => en = .returned (.int .i64 (dE e (T S t).size)) ∧ Below w.heap.size w w' := by
  have C := Lib.hid (fun W => rleft_any S t e W ht hs)
  obtain ⟨L, hL⟩ : ∃ L, (T S t).size = L := ⟨_, rfl⟩
  rw [hL] at C ⊢
  have B1 := Lib.hid (below_alloc w (Obj.cells #[.string S, .int .i64 t, .int .i64 e] 32))
  have X1 := X3.new w S t e
  obtain ⟨W1, hW1⟩ : ∃ W1, w.alloc (Obj.cells #[.string S, .int .i64 t, .int .i64 e] 32) = W1 := ⟨_, rfl⟩
  rw [hW1] at B1 X1
  have c0 := X1.c0; have c1 := X1.c1; have c2 := X1.c2
  have XX := Lib.hid X1
  clear hL ht hs X1
  by_cases he : e = 0
  · subst he
    go_enter Try.func29, Try.ntmps29
    go_wp2_with fail
    refine (C.out _).mono ?_; rintro e w2 ⟨rfl, b2⟩
    have d2 := (XX.out.below b2 XX.out.lt).c2
    have B2 := Lib.hid (B1.out.trans (b2.mono B1.out.size))
    clear b2
    by_cases h0 : 0 < L
    · have h0' : (0 : Int) < (L : Int) := by omega
      have D : dE 0 L = 5 := by unfold dE; rw [if_pos ⟨rfl, h0⟩]
      go_wp2_with fail
      go_ret
      exact ⟨by rw [D]; rfl, B2.out⟩
    · obtain rfl : L = 0 := by omega
      have D : dE 0 0 = 0 := rfl
      go_wp2_with fail
      go_ret
      exact ⟨by rw [D]; rfl, B2.out⟩
  · have he' : (e == 0) = false := by simpa using he
    have D : dE e L = e := by unfold dE; rw [if_neg (fun h => he h.1)]
    go_enter Try.func29, Try.ntmps29
    go_wp2_with fail
    go_ret
    exact ⟨by rw [D]; rfl, B1.out⟩
end Go.Proofs.Ytnjednndpphhlaa
