/- Readers: the example of the chapter. -/
import Derived.Test.YtnjednndpphhlaaWb
import Derived.Defers
import Derived.OneCell
import Derived.Laws.Rows
namespace Go.Proofs.Ytnjednndpphhlaa
open Go.ChangeShapes Go.WideShapes Go.ChangeAt Go.RowKit Go.Maps Go.WideMaps

def s80 : ByteArray := ⟨#[128]⟩
theorem s80_size : s80.size = 1 := rfl
/- a reader -/
def RdAt (w : World) (rb : Nat) (s : ByteArray) (e : Int) : Prop := w.heap[rb]? = some (.cells #[.string s, .int .i64 e] 59)
theorem RdAt.c0 {w : World} {rb : Nat} {s : ByteArray} {e : Int} (h : RdAt w rb s e) : w.cell? ⟨rb, 0, none⟩ = some (.string s) := by unfold RdAt at h; simp [World.cell?, h]
theorem RdAt.c1 {w : World} {rb : Nat} {s : ByteArray} {e : Int} (h : RdAt w rb s e) : w.cell? ⟨rb, 1, none⟩ = some (.int .i64 e) := by unfold RdAt at h; simp [World.cell?, h]
theorem read_any (s : ByteArray) (w : World) : Calls Try.prog 14 #[.string s] w fun e w' => e = .returned (.pointer (some ⟨w.heap.size, 0, none⟩)) ∧ RdAt w' w.heap.size s 0 ∧ Below w.heap.size w w' := by
  go_enter Try.func14, Try.ntmps14
  go_wp2
  go_ret
  refine ⟨rfl, ?_, (Below.refl _ _).alloc (Nat.le_refl _) _⟩
  show (w.heap.push _)[w.heap.size]? = _
  rw [Array.getElem?_push, if_pos rfl]
theorem left_any {w : World} {rb : Nat} {s : ByteArray} {e : Int} (h : RdAt w rb s e) : Calls Try.prog 24 #[.pointer (some ⟨rb, 0, none⟩)] w fun en w' => en = .returned (.int .i64 s.size) ∧ w = w' := by
  have c0 := h.c0
  clear h
  go_enter Try.func24, Try.ntmps24
  go_wp2
  go_ret
  exact ⟨rfl, rfl⟩
theorem err_any {w : World} {rb : Nat} {s : ByteArray} {e : Int} (h : RdAt w rb s e) : Calls Try.prog 26 #[.pointer (some ⟨rb, 0, none⟩)] w fun en w' => en = .returned (.int .i64 e) ∧ w = w' := by
  have c1 := h.c1
  clear h
  go_enter Try.func26, Try.ntmps26
  go_wp2
  go_ret
  exact ⟨rfl, rfl⟩
theorem err_nil (w : World) : Calls Try.prog 26 #[.pointer none] w fun en w' => en = .returned (.int .i64 1) ∧ w = w' := by
  go_enter Try.func26, Try.ntmps26
  go_wp2
  go_ret
  exact ⟨rfl, rfl⟩
theorem done_nil (w : World) : Calls Try.prog 28 #[.pointer none] w fun en w' => en = .returned (.int .i64 1) ∧ w = w' := by
  go_enter Try.func28, Try.ntmps28
  go_wp2_with fail
  refine (err_nil _).mono ?_; rintro e w' ⟨rfl, rfl⟩
  go_wp2
  go_ret
  exact ⟨rfl, rfl⟩
/- a nil reader reads nothing -/
theorem rd_nil (v : Value) (w : World) : Calls Try.prog 31 #[.pointer none, v] w fun en w' => en = .returned (.tuple #[]) ∧ Below w.heap.size w w' := by
  go_enter Try.func31, Try.ntmps31
  go_wp2
  refine bodyPost_ret (results_none rfl _ _ _) rfl ?_
  exact ⟨rfl, (Below.refl _ _).alloc (Nat.le_refl _) _⟩
theorem uint_nil (w : World) : Calls Try.prog 17 #[.pointer none] w fun en w' => en = .returned (.int .u64 0) ∧ Below w.heap.size w w' := by
  go_enter Try.func17, Try.ntmps17
  go_wp2_with fail
  refine (rd_nil _ _).mono ?_; rintro e w1 ⟨rfl, b1⟩
  have c : w1.cell? ⟨w.heap.size, 0, none⟩ = some (.int .u64 0) := by
    rw [b1.cell (by simp [World.size_alloc])]; simp
  have B1 := Lib.hid b1
  clear b1
  go_wp2
  go_ret
  exact ⟨rfl, ((Below.refl w.heap.size w).alloc (Nat.le_refl _) _).trans (B1.out.mono (by simp [World.size_alloc]))⟩
theorem int_nil (w : World) : Calls Try.prog 19 #[.pointer none] w fun en w' => en = .returned (.int .i64 0) ∧ Below w.heap.size w w' := by
  go_enter Try.func19, Try.ntmps19
  go_wp2_with fail
  refine (uint_nil _).mono ?_; rintro e w1 ⟨rfl, b1⟩
  go_wp2
  go_ret
  exact ⟨rfl, b1⟩
theorem text_nil (i : Int) (w : World) : Calls Try.prog 23 #[.pointer none, .int .i64 i] w fun en w' => en = .returned (.string ⟨#[]⟩) ∧ Below w.heap.size w w' := by
  go_enter Try.func23, Try.ntmps23
  go_wp2_with fail
  refine (rd_nil _ _).mono ?_; rintro e w1 ⟨rfl, b1⟩
  have c : w1.cell? ⟨w.heap.size + 1, 0, none⟩ = some (.string ⟨#[]⟩) := by
    rw [b1.cell (by simp [World.size_alloc])]; simp
  have B1 := Lib.hid b1
  clear b1
  go_wp2
  go_ret
  refine ⟨rfl, ?_⟩
  have h1 := ((Below.refl w.heap.size w).alloc (Nat.le_refl _) (.cells #[.int .i64 i] 3))
  exact (h1.alloc (by simp [World.size_alloc]) _).trans (B1.out.mono (by simp [World.size_alloc]; omega))
theorem b80 : s80[0].toNat = 128 := rfl
set_option maxRecDepth 100000 in
set_option maxHeartbeats 1000000 in
theorem parse_80 (w : World) : Calls Try.prog 33 #[.string s80] w fun e w' => e = .returned (.tuple #[.int .u64 0, .int .i64 0, .int .i64 3]) ∧ w = w' := by
  have z := s80_size
  have z0 : s80.data[0]? = some 128 := rfl
  go_enter Try.func33, Try.ntmps33
  go_wp2_with fail
  go_loopw [2, 10] (fun s2 s10 wr => (s10 = .int .i64 0 ∨ s10 = .int .i64 1) ∧ s2 = .int .u64 0 ∧ Hid (w = wr)) (fun _ s10 _ => 1 - (intOf s10).toNat)
  case atStart => exact ⟨Or.inl rfl, rfl, rfl⟩
  case round =>
    obtain ⟨h | h, rfl, HW⟩ := hrel
    · subst h
      go_wp2_with fail
      go_roundw
      case rel => exact ⟨Or.inr rfl, by rw [b80]; rfl, HW⟩
      case measure => simp [intOf]
    · subst h
      go_wp2_with fail
      go_ret3
      exact ⟨rfl, HW.out⟩
def Num1 (w : World) (nb : Nat) (t : TypeId) (v : Value) : Prop := w.heap[nb]? = some (.cells #[v] t)
theorem Num1.cell {w : World} {nb : Nat} {t : TypeId} {v : Value} (h : Num1 w nb t v) : w.cell? ⟨nb, 0, none⟩ = some v := by unfold Num1 at h; simp [World.cell?, h]
theorem Num1.fr {w : World} {nb : Nat} {t : TypeId} {v : Value} (h : Num1 w nb t v) : w.frozen? ⟨nb, 0, none⟩ = false := by unfold Num1 at h; simp [World.frozen?, h]
theorem RdAt.fr {w : World} {rb i : Nat} {s : ByteArray} {e : Int} (h : RdAt w rb s e) : w.frozen? ⟨rb, i, none⟩ = false := by unfold RdAt at h; simp [World.frozen?, h]
theorem Num1.set {w : World} {nb : Nat} {t : TypeId} {v u : Value} (h : Num1 w nb t v) : Num1 (w.setCell ⟨nb, 0, none⟩ u) nb t u := by
  exact one_setCell h
theorem Num1.other {w : World} {nb : Nat} {t : TypeId} {v u : Value} {a : Addr} (h : Num1 w nb t v) (hn : nb ≠ a.block) : Num1 (w.setCell a u) nb t v := by
  unfold Num1; rw [Below.heap_setCell _ _ _ _ hn]; exact h
theorem RdAt.other {w : World} {rb : Nat} {s : ByteArray} {e : Int} {u : Value} {a : Addr} (h : RdAt w rb s e) (hn : rb ≠ a.block) : RdAt (w.setCell a u) rb s e := by
  unfold RdAt; rw [Below.heap_setCell _ _ _ _ hn]; exact h
theorem RdAt.setErr {w : World} {rb : Nat} {s : ByteArray} {e e' : Int} (h : RdAt w rb s e) : RdAt (w.setCell ⟨rb, 1, none⟩ (.int .i64 e')) rb s e' := by
  unfold RdAt at h ⊢
  rw [heap_setCell_same _ _ _ _ _ _ h]; rfl
theorem Num1.below {w w' : World} {nb B : Nat} {t : TypeId} {v : Value} (h : Num1 w nb t v) (hb : Below B w w') (hn : nb < B) : Num1 w' nb t v := by
  unfold Num1; rw [hb.block _ hn]; exact h
theorem RdAt.below {w w' : World} {rb B : Nat} {s : ByteArray} {e : Int} (h : RdAt w rb s e) (hb : Below B w w') (hn : rb < B) : RdAt w' rb s e := by
  unfold RdAt; rw [hb.block _ hn]; exact h
theorem Num1.lt {w : World} {nb : Nat} {t : TypeId} {v : Value} (h : Num1 w nb t v) : nb < w.heap.size := by
  unfold Num1 at h
  by_cases hb : nb < w.heap.size
  · exact hb
  · rw [Array.getElem?_eq_none (Nat.le_of_not_lt hb)] at h; cases h
theorem RdAt.lt {w : World} {rb : Nat} {s : ByteArray} {e : Int} (h : RdAt w rb s e) : rb < w.heap.size := by
  unfold RdAt at h
  by_cases hb : rb < w.heap.size
  · exact hb
  · rw [Array.getElem?_eq_none (Nat.le_of_not_lt hb)] at h; cases h
theorem Num1.new (w : World) (t : TypeId) (v : Value) : Num1 (w.alloc (.cells #[v] t)) w.heap.size t v := by
  show (w.heap.push _)[w.heap.size]? = _
  rw [Array.getElem?_push, if_pos rfl]
theorem below_alloc (w : World) (o : Obj) : Below w.heap.size w (w.alloc o) := (Below.refl _ _).alloc (Nat.le_refl _) _
theorem clo_80 {w : World} {nb : Nat} {v : Value} (h : Num1 w nb 22 v) : Calls Try.prog 32 #[.string s80, .pointer (some ⟨nb, 0, none⟩)] w fun en w' => en = .returned (.tuple #[.int .i64 0, .int .i64 3]) ∧ w' = w.setCell ⟨nb, 0, none⟩ (.int .u64 0) := by
  have c0 := h.cell
  have f0 := h.fr
  clear h
  go_enter Try.func32, Try.ntmps32
  go_wp2_with fail
  refine (parse_80 _).mono ?_; rintro e w1 ⟨rfl, rfl⟩
  go_wp2
  go_ret2
  exact ⟨rfl, rfl⟩
/- behind the parse: an error is noted down -/
theorem def_err {w : World} {u : FrameMode} {pe pr pu rb : Nat} {s : ByteArray} {x e : Int} (h1 : w.cell? ⟨pe, 0, none⟩ = some (.int .i64 e)) (he : e ≠ 0) (h2 : w.cell? ⟨pr, 0, none⟩ = some (.pointer (some ⟨rb, 0, none⟩))) (h3 : RdAt w rb s x) :
    CallsD Try.prog 37 #[.pointer (some ⟨pe, 0, none⟩), .pointer (some ⟨pr, 0, none⟩), .pointer (some ⟨pu, 0, none⟩)] u w fun en u' w' => u' = u ∧ en = .returned (.tuple #[]) ∧ w' = w.setCell ⟨rb, 1, none⟩ (.int .i64 e) := by
  have c1 := h3.c1
  have f1 := h3.fr (i := 1)
  have hne : (e != 0) = true := by simpa using he
  clear h3 he
  go_enter_d Try.func37, Try.ntmps37
  go_wp2
  refine bodyPost_ret (results_none rfl _ _ _) rfl ?_
  exact ⟨rfl, rfl⟩
set_option maxHeartbeats 1000000 in
theorem rd_80 {w : World} {rb nb : Nat} {v : Value} (h : RdAt w rb s80 0) (k : Num1 w nb 22 v) (hn : nb ≠ rb) : Calls Try.prog 31 #[.pointer (some ⟨rb, 0, none⟩), .func (.func 32) #[] #[.pointer (some ⟨nb, 0, none⟩)]] w fun en w' => en = .returned (.tuple #[]) ∧ RdAt w' rb s80 3 ∧ Num1 w' nb 22 (.int .u64 0) ∧ ∀ B, B ≤ rb → B ≤ nb → Below B w w' := by
  have c0 := h.c0; have c1 := h.c1
  have hrb := h.lt
  have hnb := k.lt
  have hne : rb ≠ w.heap.size := by omega
  obtain ⟨W1, hW1⟩ : ∃ W1, w.alloc (Obj.cells #[Value.pointer (some ⟨rb, 0, none⟩)] 29) = W1 := ⟨_, rfl⟩
  have b1 := below_alloc w (Obj.cells #[Value.pointer (some ⟨rb, 0, none⟩)] 29)
  have n1 := Num1.new w 29 (Value.pointer (some ⟨rb, 0, none⟩))
  have z1 : W1.heap.size = w.heap.size + 1 := by rw [← hW1, World.size_alloc]
  rw [hW1] at b1 n1
  obtain ⟨W2, hW2⟩ : ∃ W2, W1.alloc (Obj.cells #[Value.int IntKind.i64 0] 3) = W2 := ⟨_, rfl⟩
  have b2 := below_alloc W1 (Obj.cells #[Value.int IntKind.i64 0] 3)
  have n2 := Num1.new W1 3 (Value.int IntKind.i64 0)
  have z2 : W2.heap.size = w.heap.size + 1 + 1 := by rw [← hW2, World.size_alloc, z1]
  rw [hW2, z1] at b2; rw [hW2, z1] at n2
  obtain ⟨W3, hW3⟩ : ∃ W3, W2.alloc (Obj.cells #[Value.int IntKind.i64 0] 48) = W3 := ⟨_, rfl⟩
  have b3 := below_alloc W2 (Obj.cells #[Value.int IntKind.i64 0] 48)
  have n3 := Num1.new W2 48 (Value.int IntKind.i64 0)
  rw [hW3, z2] at b3; rw [hW3, z2] at n3
  have m1 : Num1 W3 w.heap.size 29 (Value.pointer (some ⟨rb, 0, none⟩)) := (n1.below b2 (by omega)).below b3 (by omega)
  have m2 := n2.below b3 (by omega)
  have mr : RdAt W3 rb s80 0 := ((h.below b1 hrb).below b2 (by omega)).below b3 (by omega)
  have mn : Num1 W3 nb 22 v := ((k.below b1 hnb).below b2 (by omega)).below b3 (by omega)
  have d0 := mr.c0
  have d1 := m1.cell
  have q1 := n1.cell
  have q2 := (h.below b1 hrb).c1
  have BB : Hid (Below w.heap.size w W3) := (b1.trans (b2.mono (by omega))).trans (b3.mono (by omega))
  -- behind the parse
  obtain ⟨W4, hW4⟩ : ∃ W4, W3.setCell ⟨nb, 0, none⟩ (.int .u64 0) = W4 := ⟨_, rfl⟩
  have e1 : Num1 W4 w.heap.size 29 (Value.pointer (some ⟨rb, 0, none⟩)) := by rw [← hW4]; exact m1.other (by simp; omega)
  have e2 : Num1 W4 (w.heap.size + 1) 3 (Value.int IntKind.i64 0) := by rw [← hW4]; exact m2.other (by simp; omega)
  have e3 : Num1 W4 (w.heap.size + 1 + 1) 48 (Value.int IntKind.i64 0) := by rw [← hW4]; exact n3.other (by simp; omega)
  have er : RdAt W4 rb s80 0 := by rw [← hW4]; exact mr.other (by simp; omega)
  have en : Num1 W4 nb 22 (.int .u64 0) := by rw [← hW4]; exact mn.set
  have BB4 : Hid (∀ B, B ≤ rb → B ≤ nb → Below B w W4) := fun B h1 h2 => by rw [← hW4]; exact (BB.out.mono (by omega)).setCell h2 _
  have x2 := e2.cell; have y2 := e2.fr
  obtain ⟨W5, hW5⟩ : ∃ W5, W4.setCell ⟨w.heap.size + 1, 0, none⟩ (.int .i64 0) = W5 := ⟨_, rfl⟩
  have f1 : Num1 W5 w.heap.size 29 (Value.pointer (some ⟨rb, 0, none⟩)) := by rw [← hW5]; exact e1.other (by simp)
  have f3 : Num1 W5 (w.heap.size + 1 + 1) 48 (Value.int IntKind.i64 0) := by rw [← hW5]; exact e3.other (by simp)
  have fr : RdAt W5 rb s80 0 := by rw [← hW5]; exact er.other (by simp; omega)
  have fn : Num1 W5 nb 22 (.int .u64 0) := by rw [← hW5]; exact en.other (by simp; omega)
  have x3 := f3.cell; have y3 := f3.fr
  obtain ⟨W6, hW6⟩ : ∃ W6, W5.setCell ⟨w.heap.size + 1 + 1, 0, none⟩ (.int .i64 3) = W6 := ⟨_, rfl⟩
  have G1 : Hid (Num1 W6 w.heap.size 29 (Value.pointer (some ⟨rb, 0, none⟩))) := by show Num1 _ _ _ _; rw [← hW6]; exact f1.other (by simp; omega)
  have G3 : Hid (Num1 W6 (w.heap.size + 1 + 1) 48 (Value.int IntKind.i64 3)) := by show Num1 _ _ _ _; rw [← hW6]; exact f3.set
  have GR : Hid (RdAt W6 rb s80 0) := by show RdAt _ _ _ _; rw [← hW6]; exact fr.other (by simp; omega)
  have GN : Hid (Num1 W6 nb 22 (.int .u64 0)) := by show Num1 _ _ _ _; rw [← hW6]; exact fn.other (by simp; omega)
  have BB6 : Hid (∀ B, B ≤ rb → B ≤ nb → Below B w W6) := fun B h1 h2 => by
    rw [← hW6, ← hW5]; exact ((BB4.out B h1 h2).setCell (by simp; omega) _).setCell (by simp; omega) _
  have HN := Lib.hid hn
  have MN := Lib.hid mn
  clear b1 b2 b3 n1 n2 n3 m1 m2 mr mn e1 e2 e3 er en f1 f3 fr fn hn h k BB BB4
  have hmf : ∀ (fn : Fn) (first cap : Array Value) (w : World), (Instr.makeFunc fn first cap).run Try.prog w = .ok (.func fn first cap) w := fun _ _ _ _ => rfl
  go_enter_defers Try.func31, Try.ntmps31
  go_wp2_with fail
  refine (clo_80 MN.out).mono ?_; rintro e w4 ⟨rfl, rfl⟩
  go_wp2_with fail
  refine leaves_cons (f := 37) (args := #[.pointer (some ⟨w.heap.size + 1 + 1, 0, none⟩), .pointer (some ⟨w.heap.size, 0, none⟩), .pointer (some ⟨w.heap.size + 1, 0, none⟩)]) (by simp) (by simp [go_sem]) ?_
  refine (def_err G3.out.cell (by decide) G1.out.cell GR.out).mono ?_
  rintro e u' w'' ⟨rfl, rfl, rfl⟩
  have RA : RdAt (W6.setCell ⟨rb, 1, none⟩ (.int .i64 3)) rb s80 3 := GR.out.setErr
  have NA : Num1 (W6.setCell ⟨rb, 1, none⟩ (.int .i64 3)) nb 22 (.int .u64 0) := GN.out.other (by simpa using HN.out)
  exact ⟨_, results_none rfl _ _ _, rfl, RA, NA, fun B h1 h2 => (BB6.out B h1 h2).setCell h1 _⟩
theorem uint_80 {w : World} {rb : Nat} (h : RdAt w rb s80 0) : Calls Try.prog 17 #[.pointer (some ⟨rb, 0, none⟩)] w fun en w' => en = .returned (.int .u64 0) ∧ RdAt w' rb s80 3 ∧ Below rb w w' := by
  have hrb := h.lt
  have n1 := Num1.new w 22 (Value.int IntKind.u64 0)
  have b1 := below_alloc w (Obj.cells #[Value.int IntKind.u64 0] 22)
  have R1 := Lib.hid (h.below b1 hrb); have B1 := Lib.hid b1; have N1 := Lib.hid n1
  clear h b1 n1
  go_enter Try.func17, Try.ntmps17
  go_wp2_with fail
  refine (rd_80 R1.out N1.out (by omega)).mono ?_; rintro e w1 ⟨rfl, r2, n2, b2⟩
  have c := n2.cell
  have R2 := Lib.hid r2; have B2 := Lib.hid (b2 rb (Nat.le_refl _) (by omega))
  clear r2 n2 b2
  go_wp2
  go_ret
  exact ⟨rfl, R2.out, (B1.out.mono (by omega)).trans B2.out⟩
end Go.Proofs.Ytnjednndpphhlaa
