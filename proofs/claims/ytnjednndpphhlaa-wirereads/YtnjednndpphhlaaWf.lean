/- Reader.read, for every parse. -/
import Derived.Test.YtnjednndpphhlaaWe
import Derived.RegionTactic
namespace Go.Proofs.Ytnjednndpphhlaa
open Go.ChangeShapes Go.WideShapes Go.ChangeAt Go.RowKit Go.Maps Go.WideMaps

set_option maxHeartbeats 1000000 in
theorem def_ok {w : World} {u : FrameMode} {pe pr pu rb k : Nat} {s : ByteArray} {x : Int} (h1 : w.cell? ⟨pe, 0, none⟩ = some (.int .i64 0)) (h2 : w.cell? ⟨pr, 0, none⟩ = some (.pointer (some ⟨rb, 0, none⟩))) (h3 : RdAt w rb s x) (h4 : w.cell? ⟨pu, 0, none⟩ = some (.int .i64 k)) (hk : k ≤ s.size) :
    CallsD Try.prog 37 #[.pointer (some ⟨pe, 0, none⟩), .pointer (some ⟨pr, 0, none⟩), .pointer (some ⟨pu, 0, none⟩)] u w fun en u' w' => u' = u ∧ en = .returned (.tuple #[]) ∧ w' = (w.setCell ⟨rb, 0, none⟩ (.string (s.extract k s.size))).drew := by
  have c0 := h3.c0
  have f0 := h3.fr (i := 0)
  have k0 : (0 : Int) ≤ k := by omega
  have k1 : (k : Int) ≤ s.size := by omega
  clear h3
  go_enter_d Try.func37, Try.ntmps37
  go_wp2_with fail
  go_region
  go_end0
  exact ⟨rfl, rfl⟩
/- one block may have changed -/
structure After (nb : Nat) (w w' : World) : Prop where
  os : w'.os = w.os
  tape : w'.tape = w.tape
  output : w'.output = w.output
  size : w'.heap.size = w.heap.size
  block : ∀ k, k ≠ nb → w'.heap[k]? = w.heap[k]?
theorem After.refl (nb : Nat) (w : World) : After nb w w := ⟨rfl, rfl, rfl, rfl, fun _ _ => rfl⟩
theorem After.set (nb i : Nat) (w : World) (u : Value) : After nb w (w.setCell ⟨nb, i, none⟩ u) := ⟨rfl, rfl, rfl, by simp, fun _ hk => Below.heap_setCell _ _ _ _ hk⟩
theorem After.below {nb B : Nat} {w w' : World} (h : After nb w w') (hb : B ≤ nb) : Below B w w' := ⟨h.os, h.tape, h.output, Nat.le_of_eq h.size.symm, fun k hk => h.block k (by omega)⟩
theorem Num1.after {w w' : World} {nb m : Nat} {t : TypeId} {v : Value} (h : Num1 w m t v) (a : After nb w w') (hn : m ≠ nb) : Num1 w' m t v := by unfold Num1; rw [a.block _ hn]; exact h
theorem RdAt.after {w w' : World} {nb rb : Nat} {s : ByteArray} {e : Int} (h : RdAt w rb s e) (a : After nb w w') (hn : rb ≠ nb) : RdAt w' rb s e := by unfold RdAt; rw [a.block _ hn]; exact h
theorem RdAt.setRest {w : World} {rb : Nat} {s s' : ByteArray} {e : Int} (h : RdAt w rb s e) : RdAt (w.setCell ⟨rb, 0, none⟩ (.string s')) rb s' e := by
  unfold RdAt at h ⊢
  rw [heap_setCell_same _ _ _ _ _ _ h]; rfl
/- a reader with an error reads nothing -/
theorem rd_err {w : World} {rb : Nat} {s : ByteArray} {e : Int} (v : Value) (h : RdAt w rb s e) (he : e ≠ 0) : Calls Try.prog 31 #[.pointer (some ⟨rb, 0, none⟩), v] w fun en w' => en = .returned (.tuple #[]) ∧ Below w.heap.size w w' := by
  obtain ⟨W1, hW1⟩ : ∃ W1, w.alloc (Obj.cells #[Value.pointer (some ⟨rb, 0, none⟩)] 29) = W1 := ⟨_, rfl⟩
  have b1 := below_alloc w (Obj.cells #[Value.pointer (some ⟨rb, 0, none⟩)] 29)
  have n1 := Num1.new w 29 (Value.pointer (some ⟨rb, 0, none⟩))
  rw [hW1] at b1 n1
  have q1 := n1.cell
  have q2 := (h.below b1 h.lt).c1
  have hb : (e != 0) = true := by simpa using he
  have BB := Lib.hid b1
  clear h he b1 n1
  go_enter Try.func31, Try.ntmps31
  go_wp2
  refine bodyPost_ret (results_none rfl _ _ _) rfl ?_
  exact ⟨rfl, BB.out⟩
def rest (s : ByteArray) (k : Nat) (c : Int) : ByteArray := if c = 0 then s.extract k s.size else s
set_option maxHeartbeats 2000000 in
theorem rd_32 {w : World} {rb nb k : Nat} {s : ByteArray} {c : Int} {p1 v' : Value} {t : TypeId} (h : RdAt w rb s 0) (hnb : nb < w.heap.size) (hn : nb ≠ rb) (hk : c = 0 → k ≤ s.size)
    (C : ∀ W, Below w.heap.size w W → Calls Try.prog 32 #[.string s, p1] W fun en W' => en = .returned (.tuple #[.int .i64 k, .int .i64 c]) ∧ After nb W W' ∧ Num1 W' nb t v') :
    Calls Try.prog 31 #[.pointer (some ⟨rb, 0, none⟩), .func (.func 32) #[] #[p1]] w fun en w' => en = .returned (.tuple #[]) ∧ RdAt w' rb (rest s k c) c ∧ Num1 w' nb t v' ∧ (∀ B, B ≤ rb → B ≤ nb → Below B w w') ∧ ∀ j, j < w.heap.size → j ≠ rb → j ≠ nb → w'.heap[j]? = w.heap[j]? := by
  have c0 := h.c0; have c1 := h.c1
  have hrb := h.lt
  have hne : rb ≠ w.heap.size := by omega
  obtain ⟨W1, hW1⟩ : ∃ W1, w.alloc (Obj.cells #[Value.pointer (some ⟨rb, 0, none⟩)] 29) = W1 := ⟨_, rfl⟩
  have b1 := below_alloc w (Obj.cells #[Value.pointer (some ⟨rb, 0, none⟩)] 29)
  have n1 := Num1.new w 29 (Value.pointer (some ⟨rb, 0, none⟩))
  have z1 : W1.heap.size = w.heap.size + 1 := by rw [← hW1, World.size_alloc]
  rw [hW1] at b1 n1
  obtain ⟨W2, hW2⟩ : ∃ W2, W1.alloc (Obj.cells #[Value.int IntKind.i64 0] 3) = W2 := ⟨_, rfl⟩
  have b2 := below_alloc W1 (Obj.cells #[Value.int IntKind.i64 0] 3)
  have n2 := Num1.new W1 3 (Value.int IntKind.i64 0)
  have z2 : W2.heap.size = w.heap.size + 1 + 1 := by rw [← hW2, World.size_alloc, z1]
  rw [hW2, z1] at b2; rw [hW2, z1] at n2
  obtain ⟨W3, hW3⟩ : ∃ W3, W2.alloc (Obj.cells #[Value.int IntKind.i64 0] 48) = W3 := ⟨_, rfl⟩
  have b3 := below_alloc W2 (Obj.cells #[Value.int IntKind.i64 0] 48)
  have n3 := Num1.new W2 48 (Value.int IntKind.i64 0)
  rw [hW3, z2] at b3; rw [hW3, z2] at n3
  have m1 : Num1 W3 w.heap.size 29 (Value.pointer (some ⟨rb, 0, none⟩)) := (n1.below b2 (by omega)).below b3 (by omega)
  have m2 := n2.below b3 (by omega)
  have mr : RdAt W3 rb s 0 := ((h.below b1 hrb).below b2 (by omega)).below b3 (by omega)
  have d0 := mr.c0
  have d1 := m1.cell
  have q1 := n1.cell
  have q2 := (h.below b1 hrb).c1
  have BB : Hid (Below w.heap.size w W3) := (b1.trans (b2.mono (by omega))).trans (b3.mono (by omega))
  have M1 := Lib.hid m1; have M2 := Lib.hid m2; have M3 := Lib.hid n3; have MR := Lib.hid mr
  have CC := Lib.hid (C W3 BB.out); have HK := Lib.hid hk
  clear b1 b2 b3 n1 n2 n3 m1 m2 mr h C hk
  have hmf : ∀ (fn : Fn) (first cap : Array Value) (w : World), (Instr.makeFunc fn first cap).run Try.prog w = .ok (.func fn first cap) w := fun _ _ _ _ => rfl
  go_enter_defers Try.func31, Try.ntmps31
  go_wp2_with fail
  refine CC.out.mono ?_; rintro e W4 ⟨rfl, af, en⟩
  have e1 := M1.out.after af (by omega)
  have e2 := M2.out.after af (by omega)
  have e3 := M3.out.after af (by omega)
  have er := MR.out.after af (by omega)
  have BB4 : Hid (∀ B, B ≤ rb → B ≤ nb → Below B w W4) := fun B h1 h2 => (BB.out.mono (by omega)).trans (af.below h2)
  have x2 := e2.cell; have y2 := e2.fr
  obtain ⟨W5, hW5⟩ : ∃ W5, W4.setCell ⟨w.heap.size + 1, 0, none⟩ (.int .i64 k) = W5 := ⟨_, rfl⟩
  have f1 : Num1 W5 w.heap.size 29 (Value.pointer (some ⟨rb, 0, none⟩)) := by rw [← hW5]; exact e1.other (by simp)
  have f2 : Num1 W5 (w.heap.size + 1) 3 (Value.int IntKind.i64 k) := by rw [← hW5]; exact e2.set
  have f3 : Num1 W5 (w.heap.size + 1 + 1) 48 (Value.int IntKind.i64 0) := by rw [← hW5]; exact e3.other (by simp)
  have fr : RdAt W5 rb s 0 := by rw [← hW5]; exact er.other (by simp; omega)
  have fn : Num1 W5 nb t v' := by rw [← hW5]; exact en.other (by simp; omega)
  have x3 := f3.cell; have y3 := f3.fr
  obtain ⟨W6, hW6⟩ : ∃ W6, W5.setCell ⟨w.heap.size + 1 + 1, 0, none⟩ (.int .i64 c) = W6 := ⟨_, rfl⟩
  have G1 : Hid (Num1 W6 w.heap.size 29 (Value.pointer (some ⟨rb, 0, none⟩))) := by show Num1 _ _ _ _; rw [← hW6]; exact f1.other (by simp; omega)
  have G2 : Hid (Num1 W6 (w.heap.size + 1) 3 (Value.int IntKind.i64 k)) := by show Num1 _ _ _ _; rw [← hW6]; exact f2.other (by simp)
  have G3 : Hid (Num1 W6 (w.heap.size + 1 + 1) 48 (Value.int IntKind.i64 c)) := by show Num1 _ _ _ _; rw [← hW6]; exact f3.set
  have GR : Hid (RdAt W6 rb s 0) := by show RdAt _ _ _ _; rw [← hW6]; exact fr.other (by simp; omega)
  have GN : Hid (Num1 W6 nb t v') := by show Num1 _ _ _ _; rw [← hW6]; exact fn.other (by simp; omega)
  have BB6 : Hid (∀ B, B ≤ rb → B ≤ nb → Below B w W6) := fun B h1 h2 => by
    rw [← hW6, ← hW5]; exact ((BB4.out B h1 h2).setCell (by simp; omega) _).setCell (by simp; omega) _
  have KB : Hid (∀ j, j < w.heap.size → j ≠ nb → W6.heap[j]? = w.heap[j]?) := fun j h1 h2 => by
    rw [← hW6, ← hW5, Below.heap_setCell _ _ _ _ (by simp; omega), Below.heap_setCell _ _ _ _ (by simp; omega), af.block j h2, BB.out.block j h1]
  clear e1 e2 e3 er en f1 f2 f3 fr fn BB BB4 af
  go_wp2_with fail
  refine leaves_cons (f := 37) (args := #[.pointer (some ⟨w.heap.size + 1 + 1, 0, none⟩), .pointer (some ⟨w.heap.size, 0, none⟩), .pointer (some ⟨w.heap.size + 1, 0, none⟩)]) (by simp) (by simp [go_sem]) ?_
  by_cases hc : c = 0
  · subst hc
    refine (def_ok G3.out.cell G1.out.cell GR.out G2.out.cell (HK.out rfl)).mono ?_
    rintro e u' w'' ⟨rfl, rfl, rfl⟩
    have RA : RdAt (W6.setCell ⟨rb, 0, none⟩ (.string (s.extract k s.size))).drew rb (rest s k 0) 0 := by
      show RdAt (W6.setCell ⟨rb, 0, none⟩ (.string (s.extract k s.size))) rb (rest s k 0) 0
      unfold rest; rw [if_pos rfl]; exact GR.out.setRest
    have NA : Num1 (W6.setCell ⟨rb, 0, none⟩ (.string (s.extract k s.size))).drew nb t v' := by
      show Num1 (W6.setCell ⟨rb, 0, none⟩ (.string (s.extract k s.size))) nb t v'
      exact GN.out.other hn
    exact ⟨_, results_none rfl _ _ _, rfl, RA, NA, fun B h1 h2 => below_drewN ((BB6.out B h1 h2).setCell h1 _) 1, fun j h1 h2 h3 => (Below.heap_setCell _ _ _ _ h2).trans (KB.out j h1 h3)⟩
  · refine (def_err G3.out.cell hc G1.out.cell GR.out).mono ?_
    rintro e u' w'' ⟨rfl, rfl, rfl⟩
    have RA : RdAt (W6.setCell ⟨rb, 1, none⟩ (.int .i64 c)) rb (rest s k c) c := by unfold rest; rw [if_neg hc]; exact GR.out.setErr
    have NA : Num1 (W6.setCell ⟨rb, 1, none⟩ (.int .i64 c)) nb t v' := GN.out.other hn
    exact ⟨_, results_none rfl _ _ _, rfl, RA, NA, fun B h1 h2 => (BB6.out B h1 h2).setCell h1 _, fun j h1 h2 h3 => (Below.heap_setCell _ _ _ _ h2).trans (KB.out j h1 h3)⟩
set_option maxHeartbeats 2000000 in
theorem rd_34 {w : World} {rb nb k : Nat} {s : ByteArray} {c : Int} {p1 p2 v' : Value} {t : TypeId} (h : RdAt w rb s 0) (hnb : nb < w.heap.size) (hn : nb ≠ rb) (hk : c = 0 → k ≤ s.size)
    (C : ∀ W, Below w.heap.size w W → Calls Try.prog 34 #[.string s, p1, p2] W fun en W' => en = .returned (.tuple #[.int .i64 k, .int .i64 c]) ∧ After nb W W' ∧ Num1 W' nb t v') :
    Calls Try.prog 31 #[.pointer (some ⟨rb, 0, none⟩), .func (.func 34) #[] #[p1, p2]] w fun en w' => en = .returned (.tuple #[]) ∧ RdAt w' rb (rest s k c) c ∧ Num1 w' nb t v' ∧ (∀ B, B ≤ rb → B ≤ nb → Below B w w') ∧ ∀ j, j < w.heap.size → j ≠ rb → j ≠ nb → w'.heap[j]? = w.heap[j]? := by
  have c0 := h.c0; have c1 := h.c1
  have hrb := h.lt
  have hne : rb ≠ w.heap.size := by omega
  obtain ⟨W1, hW1⟩ : ∃ W1, w.alloc (Obj.cells #[Value.pointer (some ⟨rb, 0, none⟩)] 29) = W1 := ⟨_, rfl⟩
  have b1 := below_alloc w (Obj.cells #[Value.pointer (some ⟨rb, 0, none⟩)] 29)
  have n1 := Num1.new w 29 (Value.pointer (some ⟨rb, 0, none⟩))
  have z1 : W1.heap.size = w.heap.size + 1 := by rw [← hW1, World.size_alloc]
  rw [hW1] at b1 n1
  obtain ⟨W2, hW2⟩ : ∃ W2, W1.alloc (Obj.cells #[Value.int IntKind.i64 0] 3) = W2 := ⟨_, rfl⟩
  have b2 := below_alloc W1 (Obj.cells #[Value.int IntKind.i64 0] 3)
  have n2 := Num1.new W1 3 (Value.int IntKind.i64 0)
  have z2 : W2.heap.size = w.heap.size + 1 + 1 := by rw [← hW2, World.size_alloc, z1]
  rw [hW2, z1] at b2; rw [hW2, z1] at n2
  obtain ⟨W3, hW3⟩ : ∃ W3, W2.alloc (Obj.cells #[Value.int IntKind.i64 0] 48) = W3 := ⟨_, rfl⟩
  have b3 := below_alloc W2 (Obj.cells #[Value.int IntKind.i64 0] 48)
  have n3 := Num1.new W2 48 (Value.int IntKind.i64 0)
  rw [hW3, z2] at b3; rw [hW3, z2] at n3
  have m1 : Num1 W3 w.heap.size 29 (Value.pointer (some ⟨rb, 0, none⟩)) := (n1.below b2 (by omega)).below b3 (by omega)
  have m2 := n2.below b3 (by omega)
  have mr : RdAt W3 rb s 0 := ((h.below b1 hrb).below b2 (by omega)).below b3 (by omega)
  have d0 := mr.c0
  have d1 := m1.cell
  have q1 := n1.cell
  have q2 := (h.below b1 hrb).c1
  have BB : Hid (Below w.heap.size w W3) := (b1.trans (b2.mono (by omega))).trans (b3.mono (by omega))
  have M1 := Lib.hid m1; have M2 := Lib.hid m2; have M3 := Lib.hid n3; have MR := Lib.hid mr
  have CC := Lib.hid (C W3 BB.out); have HK := Lib.hid hk
  clear b1 b2 b3 n1 n2 n3 m1 m2 mr h C hk
  have hmf : ∀ (fn : Fn) (first cap : Array Value) (w : World), (Instr.makeFunc fn first cap).run Try.prog w = .ok (.func fn first cap) w := fun _ _ _ _ => rfl
  go_enter_defers Try.func31, Try.ntmps31
  go_wp2_with fail
  refine CC.out.mono ?_; rintro e W4 ⟨rfl, af, en⟩
  have e1 := M1.out.after af (by omega)
  have e2 := M2.out.after af (by omega)
  have e3 := M3.out.after af (by omega)
  have er := MR.out.after af (by omega)
  have BB4 : Hid (∀ B, B ≤ rb → B ≤ nb → Below B w W4) := fun B h1 h2 => (BB.out.mono (by omega)).trans (af.below h2)
  have x2 := e2.cell; have y2 := e2.fr
  obtain ⟨W5, hW5⟩ : ∃ W5, W4.setCell ⟨w.heap.size + 1, 0, none⟩ (.int .i64 k) = W5 := ⟨_, rfl⟩
  have f1 : Num1 W5 w.heap.size 29 (Value.pointer (some ⟨rb, 0, none⟩)) := by rw [← hW5]; exact e1.other (by simp)
  have f2 : Num1 W5 (w.heap.size + 1) 3 (Value.int IntKind.i64 k) := by rw [← hW5]; exact e2.set
  have f3 : Num1 W5 (w.heap.size + 1 + 1) 48 (Value.int IntKind.i64 0) := by rw [← hW5]; exact e3.other (by simp)
  have fr : RdAt W5 rb s 0 := by rw [← hW5]; exact er.other (by simp; omega)
  have fn : Num1 W5 nb t v' := by rw [← hW5]; exact en.other (by simp; omega)
  have x3 := f3.cell; have y3 := f3.fr
  obtain ⟨W6, hW6⟩ : ∃ W6, W5.setCell ⟨w.heap.size + 1 + 1, 0, none⟩ (.int .i64 c) = W6 := ⟨_, rfl⟩
  have G1 : Hid (Num1 W6 w.heap.size 29 (Value.pointer (some ⟨rb, 0, none⟩))) := by show Num1 _ _ _ _; rw [← hW6]; exact f1.other (by simp; omega)
  have G2 : Hid (Num1 W6 (w.heap.size + 1) 3 (Value.int IntKind.i64 k)) := by show Num1 _ _ _ _; rw [← hW6]; exact f2.other (by simp)
  have G3 : Hid (Num1 W6 (w.heap.size + 1 + 1) 48 (Value.int IntKind.i64 c)) := by show Num1 _ _ _ _; rw [← hW6]; exact f3.set
  have GR : Hid (RdAt W6 rb s 0) := by show RdAt _ _ _ _; rw [← hW6]; exact fr.other (by simp; omega)
  have GN : Hid (Num1 W6 nb t v') := by show Num1 _ _ _ _; rw [← hW6]; exact fn.other (by simp; omega)
  have BB6 : Hid (∀ B, B ≤ rb → B ≤ nb → Below B w W6) := fun B h1 h2 => by
    rw [← hW6, ← hW5]; exact ((BB4.out B h1 h2).setCell (by simp; omega) _).setCell (by simp; omega) _
  have KB : Hid (∀ j, j < w.heap.size → j ≠ nb → W6.heap[j]? = w.heap[j]?) := fun j h1 h2 => by
    rw [← hW6, ← hW5, Below.heap_setCell _ _ _ _ (by simp; omega), Below.heap_setCell _ _ _ _ (by simp; omega), af.block j h2, BB.out.block j h1]
  clear e1 e2 e3 er en f1 f2 f3 fr fn BB BB4 af
  go_wp2_with fail
  refine leaves_cons (f := 37) (args := #[.pointer (some ⟨w.heap.size + 1 + 1, 0, none⟩), .pointer (some ⟨w.heap.size, 0, none⟩), .pointer (some ⟨w.heap.size + 1, 0, none⟩)]) (by simp) (by simp [go_sem]) ?_
  by_cases hc : c = 0
  · subst hc
    refine (def_ok G3.out.cell G1.out.cell GR.out G2.out.cell (HK.out rfl)).mono ?_
    rintro e u' w'' ⟨rfl, rfl, rfl⟩
    have RA : RdAt (W6.setCell ⟨rb, 0, none⟩ (.string (s.extract k s.size))).drew rb (rest s k 0) 0 := by
      show RdAt (W6.setCell ⟨rb, 0, none⟩ (.string (s.extract k s.size))) rb (rest s k 0) 0
      unfold rest; rw [if_pos rfl]; exact GR.out.setRest
    have NA : Num1 (W6.setCell ⟨rb, 0, none⟩ (.string (s.extract k s.size))).drew nb t v' := by
      show Num1 (W6.setCell ⟨rb, 0, none⟩ (.string (s.extract k s.size))) nb t v'
      exact GN.out.other hn
    exact ⟨_, results_none rfl _ _ _, rfl, RA, NA, fun B h1 h2 => below_drewN ((BB6.out B h1 h2).setCell h1 _) 1, fun j h1 h2 h3 => (Below.heap_setCell _ _ _ _ h2).trans (KB.out j h1 h3)⟩
  · refine (def_err G3.out.cell hc G1.out.cell GR.out).mono ?_
    rintro e u' w'' ⟨rfl, rfl, rfl⟩
    have RA : RdAt (W6.setCell ⟨rb, 1, none⟩ (.int .i64 c)) rb (rest s k c) c := by unfold rest; rw [if_neg hc]; exact GR.out.setErr
    have NA : Num1 (W6.setCell ⟨rb, 1, none⟩ (.int .i64 c)) nb t v' := GN.out.other hn
    exact ⟨_, results_none rfl _ _ _, rfl, RA, NA, fun B h1 h2 => (BB6.out B h1 h2).setCell h1 _, fun j h1 h2 h3 => (Below.heap_setCell _ _ _ _ h2).trans (KB.out j h1 h3)⟩
set_option maxHeartbeats 2000000 in
theorem rd_36 {w : World} {rb nb k : Nat} {s : ByteArray} {c : Int} {p1 p2 v' : Value} {t : TypeId} (h : RdAt w rb s 0) (hnb : nb < w.heap.size) (hn : nb ≠ rb) (hk : c = 0 → k ≤ s.size)
    (C : ∀ W, Below w.heap.size w W → Calls Try.prog 36 #[.string s, p1, p2] W fun en W' => en = .returned (.tuple #[.int .i64 k, .int .i64 c]) ∧ After nb W W' ∧ Num1 W' nb t v') :
    Calls Try.prog 31 #[.pointer (some ⟨rb, 0, none⟩), .func (.func 36) #[] #[p1, p2]] w fun en w' => en = .returned (.tuple #[]) ∧ RdAt w' rb (rest s k c) c ∧ Num1 w' nb t v' ∧ (∀ B, B ≤ rb → B ≤ nb → Below B w w') ∧ ∀ j, j < w.heap.size → j ≠ rb → j ≠ nb → w'.heap[j]? = w.heap[j]? := by
  have c0 := h.c0; have c1 := h.c1
  have hrb := h.lt
  have hne : rb ≠ w.heap.size := by omega
  obtain ⟨W1, hW1⟩ : ∃ W1, w.alloc (Obj.cells #[Value.pointer (some ⟨rb, 0, none⟩)] 29) = W1 := ⟨_, rfl⟩
  have b1 := below_alloc w (Obj.cells #[Value.pointer (some ⟨rb, 0, none⟩)] 29)
  have n1 := Num1.new w 29 (Value.pointer (some ⟨rb, 0, none⟩))
  have z1 : W1.heap.size = w.heap.size + 1 := by rw [← hW1, World.size_alloc]
  rw [hW1] at b1 n1
  obtain ⟨W2, hW2⟩ : ∃ W2, W1.alloc (Obj.cells #[Value.int IntKind.i64 0] 3) = W2 := ⟨_, rfl⟩
  have b2 := below_alloc W1 (Obj.cells #[Value.int IntKind.i64 0] 3)
  have n2 := Num1.new W1 3 (Value.int IntKind.i64 0)
  have z2 : W2.heap.size = w.heap.size + 1 + 1 := by rw [← hW2, World.size_alloc, z1]
  rw [hW2, z1] at b2; rw [hW2, z1] at n2
  obtain ⟨W3, hW3⟩ : ∃ W3, W2.alloc (Obj.cells #[Value.int IntKind.i64 0] 48) = W3 := ⟨_, rfl⟩
  have b3 := below_alloc W2 (Obj.cells #[Value.int IntKind.i64 0] 48)
  have n3 := Num1.new W2 48 (Value.int IntKind.i64 0)
  rw [hW3, z2] at b3; rw [hW3, z2] at n3
  have m1 : Num1 W3 w.heap.size 29 (Value.pointer (some ⟨rb, 0, none⟩)) := (n1.below b2 (by omega)).below b3 (by omega)
  have m2 := n2.below b3 (by omega)
  have mr : RdAt W3 rb s 0 := ((h.below b1 hrb).below b2 (by omega)).below b3 (by omega)
  have d0 := mr.c0
  have d1 := m1.cell
  have q1 := n1.cell
  have q2 := (h.below b1 hrb).c1
  have BB : Hid (Below w.heap.size w W3) := (b1.trans (b2.mono (by omega))).trans (b3.mono (by omega))
  have M1 := Lib.hid m1; have M2 := Lib.hid m2; have M3 := Lib.hid n3; have MR := Lib.hid mr
  have CC := Lib.hid (C W3 BB.out); have HK := Lib.hid hk
  clear b1 b2 b3 n1 n2 n3 m1 m2 mr h C hk
  have hmf : ∀ (fn : Fn) (first cap : Array Value) (w : World), (Instr.makeFunc fn first cap).run Try.prog w = .ok (.func fn first cap) w := fun _ _ _ _ => rfl
  go_enter_defers Try.func31, Try.ntmps31
  go_wp2_with fail
  refine CC.out.mono ?_; rintro e W4 ⟨rfl, af, en⟩
  have e1 := M1.out.after af (by omega)
  have e2 := M2.out.after af (by omega)
  have e3 := M3.out.after af (by omega)
  have er := MR.out.after af (by omega)
  have BB4 : Hid (∀ B, B ≤ rb → B ≤ nb → Below B w W4) := fun B h1 h2 => (BB.out.mono (by omega)).trans (af.below h2)
  have x2 := e2.cell; have y2 := e2.fr
  obtain ⟨W5, hW5⟩ : ∃ W5, W4.setCell ⟨w.heap.size + 1, 0, none⟩ (.int .i64 k) = W5 := ⟨_, rfl⟩
  have f1 : Num1 W5 w.heap.size 29 (Value.pointer (some ⟨rb, 0, none⟩)) := by rw [← hW5]; exact e1.other (by simp)
  have f2 : Num1 W5 (w.heap.size + 1) 3 (Value.int IntKind.i64 k) := by rw [← hW5]; exact e2.set
  have f3 : Num1 W5 (w.heap.size + 1 + 1) 48 (Value.int IntKind.i64 0) := by rw [← hW5]; exact e3.other (by simp)
  have fr : RdAt W5 rb s 0 := by rw [← hW5]; exact er.other (by simp; omega)
  have fn : Num1 W5 nb t v' := by rw [← hW5]; exact en.other (by simp; omega)
  have x3 := f3.cell; have y3 := f3.fr
  obtain ⟨W6, hW6⟩ : ∃ W6, W5.setCell ⟨w.heap.size + 1 + 1, 0, none⟩ (.int .i64 c) = W6 := ⟨_, rfl⟩
  have G1 : Hid (Num1 W6 w.heap.size 29 (Value.pointer (some ⟨rb, 0, none⟩))) := by show Num1 _ _ _ _; rw [← hW6]; exact f1.other (by simp; omega)
  have G2 : Hid (Num1 W6 (w.heap.size + 1) 3 (Value.int IntKind.i64 k)) := by show Num1 _ _ _ _; rw [← hW6]; exact f2.other (by simp)
  have G3 : Hid (Num1 W6 (w.heap.size + 1 + 1) 48 (Value.int IntKind.i64 c)) := by show Num1 _ _ _ _; rw [← hW6]; exact f3.set
  have GR : Hid (RdAt W6 rb s 0) := by show RdAt _ _ _ _; rw [← hW6]; exact fr.other (by simp; omega)
  have GN : Hid (Num1 W6 nb t v') := by show Num1 _ _ _ _; rw [← hW6]; exact fn.other (by simp; omega)
  have BB6 : Hid (∀ B, B ≤ rb → B ≤ nb → Below B w W6) := fun B h1 h2 => by
    rw [← hW6, ← hW5]; exact ((BB4.out B h1 h2).setCell (by simp; omega) _).setCell (by simp; omega) _
  have KB : Hid (∀ j, j < w.heap.size → j ≠ nb → W6.heap[j]? = w.heap[j]?) := fun j h1 h2 => by
    rw [← hW6, ← hW5, Below.heap_setCell _ _ _ _ (by simp; omega), Below.heap_setCell _ _ _ _ (by simp; omega), af.block j h2, BB.out.block j h1]
  clear e1 e2 e3 er en f1 f2 f3 fr fn BB BB4 af
  go_wp2_with fail
  refine leaves_cons (f := 37) (args := #[.pointer (some ⟨w.heap.size + 1 + 1, 0, none⟩), .pointer (some ⟨w.heap.size, 0, none⟩), .pointer (some ⟨w.heap.size + 1, 0, none⟩)]) (by simp) (by simp [go_sem]) ?_
  by_cases hc : c = 0
  · subst hc
    refine (def_ok G3.out.cell G1.out.cell GR.out G2.out.cell (HK.out rfl)).mono ?_
    rintro e u' w'' ⟨rfl, rfl, rfl⟩
    have RA : RdAt (W6.setCell ⟨rb, 0, none⟩ (.string (s.extract k s.size))).drew rb (rest s k 0) 0 := by
      show RdAt (W6.setCell ⟨rb, 0, none⟩ (.string (s.extract k s.size))) rb (rest s k 0) 0
      unfold rest; rw [if_pos rfl]; exact GR.out.setRest
    have NA : Num1 (W6.setCell ⟨rb, 0, none⟩ (.string (s.extract k s.size))).drew nb t v' := by
      show Num1 (W6.setCell ⟨rb, 0, none⟩ (.string (s.extract k s.size))) nb t v'
      exact GN.out.other hn
    exact ⟨_, results_none rfl _ _ _, rfl, RA, NA, fun B h1 h2 => below_drewN ((BB6.out B h1 h2).setCell h1 _) 1, fun j h1 h2 h3 => (Below.heap_setCell _ _ _ _ h2).trans (KB.out j h1 h3)⟩
  · refine (def_err G3.out.cell hc G1.out.cell GR.out).mono ?_
    rintro e u' w'' ⟨rfl, rfl, rfl⟩
    have RA : RdAt (W6.setCell ⟨rb, 1, none⟩ (.int .i64 c)) rb (rest s k c) c := by unfold rest; rw [if_neg hc]; exact GR.out.setErr
    have NA : Num1 (W6.setCell ⟨rb, 1, none⟩ (.int .i64 c)) nb t v' := GN.out.other hn
    exact ⟨_, results_none rfl _ _ _, rfl, RA, NA, fun B h1 h2 => (BB6.out B h1 h2).setCell h1 _, fun j h1 h2 h3 => (Below.heap_setCell _ _ _ _ h2).trans (KB.out j h1 h3)⟩
end Go.Proofs.Ytnjednndpphhlaa
