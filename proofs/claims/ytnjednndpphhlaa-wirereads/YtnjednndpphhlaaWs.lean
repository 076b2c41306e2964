/- The reference's Text. -/
import Derived.Test.YtnjednndpphhlaaWr
import Derived.Deep.RegionHeld
import Derived.Deep.RegionWith
import Derived.Deep.RegionHeld3
import Derived.Deep.DrawnRows
namespace Go.Proofs.Ytnjednndpphhlaa
open Go.ChangeShapes Go.WideShapes Go.ChangeAt Go.RowKit Go.Maps Go.WideMaps

theorem set_keep {W W9 : World} {b b' : Nat} {S S' : ByteArray} {t e t' e' : Int} (h : ((W.setCell ⟨b, 0, none⟩ (.string S)).setCell ⟨b, 1, none⟩ (.int .i64 t)).setCell ⟨b, 2, none⟩ (.int .i64 e) = W9) (hn : b' ≠ b) (x : X3 W b' S' t' e') : X3 W9 b' S' t' e' := by
  rw [← h]; exact ((x.other hn).other hn).other hn
theorem rtext_e {S : ByteArray} {t0 e0 t e most : Int} {n : Int} (he : e ≠ 0)
    (h : ∀ W : World, Calls Try.prog 20 #[rv S t0 e0, .int .i64 most] W fun en w' => en = .returned (.tuple #[rv S t e, .int .i64 n]) ∧ Below W.heap.size W w') (w : World) :
    Calls Try.prog 22 #[rv S t0 e0, .int .i64 most] w fun en w' => en = .returned (.tuple #[rv S t e, .string ⟨#[]⟩]) ∧ Below w.heap.size w w' := by
  have H := Lib.hid h
  obtain ⟨W1, hW1⟩ : ∃ W1, w.alloc (Obj.cells #[.string S, .int .i64 t0, .int .i64 e0] 32) = W1 := ⟨_, rfl⟩
  obtain ⟨W2, hW2⟩ : ∃ W2, W1.alloc (Obj.cells #[.string ⟨#[]⟩, .int .i64 0, .int .i64 0] 32) = W2 := ⟨_, rfl⟩
  have tw := two_new hW1 hW2
  have z1 : W1.heap.size = w.heap.size + 1 := by rw [← hW1, World.size_alloc]
  have c0 := tw.x.c0; have c1 := tw.x.c1; have c2 := tw.x.c2
  have TW := Lib.hid tw
  clear tw h
  go_enter Try.func22, Try.ntmps22
  go_wp2_with fail
  refine (H.out _).mono ?_; rintro e' w3 ⟨rfl, b3⟩
  have tx := TW.out.x.below b3 TW.out.x.lt
  have ty := TW.out.y.below b3 TW.out.y.lt
  obtain ⟨W4, hW4⟩ : ∃ W4, w3.alloc (Obj.cells #[.string ⟨#[]⟩, .int .i64 0, .int .i64 0] 32) = W4 := ⟨_, rfl⟩
  have b4 := below_alloc w3 (Obj.cells #[.string ⟨#[]⟩, .int .i64 0, .int .i64 0] 32)
  have x4 := X3.new w3 ⟨#[]⟩ 0 0
  rw [hW4] at b4 x4
  obtain ⟨W5, hW5, x5, b5⟩ := set_fold S t e x4
  have h0 := x4.fr (i := 0); have h1 := x4.fr (i := 1); have h2 := x4.fr (i := 2)
  have k40 := x4.c0; have k41 := x4.c1; have k42 := x4.c2
  replace tx := (tx.below b4 tx.lt).below (b5 _ (Nat.le_refl _)) tx.lt
  replace ty := (ty.below b4 ty.lt).below (b5 _ (Nat.le_refl _)) ty.lt
  have B4 := ((TW.out.b.trans (b3.mono TW.out.b.size)).trans (b4.mono (by have := TW.out.b.size; have := b3.size; omega))).trans (b5 w.heap.size (by have := TW.out.b.size; have := b3.size; omega))
  have i0 := x5.c0; have i1 := x5.c1; have i2 := x5.c2
  have f0 := ty.fr (i := 0); have f1 := ty.fr (i := 1); have f2 := ty.fr (i := 2)
  have d0 := ty.c0; have d1 := ty.c1; have d2 := ty.c2
  clear b3 b4 b5 x5
  obtain ⟨W9, hW9, x9, b9⟩ := set_fold S t e ty
  have g0 := x9.c0; have g1 := x9.c1; have g2 := x9.c2
  have BB := Lib.hid (B4.trans (b9 _ (by omega)))
  have he' : (e != 0) = true := by simpa using he
  clear ty x9 b9 x4 B4 tx he
  go_wp2_with fail
  refine bodyPost_ret (by simp [results, Try.results22, go_sem, g0, g1, g2] <;> rfl) rfl ?_
  exact ⟨rfl, BB.out⟩
theorem rtext_short {S : ByteArray} {t0 e0 most : Int} {t n : Nat} (ht : t ≤ S.size) (hs : S.size ≤ 2000) (hn : S.size - t < n)
    (h : ∀ W : World, Calls Try.prog 20 #[rv S t0 e0, .int .i64 most] W fun en w' => en = .returned (.tuple #[rv S t 0, .int .i64 n]) ∧ Below W.heap.size W w') (w : World) :
    Calls Try.prog 22 #[rv S t0 e0, .int .i64 most] w fun en w' => en = .returned (.tuple #[rv S t0 3, .string ⟨#[]⟩]) ∧ Below w.heap.size w w' := by
  obtain ⟨L, hL⟩ : ∃ L, S.size = L := ⟨_, rfl⟩
  rw [hL] at ht hs hn
  obtain ⟨D, hD⟩ : ∃ D : Nat, L - t = D := ⟨_, rfl⟩
  have wd : IntKind.i64.wrap ((L : Int) - (t : Int)) = (D : Int) := by rw [IntKind.wrap_i64]; omega
  have hDn : D < n := by omega
  clear hD ht hs hn
  have H := Lib.hid h
  obtain ⟨W1, hW1⟩ : ∃ W1, w.alloc (Obj.cells #[.string S, .int .i64 t0, .int .i64 e0] 32) = W1 := ⟨_, rfl⟩
  obtain ⟨W2, hW2⟩ : ∃ W2, W1.alloc (Obj.cells #[.string ⟨#[]⟩, .int .i64 0, .int .i64 0] 32) = W2 := ⟨_, rfl⟩
  have tw := two_new hW1 hW2
  have z1 : W1.heap.size = w.heap.size + 1 := by rw [← hW1, World.size_alloc]
  have c0 := tw.x.c0; have c1 := tw.x.c1; have c2 := tw.x.c2
  have TW := Lib.hid tw
  clear tw h
  go_enter Try.func22, Try.ntmps22
  go_wp2_with fail
  refine (H.out _).mono ?_; rintro e' w3 ⟨rfl, b3⟩
  have tx := TW.out.x.below b3 TW.out.x.lt
  have ty := TW.out.y.below b3 TW.out.y.lt
  obtain ⟨W4, hW4⟩ : ∃ W4, w3.alloc (Obj.cells #[.string ⟨#[]⟩, .int .i64 0, .int .i64 0] 32) = W4 := ⟨_, rfl⟩
  have b4 := below_alloc w3 (Obj.cells #[.string ⟨#[]⟩, .int .i64 0, .int .i64 0] 32)
  have x4 := X3.new w3 ⟨#[]⟩ 0 0
  rw [hW4] at b4 x4
  obtain ⟨W5, hW5, x5, b5⟩ := set_fold S t 0 x4
  have h0 := x4.fr (i := 0); have h1 := x4.fr (i := 1); have h2 := x4.fr (i := 2)
  have k40 := x4.c0; have k41 := x4.c1; have k42 := x4.c2
  replace tx := (tx.below b4 tx.lt).below (b5 _ (Nat.le_refl _)) tx.lt
  replace ty := (ty.below b4 ty.lt).below (b5 _ (Nat.le_refl _)) ty.lt
  have B4 := ((TW.out.b.trans (b3.mono TW.out.b.size)).trans (b4.mono (by have := TW.out.b.size; have := b3.size; omega))).trans (b5 w.heap.size (by have := TW.out.b.size; have := b3.size; omega))
  have i0 := x5.c0; have i1 := x5.c1; have i2 := x5.c2
  have f0 := ty.fr (i := 0); have f1 := ty.fr (i := 1); have f2 := ty.fr (i := 2)
  have d0 := ty.c0; have d1 := ty.c1; have d2 := ty.c2
  clear b3 b4 b5 x5
  obtain ⟨W9, hW9, x9, b9⟩ := set_fold S t0 3 ty
  have g0 := x9.c0; have g1 := x9.c1; have g2 := x9.c2
  have BB := Lib.hid (B4.trans (b9 _ (by omega)))
  have j0 := tx.c0; have j1 := tx.c1
  clear ty x9 b9 x4 B4 tx
  go_wp2_with fail
  refine bodyPost_ret (by simp [results, Try.results22, go_sem, g0, g1, g2] <;> rfl) rfl ?_
  exact ⟨rfl, BB.out⟩
set_option maxHeartbeats 2000000 in
theorem rtext_fit {S : ByteArray} {t0 e0 most : Int} {t n : Nat} (hs : S.size ≤ 2000) (hn : t + n ≤ S.size)
    (h : ∀ W : World, Calls Try.prog 20 #[rv S t0 e0, .int .i64 most] W fun en w' => en = .returned (.tuple #[rv S t 0, .int .i64 n]) ∧ Below W.heap.size W w') (w : World) :
    Calls Try.prog 22 #[rv S t0 e0, .int .i64 most] w fun en w' => en = .returned (.tuple #[rv S ((t + n : Nat) : Int) 0, .string (S.extract t (t + n))]) ∧ Below w.heap.size w w' := by
  obtain ⟨L, hL⟩ : ∃ L, S.size = L := ⟨_, rfl⟩
  rw [hL] at hs hn
  obtain ⟨D, hD⟩ : ∃ D : Nat, L - t = D := ⟨_, rfl⟩
  have wd : IntKind.i64.wrap ((L : Int) - (t : Int)) = (D : Int) := by rw [IntKind.wrap_i64]; omega
  have hDn : n ≤ D := by omega
  obtain ⟨P, hP⟩ : ∃ P : Nat, t + n = P := ⟨_, rfl⟩
  rw [hP]
  have wp : IntKind.i64.wrap ((t : Int) + (n : Int)) = (P : Int) := by rw [IntKind.wrap_i64]; omega
  have k0 : (t : Int) ≤ (P : Int) := by omega
  have k1 : (P : Int) ≤ (L : Int) := by omega
  have k2 : t ≤ P := by omega
  have k3 : P ≤ L := by omega
  clear hD hs hn hP
  have H := Lib.hid h
  obtain ⟨W1, hW1⟩ : ∃ W1, w.alloc (Obj.cells #[.string S, .int .i64 t0, .int .i64 e0] 32) = W1 := ⟨_, rfl⟩
  obtain ⟨W2, hW2⟩ : ∃ W2, W1.alloc (Obj.cells #[.string ⟨#[]⟩, .int .i64 0, .int .i64 0] 32) = W2 := ⟨_, rfl⟩
  have tw := two_new hW1 hW2
  have z1 : W1.heap.size = w.heap.size + 1 := by rw [← hW1, World.size_alloc]
  have c0 := tw.x.c0; have c1 := tw.x.c1; have c2 := tw.x.c2
  have TW := Lib.hid tw
  clear tw h
  go_enter Try.func22, Try.ntmps22
  go_wp2_with fail
  refine (H.out _).mono ?_; rintro e' w3 ⟨rfl, b3⟩
  have tx := TW.out.x.below b3 TW.out.x.lt
  have ty := TW.out.y.below b3 TW.out.y.lt
  obtain ⟨W4, hW4⟩ : ∃ W4, w3.alloc (Obj.cells #[.string ⟨#[]⟩, .int .i64 0, .int .i64 0] 32) = W4 := ⟨_, rfl⟩
  have b4 := below_alloc w3 (Obj.cells #[.string ⟨#[]⟩, .int .i64 0, .int .i64 0] 32)
  have x4 := X3.new w3 ⟨#[]⟩ 0 0
  rw [hW4] at b4 x4
  obtain ⟨W5, hW5, x5, b5⟩ := set_fold S t 0 x4
  have h0 := x4.fr (i := 0); have h1 := x4.fr (i := 1); have h2 := x4.fr (i := 2)
  have k40 := x4.c0; have k41 := x4.c1; have k42 := x4.c2
  replace tx := (tx.below b4 tx.lt).below (b5 _ (Nat.le_refl _)) tx.lt
  replace ty := (ty.below b4 ty.lt).below (b5 _ (Nat.le_refl _)) ty.lt
  have B4 := ((TW.out.b.trans (b3.mono TW.out.b.size)).trans (b4.mono (by have := TW.out.b.size; have := b3.size; omega))).trans (b5 w.heap.size (by have := TW.out.b.size; have := b3.size; omega))
  have i0 := x5.c0; have i1 := x5.c1; have i2 := x5.c2
  have f0 := ty.fr (i := 0); have f1 := ty.fr (i := 1); have f2 := ty.fr (i := 2)
  have d0 := ty.c0; have d1 := ty.c1; have d2 := ty.c2
  have zz0 : w.heap.size + 1 < w3.heap.size := by have := TW.out.z; have := b3.size; omega
  clear b3 b4 b5
  obtain ⟨W9, hW9, x9, b9⟩ := set_fold S P 0 ty
  have g0 := x9.c0; have g1 := x9.c1; have g2 := x9.c2
  have BB := Lib.hid (B4.trans (b9 _ (by omega)))
  have j0 := tx.c0; have j1 := tx.c1
  have y9 := set_keep hW9 (by omega) x5
  have u9 := set_keep hW9 (by omega) tx
  have v0 := y9.c0; have v1 := y9.c1; have v2 := y9.c2
  have s0 := u9.c0; have s1 := u9.c1; have s2 := u9.c2
  clear ty x9 b9 x4 B4 tx x5 y9 u9 zz0
  go_wp2_with fail
  go_region
  all_goals go_wp2_with fail
  all_goals refine bodyPost_ret (by simp [results, Try.results22, go_sem, g0, g1, g2] <;> rfl) rfl ?_
  all_goals exact ⟨rfl, BB.out.drew⟩
end Go.Proofs.Ytnjednndpphhlaa
