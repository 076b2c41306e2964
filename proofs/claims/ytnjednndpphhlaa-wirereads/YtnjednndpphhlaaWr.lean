/- The reference's Uint, Int, Count and Text. -/
import Derived.Test.YtnjednndpphhlaaWq
namespace Go.Proofs.Ytnjednndpphhlaa
open Go.ChangeShapes Go.WideShapes Go.ChangeAt Go.RowKit Go.Maps Go.WideMaps

theorem next_any {S : ByteArray} {t n k : Nat} {c : Int} (ht : t ≤ S.size) (hs : S.size ≤ 2000) (hp : Parse (T S t) n k c) (w : World) :
    Calls Try.prog 30 #[rv S t 0] w fun en w' => en = .returned (.tuple #[.int .u64 n, .int .i64 k, .int .i64 c]) ∧ Below w.heap.size w w' := by
  refine (next_raw ht hs rfl w).mono ?_
  rintro e w' ⟨n', k', c', h, rfl, b⟩
  obtain ⟨rfl, rfl, rfl⟩ := hp.unique h
  exact ⟨rfl, b⟩
structure Two (w W : World) (S : ByteArray) (t e : Int) : Prop where
  x : X3 W w.heap.size S t e
  y : X3 W (w.heap.size + 1) ⟨#[]⟩ 0 0
  b : Below w.heap.size w W
  z : W.heap.size = w.heap.size + 1 + 1
theorem two_new {w W1 W2 : World} {S : ByteArray} {t e : Int} (h1 : w.alloc (Obj.cells #[.string S, .int .i64 t, .int .i64 e] 32) = W1) (h2 : W1.alloc (Obj.cells #[.string ⟨#[]⟩, .int .i64 0, .int .i64 0] 32) = W2) : Two w W2 S t e := by
  have z1 : W1.heap.size = w.heap.size + 1 := by rw [← h1, World.size_alloc]
  have a := X3.new w S t e
  have b := X3.new W1 ⟨#[]⟩ 0 0
  have b1 := below_alloc w (Obj.cells #[.string S, .int .i64 t, .int .i64 e] 32)
  have b2 := below_alloc W1 (Obj.cells #[.string ⟨#[]⟩, .int .i64 0, .int .i64 0] 32)
  rw [h1] at a b1; rw [h2, z1] at b b2
  exact ⟨a.below b2 (by omega), b, b1.trans (b2.mono (by omega)), by rw [← h2, World.size_alloc, z1]⟩
theorem set_fold {W : World} {b : Nat} {S0 : ByteArray} {t0 e0 : Int} (S : ByteArray) (t e : Int) (y : X3 W b S0 t0 e0) :
    ∃ W9, ((W.setCell ⟨b, 0, none⟩ (.string S)).setCell ⟨b, 1, none⟩ (.int .i64 t)).setCell ⟨b, 2, none⟩ (.int .i64 e) = W9 ∧ X3 W9 b S t e ∧ ∀ B, B ≤ b → Below B W W9 :=
  ⟨_, rfl, y.set, fun _ h => (((Below.refl _ _).setCell h _).setCell h _).setCell h _⟩
theorem runi_err (S : ByteArray) (t e : Int) (he : e ≠ 0) (w : World) : Calls Try.prog 16 #[rv S t e] w fun en w' => en = .returned (.tuple #[rv S t e, .int .u64 0]) ∧ Below w.heap.size w w' := by
  obtain ⟨W1, hW1⟩ : ∃ W1, w.alloc (Obj.cells #[.string S, .int .i64 t, .int .i64 e] 32) = W1 := ⟨_, rfl⟩
  obtain ⟨W2, hW2⟩ : ∃ W2, W1.alloc (Obj.cells #[.string ⟨#[]⟩, .int .i64 0, .int .i64 0] 32) = W2 := ⟨_, rfl⟩
  have tw := two_new hW1 hW2
  have z1 : W1.heap.size = w.heap.size + 1 := by rw [← hW1, World.size_alloc]
  have c0 := tw.x.c0; have c1 := tw.x.c1; have c2 := tw.x.c2
  have d0 := tw.y.c0; have d1 := tw.y.c1; have d2 := tw.y.c2
  have f0 := tw.y.fr (i := 0); have f1 := tw.y.fr (i := 1); have f2 := tw.y.fr (i := 2)
  obtain ⟨W9, hW9, x9, b9⟩ := set_fold S t e tw.y
  have g0 := x9.c0; have g1 := x9.c1; have g2 := x9.c2
  have BB := Lib.hid (tw.b.trans (b9 _ (by omega)))
  have he' : (e != 0) = true := by simpa using he
  clear tw he x9 b9
  go_enter Try.func16, Try.ntmps16
  go_wp2_with fail
  refine bodyPost_ret (by simp [results, Try.results16, go_sem, g0, g1, g2] <;> rfl) rfl ?_
  exact ⟨rfl, BB.out⟩
theorem runi_ok {S : ByteArray} {t n k : Nat} {c : Int} (ht : t ≤ S.size) (hs : S.size ≤ 2000) (hp : Parse (T S t) n k c) (w : World) :
    Calls Try.prog 16 #[rv S t 0] w fun en w' => en = .returned (.tuple #[rv S ((t + k : Nat) : Int) c, .int .u64 n]) ∧ Below w.heap.size w w' := by
  have hk : k ≤ S.size := by have := hp.used.1; rw [t_size ht] at this; omega
  obtain ⟨P, hP⟩ : ∃ P : Nat, t + k = P := ⟨_, rfl⟩
  rw [hP]
  have wp : IntKind.i64.wrap ((t : Int) + (k : Int)) = (P : Int) := by rw [IntKind.wrap_i64]; omega
  have NX := Lib.hid (fun W => next_any ht hs hp W)
  obtain ⟨W1, hW1⟩ : ∃ W1, w.alloc (Obj.cells #[.string S, .int .i64 t, .int .i64 0] 32) = W1 := ⟨_, rfl⟩
  obtain ⟨W2, hW2⟩ : ∃ W2, W1.alloc (Obj.cells #[.string ⟨#[]⟩, .int .i64 0, .int .i64 0] 32) = W2 := ⟨_, rfl⟩
  have tw := two_new hW1 hW2
  have z1 : W1.heap.size = w.heap.size + 1 := by rw [← hW1, World.size_alloc]
  have c0 := tw.x.c0; have c1 := tw.x.c1; have c2 := tw.x.c2
  have TW := Lib.hid tw
  clear tw hP hk ht hs hp
  go_enter Try.func16, Try.ntmps16
  go_wp2_with fail
  refine (NX.out _).mono ?_; rintro e w3 ⟨rfl, b3⟩
  have tx := TW.out.x.below b3 TW.out.x.lt
  have ty := TW.out.y.below b3 TW.out.y.lt
  obtain ⟨W9, hW9, x9, b9⟩ := set_fold S P c ty
  have i0 := tx.c0; have i1 := tx.c1
  have f0 := ty.fr (i := 0); have f1 := ty.fr (i := 1); have f2 := ty.fr (i := 2)
  have d0 := ty.c0; have d1 := ty.c1; have d2 := ty.c2
  have g0 := x9.c0; have g1 := x9.c1; have g2 := x9.c2
  have BB := Lib.hid ((TW.out.b.trans (b3.mono TW.out.b.size)).trans (b9 _ (by omega)))
  clear b3 tx ty x9 b9
  go_wp2_with fail
  refine bodyPost_ret (by simp [results, Try.results16, go_sem, g0, g1, g2] <;> rfl) rfl ?_
  exact ⟨rfl, BB.out⟩
theorem rint_of {v : Value} {S : ByteArray} {t0 t e0 e : Int} {n : Nat} (hv : v = rv S t0 e0) (hn : n < 18446744073709551616)
    (h : ∀ W : World, Calls Try.prog 16 #[v] W fun en w' => en = .returned (.tuple #[rv S t e, .int .u64 n]) ∧ Below W.heap.size W w') (w : World) :
    Calls Try.prog 18 #[v] w fun en w' => en = .returned (.tuple #[rv S t e, .int .i64 (unzz n)]) ∧ Below w.heap.size w w' := by
  subst hv
  have H := Lib.hid h
  obtain ⟨m, hm⟩ : ∃ m : Nat, n / 2 = m := ⟨_, rfl⟩
  have q1 : (n : Int).tdiv 2 = (m : Int) := by rw [Int.tdiv_eq_ediv_of_nonneg (by omega)]; omega
  have q2 : IntKind.u64.wrap (m : Int) = (m : Int) := by rw [IntKind.wrap_u64]; omega
  have q3 : IntKind.i64.wrap (m : Int) = (m : Int) := by rw [IntKind.wrap_i64]; omega
  obtain ⟨W1, hW1⟩ : ∃ W1, w.alloc (Obj.cells #[.string S, .int .i64 t0, .int .i64 e0] 32) = W1 := ⟨_, rfl⟩
  obtain ⟨W2, hW2⟩ : ∃ W2, W1.alloc (Obj.cells #[.string ⟨#[]⟩, .int .i64 0, .int .i64 0] 32) = W2 := ⟨_, rfl⟩
  have tw := two_new hW1 hW2
  have z1 : W1.heap.size = w.heap.size + 1 := by rw [← hW1, World.size_alloc]
  have c0 := tw.x.c0; have c1 := tw.x.c1; have c2 := tw.x.c2
  have TW := Lib.hid tw
  have HM := Lib.hid hm
  have HN := Lib.hid hn
  clear tw h hm hn
  go_enter Try.func18, Try.ntmps18
  go_wp2_with fail
  refine (H.out _).mono ?_; rintro e' w3 ⟨rfl, b3⟩
  have ty := TW.out.y.below b3 TW.out.y.lt
  obtain ⟨W4, hW4⟩ : ∃ W4, w3.alloc (Obj.cells #[.string S, .int .i64 t, .int .i64 e] 32) = W4 := ⟨_, rfl⟩
  have b4 := below_alloc w3 (Obj.cells #[.string S, .int .i64 t, .int .i64 e] 32)
  have x4 := X3.new w3 S t e
  rw [hW4] at b4 x4
  replace ty := ty.below b4 ty.lt
  obtain ⟨W9, hW9, x9, b9⟩ := set_fold S t e ty
  have i0 := x4.c0; have i1 := x4.c1; have i2 := x4.c2
  have f0 := ty.fr (i := 0); have f1 := ty.fr (i := 1); have f2 := ty.fr (i := 2)
  have d0 := ty.c0; have d1 := ty.c1; have d2 := ty.c2
  have g0 := x9.c0; have g1 := x9.c1; have g2 := x9.c2
  have BB := Lib.hid (((TW.out.b.trans (b3.mono TW.out.b.size)).trans (b4.mono (by have := TW.out.b.size; have := b3.size; omega))).trans (b9 _ (by omega)))
  clear b3 ty x9 b9 b4 x4
  by_cases hp : n % 2 = 1
  · have tm : (n : Int).tmod 2 = 1 := by rw [Int.tmod_eq_emod_of_nonneg (by omega)]; omega
    have q4 : IntKind.i64.wrap (-(m : Int)) = -(m : Int) := by have := HN.out; have := HM.out; rw [IntKind.wrap_i64]; omega
    have q5 : IntKind.i64.wrap (-(m : Int) - 1) = -(m : Int) - 1 := by have := HN.out; have := HM.out; rw [IntKind.wrap_i64]; omega
    have hu : unzz n = -(m : Int) - 1 := by rw [unzz, if_pos hp, HM.out]
    have HU := Lib.hid hu
    clear hp hu
    go_wp2_with fail
    refine bodyPost_ret (by simp [results, Try.results18, go_sem, g0, g1, g2] <;> rfl) rfl ?_
    exact ⟨by rw [HU.out], BB.out⟩
  · have tm : (n : Int).tmod 2 = 0 := by rw [Int.tmod_eq_emod_of_nonneg (by omega)]; omega
    have hu : unzz n = (m : Int) := by rw [unzz, if_neg hp, HM.out]
    have HU := Lib.hid hu
    clear hp hu
    go_wp2_with fail
    refine bodyPost_ret (by simp [results, Try.results18, go_sem, g0, g1, g2] <;> rfl) rfl ?_
    exact ⟨by rw [HU.out], BB.out⟩
theorem rcount_err (S : ByteArray) (t e most : Int) (he : e ≠ 0) (w : World) : Calls Try.prog 20 #[rv S t e, .int .i64 most] w fun en w' => en = .returned (.tuple #[rv S t e, .int .i64 0]) ∧ Below w.heap.size w w' := by
  obtain ⟨W1, hW1⟩ : ∃ W1, w.alloc (Obj.cells #[.string S, .int .i64 t, .int .i64 e] 32) = W1 := ⟨_, rfl⟩
  obtain ⟨W2, hW2⟩ : ∃ W2, W1.alloc (Obj.cells #[.string ⟨#[]⟩, .int .i64 0, .int .i64 0] 32) = W2 := ⟨_, rfl⟩
  have tw := two_new hW1 hW2
  have z1 : W1.heap.size = w.heap.size + 1 := by rw [← hW1, World.size_alloc]
  have c0 := tw.x.c0; have c1 := tw.x.c1; have c2 := tw.x.c2
  have d0 := tw.y.c0; have d1 := tw.y.c1; have d2 := tw.y.c2
  have f0 := tw.y.fr (i := 0); have f1 := tw.y.fr (i := 1); have f2 := tw.y.fr (i := 2)
  obtain ⟨W9, hW9, x9, b9⟩ := set_fold S t e tw.y
  have g0 := x9.c0; have g1 := x9.c1; have g2 := x9.c2
  have BB := Lib.hid (tw.b.trans (b9 _ (by omega)))
  have he' : (e != 0) = true := by simpa using he
  clear tw he x9 b9
  go_enter Try.func20, Try.ntmps20
  go_wp2_with fail
  refine bodyPost_ret (by simp [results, Try.results20, go_sem, g0, g1, g2] <;> rfl) rfl ?_
  exact ⟨rfl, BB.out⟩
theorem rcount_ok {S : ByteArray} {t n k : Nat} {c most : Int} (ht : t ≤ S.size) (hs : S.size ≤ 2000) (h0 : -9223372036854775808 ≤ most) (h1 : most ≤ 9223372036854775807) (hp : Parse (T S t) n k c) (w : World) :
    Calls Try.prog 20 #[rv S t 0, .int .i64 most] w fun en w' => en = .returned (.tuple #[rv S ((t + cntK n k c most : Nat) : Int) (cntE n c most), .int .i64 (cntN n c most)]) ∧ Below w.heap.size w w' := by
  have hk : k ≤ S.size := by have := hp.used.1; rw [t_size ht] at this; omega
  have hn : n < 18446744073709551616 := hp.used.2
  have NX := Lib.hid (fun W => next_any ht hs hp W)
  obtain ⟨M, hM⟩ : ∃ M : Nat, max most 0 = (M : Int) := ⟨(max most 0).toNat, by omega⟩
  have m1 : IntKind.u64.wrap (M : Int) = (M : Int) := by rw [IntKind.wrap_u64]; omega
  have hM2 : (if most < 0 then (0 : Int) else most) = (M : Int) := by split <;> omega
  obtain ⟨W1, hW1⟩ : ∃ W1, w.alloc (Obj.cells #[.string S, .int .i64 t, .int .i64 0] 32) = W1 := ⟨_, rfl⟩
  obtain ⟨W2, hW2⟩ : ∃ W2, W1.alloc (Obj.cells #[.string ⟨#[]⟩, .int .i64 0, .int .i64 0] 32) = W2 := ⟨_, rfl⟩
  have tw := two_new hW1 hW2
  have z1 : W1.heap.size = w.heap.size + 1 := by rw [← hW1, World.size_alloc]
  have c0 := tw.x.c0; have c1 := tw.x.c1; have c2 := tw.x.c2
  have TW := Lib.hid tw
  have HN := Lib.hid hn
  clear tw hp
  by_cases good : c = 0 ∧ n ≤ M
  · obtain ⟨rfl, hnM⟩ := good
    have e1 : cntK n k 0 most = k := by unfold cntK; rw [if_pos ⟨rfl, by omega⟩]
    have e2 : cntE n 0 most = 0 := by unfold cntE; rw [if_pos rfl, if_pos (by omega)]
    have e3 : cntN n 0 most = n := by unfold cntN; rw [if_pos ⟨rfl, by omega⟩]
    rw [e1, e2, e3]
    obtain ⟨P, hP⟩ : ∃ P : Nat, t + k = P := ⟨_, rfl⟩
    rw [hP]
    have wp : IntKind.i64.wrap ((t : Int) + (k : Int)) = (P : Int) := by rw [IntKind.wrap_i64]; omega
    have wn : IntKind.i64.wrap (n : Int) = (n : Int) := by rw [IntKind.wrap_i64]; omega
    have hnM' : ¬ ((M : Int) < (n : Int)) := by omega
    clear hP hk ht hs e1 e2 e3 hn h0 h1
    go_enter Try.func20, Try.ntmps20
    go_wp2_with fail
    refine (NX.out _).mono ?_; rintro e w3 ⟨rfl, b3⟩
    have tx := TW.out.x.below b3 TW.out.x.lt
    have ty := TW.out.y.below b3 TW.out.y.lt
    obtain ⟨W9, hW9, x9, b9⟩ := set_fold S P 0 ty
    have i0 := tx.c0; have i1 := tx.c1
    have f0 := ty.fr (i := 0); have f1 := ty.fr (i := 1); have f2 := ty.fr (i := 2)
    have d0 := ty.c0; have d1 := ty.c1; have d2 := ty.c2
    have g0 := x9.c0; have g1 := x9.c1; have g2 := x9.c2
    have BB := Lib.hid ((TW.out.b.trans (b3.mono TW.out.b.size)).trans (b9 _ (by omega)))
    clear b3 tx ty x9 b9
    go_wp2_with fail
    refine bodyPost_ret (by simp [results, Try.results20, go_sem, g0, g1, g2] <;> rfl) rfl ?_
    exact ⟨rfl, BB.out⟩
  · have e1 : cntK n k c most = 0 := by unfold cntK; rw [if_neg (by omega)]
    have e3 : cntN n c most = 0 := by unfold cntN; rw [if_neg (by omega)]
    rw [e1, e3, Nat.add_zero]
    by_cases hc : c = 0
    · subst hc
      have hnM : M < n := by omega
      have e2 : cntE n 0 most = 5 := by unfold cntE; rw [if_pos rfl, if_neg (by omega)]
      rw [e2]
      clear hk ht hs e1 e2 e3 hn h0 h1 good
      go_enter Try.func20, Try.ntmps20
      go_wp2_with fail
      refine (NX.out _).mono ?_; rintro e w3 ⟨rfl, b3⟩
      have tx := TW.out.x.below b3 TW.out.x.lt
      have ty := TW.out.y.below b3 TW.out.y.lt
      obtain ⟨W9, hW9, x9, b9⟩ := set_fold S t 5 ty
      have i0 := tx.c0; have i1 := tx.c1
      have f0 := ty.fr (i := 0); have f1 := ty.fr (i := 1); have f2 := ty.fr (i := 2)
      have d0 := ty.c0; have d1 := ty.c1; have d2 := ty.c2
      have g0 := x9.c0; have g1 := x9.c1; have g2 := x9.c2
      have BB := Lib.hid ((TW.out.b.trans (b3.mono TW.out.b.size)).trans (b9 _ (by omega)))
      clear b3 tx ty x9 b9
      go_wp2_with fail
      refine bodyPost_ret (by simp [results, Try.results20, go_sem, g0, g1, g2] <;> rfl) rfl ?_
      exact ⟨rfl, BB.out⟩
    · have e2 : cntE n c most = c := by unfold cntE; rw [if_neg hc]
      rw [e2]
      have hc' : (c == 0) = false := by simpa using hc
      have hc'' : (c != 0) = true := by simpa using hc
      clear hk ht hs e1 e2 e3 hn h0 h1 good
      go_enter Try.func20, Try.ntmps20
      go_wp2_with fail
      refine (NX.out _).mono ?_; rintro e w3 ⟨rfl, b3⟩
      have tx := TW.out.x.below b3 TW.out.x.lt
      have ty := TW.out.y.below b3 TW.out.y.lt
      obtain ⟨W9, hW9, x9, b9⟩ := set_fold S t c ty
      have i0 := tx.c0; have i1 := tx.c1
      have f0 := ty.fr (i := 0); have f1 := ty.fr (i := 1); have f2 := ty.fr (i := 2)
      have d0 := ty.c0; have d1 := ty.c1; have d2 := ty.c2
      have g0 := x9.c0; have g1 := x9.c1; have g2 := x9.c2
      have BB := Lib.hid ((TW.out.b.trans (b3.mono TW.out.b.size)).trans (b9 _ (by omega)))
      clear b3 tx ty x9 b9
      go_wp2_with fail
      refine bodyPost_ret (by simp [results, Try.results20, go_sem, g0, g1, g2] <;> rfl) rfl ?_
      exact ⟨rfl, BB.out⟩
end Go.Proofs.Ytnjednndpphhlaa
