/- seg: the walk of SegSymmetry. -/
import Derived.Test.YtfabfnjfnildhaaSr
import Derived.Test.YtfabfnjfnildhaaSo
namespace Go.Proofs.Ytfabfnjfnildhaa
open Go.ChangeShapes Go.WideShapes Go.ChangeAt Go.RowKit Go.Joins Go.Deep

set_option maxRecDepth 100000 in
set_option maxHeartbeats 4000000 in
theorem segSymmetry_walk (vs vt : Value) (w : World) (hs : IsSg vs) (ht : IsSg vt) : Calls Try.prog 6 #[vs, vt] w fun e w' => e = .returned (.bool true) ∧ Below w.heap.size w w' := by
  obtain ⟨a, b, c, d, rfl, _, _, _, _⟩ := hs
  obtain ⟨e, f, g, h, rfl, _, _, _, _⟩ := ht
  obtain ⟨R, hR⟩ : ∃ R, relF a b c d e f g h = R := ⟨_, rfl⟩
  have C1 : Hid (∀ W : World, Calls Try.prog 25 #[sg a b c d, sg e f g h] W fun e' w' => e' = .returned (.int .i64 R) ∧ Below W.heap.size W w') := by rw [← hR]; exact fun W => relate_any a b c d e f g h W
  have C2 : Hid (∀ W : World, Calls Try.prog 25 #[sg e f g h, sg a b c d] W fun e' w' => e' = .returned (.int .i64 R) ∧ Below W.heap.size W w') := by rw [← hR, ← rel_sym]; exact fun W => relate_any e f g h a b c d W
  have C3 : Hid (∀ W : World, Calls Try.prog 25 #[sg c d a b, sg e f g h] W fun e' w' => e' = .returned (.int .i64 R) ∧ Below W.heap.size W w') := by rw [← hR, ← rel_bk]; exact fun W => relate_any c d a b e f g h W
  have C4 : Hid (∀ W : World, Calls Try.prog 25 #[sg e f g h, sg c d a b] W fun e' w' => e' = .returned (.int .i64 R) ∧ Below W.heap.size W w') := by rw [← hR, ← rel_bk, ← rel_sym]; exact fun W => relate_any e f g h c d a b W
  have r0 : 0 ≤ R := by rw [← hR]; exact (rel_range _ _ _ _ _ _ _ _).1
  have r3 : R ≤ 3 := by rw [← hR]; exact (rel_range _ _ _ _ _ _ _ _).2
  clear hR
  obtain ⟨W1, hW1⟩ : ∃ W1, w.alloc (Obj.cells #[.int .i64 a, .int .i64 b, .int .i64 c, .int .i64 d] 25) = W1 := ⟨_, rfl⟩
  obtain ⟨W2, hW2⟩ : ∃ W2, W1.alloc (Obj.cells #[.int .i64 e, .int .i64 f, .int .i64 g, .int .i64 h] 25) = W2 := ⟨_, rfl⟩
  have z1 : W1.heap.size = w.heap.size + 1 := by rw [← hW1, World.size_alloc]
  have g1 := G4.new w a b c d
  have g2 := G4.new W1 e f g h
  have b1 : Below w.heap.size w W1 := by rw [← hW1]; exact (Below.refl _ _).alloc (Nat.le_refl _) _
  have b2 : Below W1.heap.size W1 W2 := by rw [← hW2]; exact (Below.refl _ _).alloc (Nat.le_refl _) _
  rw [hW1] at g1; rw [hW2, z1] at g2
  have GA := Lib.hid (g1.below b2 g1.lt); have GB := Lib.hid g2
  have BX := Lib.hid (b1.trans (b2.mono (by omega)))
  clear g1 g2 b1 b2
  have c0 := GA.out.c0; have c1 := GA.out.c1; have c2 := GA.out.c2; have c3 := GA.out.c3
  have d0 := GB.out.c0; have d1 := GB.out.c1; have d2 := GB.out.c2; have d3 := GB.out.c3
  go_enter Try.func6, Try.ntmps6
  go_wp2_with fail
  refine (C1.out _).mono ?_; rintro e0 w5 ⟨rfl, hb⟩
  replace GA := Lib.hid (GA.out.below hb GA.out.lt); replace GB := Lib.hid (GB.out.below hb GB.out.lt)
  replace BX := Lib.hid (BX.out.trans (hb.mono BX.out.size))
  clear hb c0 c1 c2 c3 d0 d1 d2 d3
  have c0 := GA.out.c0; have c1 := GA.out.c1; have c2 := GA.out.c2; have c3 := GA.out.c3
  have d0 := GB.out.c0; have d1 := GB.out.c1; have d2 := GB.out.c2; have d3 := GB.out.c3
  obtain ⟨W4, hW4⟩ : ∃ W4, w5.alloc (Obj.cells #[.int .i64 0, .int .i64 0, .int .i64 0, .int .i64 0] 25) = W4 := ⟨_, rfl⟩
  have b4 : Below w5.heap.size w5 W4 := by rw [← hW4]; exact (Below.refl _ _).alloc (Nat.le_refl _) _
  have x4 := G4.new w5 0 0 0 0
  rw [hW4] at x4
  have m0 := x4.c0; have m1 := x4.c1; have m2 := x4.c2; have m3 := x4.c3
  have f0 := x4.fr (i := 0); have f1 := x4.fr (i := 1); have f2 := x4.fr (i := 2); have f3 := x4.fr (i := 3)
  obtain ⟨W6, hW6, x6, b6, _⟩ := g4_fold c d a b x4
  have zz : w.heap.size ≤ w5.heap.size := BX.out.size
  have bb := b4.trans (b6 w5.heap.size (Nat.le_refl _))
  replace GA := Lib.hid (GA.out.below bb GA.out.lt); replace GB := Lib.hid (GB.out.below bb GB.out.lt)
  replace BX := Lib.hid (BX.out.trans (bb.mono zz))
  have GC := Lib.hid x6
  have q0 := GA.out.c0; have q1 := GA.out.c1; have q2 := GA.out.c2; have q3 := GA.out.c3
  have s0 := GB.out.c0; have s1 := GB.out.c1; have s2 := GB.out.c2; have s3 := GB.out.c3
  have k0 := GC.out.c0; have k1 := GC.out.c1; have k2 := GC.out.c2; have k3 := GC.out.c3
  clear b4 x4 b6 bb zz x6
  go_wp2_with fail
  refine (C2.out _).mono ?_; rintro e0 w7 ⟨rfl, hb⟩
  replace GA := Lib.hid (GA.out.below hb GA.out.lt); replace GB := Lib.hid (GB.out.below hb GB.out.lt); replace GC := Lib.hid (GC.out.below hb GC.out.lt)
  replace BX := Lib.hid (BX.out.trans (hb.mono BX.out.size))
  clear hb c0 c1 c2 c3 d0 d1 d2 d3 k0 k1 k2 k3 q0 q1 q2 q3 s0 s1 s2 s3 f0 f1 f2 f3 m0 m1 m2 m3
  have c0 := GA.out.c0; have c1 := GA.out.c1; have c2 := GA.out.c2; have c3 := GA.out.c3
  have d0 := GB.out.c0; have d1 := GB.out.c1; have d2 := GB.out.c2; have d3 := GB.out.c3
  have k0 := GC.out.c0; have k1 := GC.out.c1; have k2 := GC.out.c2; have k3 := GC.out.c3
  go_wp2_with fail
  refine (C3.out _).mono ?_; rintro e0 w5 ⟨rfl, hb⟩
  replace GA := Lib.hid (GA.out.below hb GA.out.lt); replace GB := Lib.hid (GB.out.below hb GB.out.lt); replace GC := Lib.hid (GC.out.below hb GC.out.lt)
  replace BX := Lib.hid (BX.out.trans (hb.mono BX.out.size))
  clear hb c0 c1 c2 c3 d0 d1 d2 d3 k0 k1 k2 k3
  have c0 := GA.out.c0; have c1 := GA.out.c1; have c2 := GA.out.c2; have c3 := GA.out.c3
  have d0 := GB.out.c0; have d1 := GB.out.c1; have d2 := GB.out.c2; have d3 := GB.out.c3
  have k0 := GC.out.c0; have k1 := GC.out.c1; have k2 := GC.out.c2; have k3 := GC.out.c3
  go_wp2_with fail
  refine (C4.out _).mono ?_; rintro e0 w5 ⟨rfl, hb⟩
  replace GA := Lib.hid (GA.out.below hb GA.out.lt); replace GB := Lib.hid (GB.out.below hb GB.out.lt); replace GC := Lib.hid (GC.out.below hb GC.out.lt)
  replace BX := Lib.hid (BX.out.trans (hb.mono BX.out.size))
  clear hb c0 c1 c2 c3 d0 d1 d2 d3 k0 k1 k2 k3
  have c0 := GA.out.c0; have c1 := GA.out.c1; have c2 := GA.out.c2; have c3 := GA.out.c3
  have d0 := GB.out.c0; have d1 := GB.out.c1; have d2 := GB.out.c2; have d3 := GB.out.c3
  have k0 := GC.out.c0; have k1 := GC.out.c1; have k2 := GC.out.c2; have k3 := GC.out.c3
  go_wp2_with fail
  refine (validr_any a b _).mono ?_; rintro e0 w5 ⟨rfl, hb⟩
  replace GA := Lib.hid (GA.out.below hb GA.out.lt); replace GB := Lib.hid (GB.out.below hb GB.out.lt); replace GC := Lib.hid (GC.out.below hb GC.out.lt)
  replace BX := Lib.hid (BX.out.trans (hb.mono BX.out.size))
  clear hb c0 c1 c2 c3 d0 d1 d2 d3 k0 k1 k2 k3
  have c0 := GA.out.c0; have c1 := GA.out.c1; have c2 := GA.out.c2; have c3 := GA.out.c3
  have d0 := GB.out.c0; have d1 := GB.out.c1; have d2 := GB.out.c2; have d3 := GB.out.c3
  have k0 := GC.out.c0; have k1 := GC.out.c1; have k2 := GC.out.c2; have k3 := GC.out.c3
  obtain ⟨va, hva⟩ : ∃ va, vldB a b = va := ⟨_, rfl⟩
  rw [hva]
  have HVA := Lib.hid hva; clear hva
  cases va
  · skip
    go_wp2_with fail
    refine (lives_any _).mono ?_; rintro e0 w9 ⟨rfl, hb⟩
    replace BX := Lib.hid (BX.out.trans (hb.mono BX.out.size))
    clear hb
    go_wp2_with fail
    go_ret
    exact ⟨rfl, BX.out⟩
  go_wp2_with fail
  refine (validr_any c d _).mono ?_; rintro e0 w5 ⟨rfl, hb⟩
  replace GA := Lib.hid (GA.out.below hb GA.out.lt); replace GB := Lib.hid (GB.out.below hb GB.out.lt); replace GC := Lib.hid (GC.out.below hb GC.out.lt)
  replace BX := Lib.hid (BX.out.trans (hb.mono BX.out.size))
  clear hb c0 c1 c2 c3 d0 d1 d2 d3 k0 k1 k2 k3
  have c0 := GA.out.c0; have c1 := GA.out.c1; have c2 := GA.out.c2; have c3 := GA.out.c3
  have d0 := GB.out.c0; have d1 := GB.out.c1; have d2 := GB.out.c2; have d3 := GB.out.c3
  have k0 := GC.out.c0; have k1 := GC.out.c1; have k2 := GC.out.c2; have k3 := GC.out.c3
  obtain ⟨vc, hvc⟩ : ∃ vc, vldB c d = vc := ⟨_, rfl⟩
  rw [hvc]
  have HVC := Lib.hid hvc; clear hvc
  cases vc
  · skip
    go_wp2_with fail
    refine (lives_any _).mono ?_; rintro e0 w9 ⟨rfl, hb⟩
    replace BX := Lib.hid (BX.out.trans (hb.mono BX.out.size))
    clear hb
    go_wp2_with fail
    go_ret
    exact ⟨rfl, BX.out⟩
  by_cases n1 : a = c
  · obtain rfl := n1
    by_cases n2 : b = d
    · obtain rfl := n2
      go_wp2_with fail
      refine (lives_any _).mono ?_; rintro e0 w9 ⟨rfl, hb⟩
      replace BX := Lib.hid (BX.out.trans (hb.mono BX.out.size))
      clear hb
      go_wp2_with fail
      go_ret
      exact ⟨rfl, BX.out⟩
    · skip
      have C5 : Hid (∀ W : World, Calls Try.prog 25 #[sg a b a d, sg a b a d] W fun e' w' => e' = .returned (.int .i64 3) ∧ Below W.heap.size W w') := by
        have := rel_self HVA.out HVC.out (fun h => n2 h.2); rw [← this]; exact fun W => relate_any a b a d a b a d W
      have C6 : Hid (∀ W : World, Calls Try.prog 25 #[sg a b a d, sg a d a b] W fun e' w' => e' = .returned (.int .i64 3) ∧ Below W.heap.size W w') := by
        have := rel_self HVA.out HVC.out (fun h => n2 h.2); rw [← this, ← rel_bk, ← rel_sym]; exact fun W => relate_any a b a d a d a b W
      go_wp2_with fail
      refine (C5.out _).mono ?_; rintro e0 w5 ⟨rfl, hb⟩
      replace GA := Lib.hid (GA.out.below hb GA.out.lt); replace GB := Lib.hid (GB.out.below hb GB.out.lt); replace GC := Lib.hid (GC.out.below hb GC.out.lt)
      replace BX := Lib.hid (BX.out.trans (hb.mono BX.out.size))
      clear hb c0 c1 c2 c3 d0 d1 d2 d3 k0 k1 k2 k3
      have c0 := GA.out.c0; have c1 := GA.out.c1; have c2 := GA.out.c2; have c3 := GA.out.c3
      have d0 := GB.out.c0; have d1 := GB.out.c1; have d2 := GB.out.c2; have d3 := GB.out.c3
      have k0 := GC.out.c0; have k1 := GC.out.c1; have k2 := GC.out.c2; have k3 := GC.out.c3
      go_wp2_with fail
      refine (C6.out _).mono ?_; rintro e0 w5 ⟨rfl, hb⟩
      replace GA := Lib.hid (GA.out.below hb GA.out.lt); replace GB := Lib.hid (GB.out.below hb GB.out.lt); replace GC := Lib.hid (GC.out.below hb GC.out.lt)
      replace BX := Lib.hid (BX.out.trans (hb.mono BX.out.size))
      clear hb c0 c1 c2 c3 d0 d1 d2 d3 k0 k1 k2 k3
      have c0 := GA.out.c0; have c1 := GA.out.c1; have c2 := GA.out.c2; have c3 := GA.out.c3
      have d0 := GB.out.c0; have d1 := GB.out.c1; have d2 := GB.out.c2; have d3 := GB.out.c3
      have k0 := GC.out.c0; have k1 := GC.out.c1; have k2 := GC.out.c2; have k3 := GC.out.c3
      go_wp2_with fail
      refine (lives_any _).mono ?_; rintro e0 w9 ⟨rfl, hb⟩
      replace BX := Lib.hid (BX.out.trans (hb.mono BX.out.size))
      clear hb
      go_wp2_with fail
      go_ret
      exact ⟨rfl, BX.out⟩
  · skip
    have C5 : Hid (∀ W : World, Calls Try.prog 25 #[sg a b c d, sg a b c d] W fun e' w' => e' = .returned (.int .i64 3) ∧ Below W.heap.size W w') := by
      have := rel_self HVA.out HVC.out (fun h => n1 h.1); rw [← this]; exact fun W => relate_any a b c d a b c d W
    have C6 : Hid (∀ W : World, Calls Try.prog 25 #[sg a b c d, sg c d a b] W fun e' w' => e' = .returned (.int .i64 3) ∧ Below W.heap.size W w') := by
      have := rel_self HVA.out HVC.out (fun h => n1 h.1); rw [← this, ← rel_bk, ← rel_sym]; exact fun W => relate_any a b c d c d a b W
    go_wp2_with fail
    refine (C5.out _).mono ?_; rintro e0 w5 ⟨rfl, hb⟩
    replace GA := Lib.hid (GA.out.below hb GA.out.lt); replace GB := Lib.hid (GB.out.below hb GB.out.lt); replace GC := Lib.hid (GC.out.below hb GC.out.lt)
    replace BX := Lib.hid (BX.out.trans (hb.mono BX.out.size))
    clear hb c0 c1 c2 c3 d0 d1 d2 d3 k0 k1 k2 k3
    have c0 := GA.out.c0; have c1 := GA.out.c1; have c2 := GA.out.c2; have c3 := GA.out.c3
    have d0 := GB.out.c0; have d1 := GB.out.c1; have d2 := GB.out.c2; have d3 := GB.out.c3
    have k0 := GC.out.c0; have k1 := GC.out.c1; have k2 := GC.out.c2; have k3 := GC.out.c3
    go_wp2_with fail
    refine (C6.out _).mono ?_; rintro e0 w5 ⟨rfl, hb⟩
    replace GA := Lib.hid (GA.out.below hb GA.out.lt); replace GB := Lib.hid (GB.out.below hb GB.out.lt); replace GC := Lib.hid (GC.out.below hb GC.out.lt)
    replace BX := Lib.hid (BX.out.trans (hb.mono BX.out.size))
    clear hb c0 c1 c2 c3 d0 d1 d2 d3 k0 k1 k2 k3
    have c0 := GA.out.c0; have c1 := GA.out.c1; have c2 := GA.out.c2; have c3 := GA.out.c3
    have d0 := GB.out.c0; have d1 := GB.out.c1; have d2 := GB.out.c2; have d3 := GB.out.c3
    have k0 := GC.out.c0; have k1 := GC.out.c1; have k2 := GC.out.c2; have k3 := GC.out.c3
    go_wp2_with fail
    refine (lives_any _).mono ?_; rintro e0 w9 ⟨rfl, hb⟩
    replace BX := Lib.hid (BX.out.trans (hb.mono BX.out.size))
    clear hb
    go_wp2_with fail
    go_ret
    exact ⟨rfl, BX.out⟩
end Go.Proofs.Ytfabfnjfnildhaa
