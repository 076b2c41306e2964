/- graph: Reverse. -/
import Derived.Test.YtgofachgoflgnaaGc
namespace Go.Proofs.Ytgofachgoflgnaa
open Go.ChangeShapes Go.WideShapes Go.ChangeAt Go.RowKit Go.Joins Go.Deep

def flip (a : Int × Int) : Int × Int := (a.2, a.1)
/- the first k turned -/
def half (k : Nat) (l : List (Int × Int)) : List (Int × Int) := (l.take k).map flip ++ l.drop k
theorem half_zero (l : List (Int × Int)) : half 0 l = l := by simp [half]
theorem half_all {l : List (Int × Int)} {n : Nat} (h : l.length = n) : half n l = l.map flip := by unfold half; rw [← h, List.take_length, List.drop_length, List.append_nil]
theorem half_len {k : Nat} {l : List (Int × Int)} (h : k ≤ l.length) : (half k l).length = l.length := by unfold half; simp; omega
theorem half_get {k : Nat} {l : List (Int × Int)} (h : k < l.length) : (half k l).getD k (0, 0) = l.getD k (0, 0) := by
  unfold half
  rw [List.getD, List.getD, List.getElem?_append_right (by simp; omega), List.getElem?_drop]
  congr 2; simp; omega
theorem half_set {k : Nat} {l : List (Int × Int)} (h : k < l.length) : (half k l).set k (flip (l.getD k (0, 0))) = half (k + 1) l := by
  unfold half
  have e : l.getD k (0, 0) = l[k] := by rw [List.getD, List.getElem?_eq_getElem h]; rfl
  rw [e, List.take_add_one, List.getElem?_eq_getElem h, List.map_append, List.append_assoc, List.set_append_right _ _ (by simp; omega)]
  congr 1
  rw [List.length_map, List.length_take, Nat.min_eq_left (by omega), Nat.sub_self, List.drop_eq_getElem_cons h]
  rfl
/- an own row in which one arc is stored anew -/
theorem AOwn.put {w : World} {base g n cap k : Nat} {l : List (Int × Int)} (h : AOwn w base (.slice (some ⟨g, 0, none⟩) n cap) l) (hn : l.length = n) (hk : k < n) (x y : Int) :
    base ≤ g ∧ g < w.heap.size ∧ (w.cell? ⟨g, k * 2, none⟩).isSome = true ∧ (w.cell? ⟨g, k * 2 + 1, none⟩).isSome = true ∧ w.frozen? ⟨g, k * 2, none⟩ = false ∧ w.frozen? ⟨g, k * 2 + 1, none⟩ = false ∧
    AOwn ((w.setCell ⟨g, k * 2, none⟩ (.int .i64 x)).setCell ⟨g, k * 2 + 1, none⟩ (.int .i64 y)) base (.slice (some ⟨g, 0, none⟩) n cap) (l.set k (x, y)) := by
  rcases h.2 with ⟨e, _⟩ | ⟨g', cap', cur, e, hb, hg, h1, h2, h3, h4⟩
  · cases e
  · injection e with e1 e2 e3
    injection e1 with e1; injection e1 with e1; subst e1 e3
    have hlt : g < w.heap.size := by
      by_cases hl : g < w.heap.size
      · exact hl
      · rw [Array.getElem?_eq_none (Nat.le_of_not_lt hl)] at hg; cases hg
    have s1 : k * 2 < cur.size := by rw [h3]; omega
    have s2 : k * 2 + 1 < cur.size := by rw [h3]; omega
    refine ⟨hb, hlt, ?_, ?_, ?_, ?_, ?_⟩
    · unfold World.cell?; rw [hg]; simp [s1]
    · unfold World.cell?; rw [hg]; simp [s2]
    · unfold World.frozen?; rw [hg]; simp
    · unfold World.frozen?; rw [hg]; simp
    · have g1 := heap_setCell_same w g (k * 2) cur 47 (.int .i64 x) hg
      have g2 := heap_setCell_same _ g (k * 2 + 1) _ 47 (.int .i64 y) g1
      refine ⟨by rw [acs_len], Or.inr ⟨g, cap, _, by rw [List.length_set, hn], hb, g2, by rw [List.length_set]; exact h1, h2, by simpa using h3, ?_⟩⟩
      rw [List.length_set, ← acs_set, ← h4]
      simp only [Array.toList_setIfInBounds]
      rw [List.take_set, List.take_set]
set_option maxRecDepth 100000 in
set_option maxHeartbeats 4000000 in
theorem rev_bad {w : World} {N : Int} {v : Value} {ars : List (Int × Int)} (h : ArcsAt w v ars) (hc : chk N ars ≠ 0) : Calls Try.prog 24 #[gv N v] w fun e w' => e = .returned (gv 0 (.slice none 0 0)) ∧ Below w.heap.size w w' := by
  have A0 := h
  obtain ⟨a, cap, rfl, _⟩ := h
  obtain ⟨W1, W2, hW1, hW2, z1, BB0⟩ := bx2_new w [.int .i64 N, .slice a ars.length cap] [.int .i64 0, .slice none 0 0]
  have CK := Lib.hid (fun W (b : Below w.heap.size w W) => check_any (N := N) (A0.below b))
  obtain ⟨n, hn⟩ : ∃ n, ars.length = n := ⟨_, rfl⟩
  obtain ⟨c, hcc⟩ : ∃ c, chk N ars = c := ⟨_, rfl⟩
  rw [hn] at hW1 BB0 CK ⊢
  rw [hcc] at CK hc
  have BB := Lib.hid BB0
  have q0 := BB0.a.cell (i := 0) rfl; have q1 := BB0.a.cell (i := 1) rfl
  have c1 : (c == 0) = false := by simpa using hc
  clear BB0 A0 hn hcc hc
  go_enter Try.func24, Try.ntmps24
  go_wp2_with fail
  refine (CK.out _ BB.out.b).mono ?_; rintro e w3 ⟨rfl, b⟩
  have z3 := BB.out.c.below b BB.out.c.lt
  have d0 := z3.cell (i := 0) rfl; have d1 := z3.cell (i := 1) rfl; have f0 := z3.fr (i := 0); have f1 := z3.fr (i := 1)
  obtain ⟨W9, hW9⟩ : ∃ W9, (w3.setCell ⟨w.heap.size + 1, 0, none⟩ (.int .i64 0)).setCell ⟨w.heap.size + 1, 1, none⟩ (.slice none 0 0) = W9 := ⟨_, rfl⟩
  have r9 : Row W9 (w.heap.size + 1) 24 [.int .i64 0, .slice none 0 0] := by rw [← hW9]; exact (z3.set (i := 0) _).set (i := 1) _
  have g0 := r9.cell (i := 0) rfl; have g1 := r9.cell (i := 1) rfl
  have FIN : Hid (Below w.heap.size w W9) := by
    show Below _ _ _
    rw [← hW9]; exact ((BB.out.b.trans (b.mono BB.out.b.size)).setCell (by show w.heap.size ≤ w.heap.size + 1; omega) _).setCell (by show w.heap.size ≤ w.heap.size + 1; omega) _
  clear r9 z3 b
  go_wp2_with fail
  refine bodyPost_ret (by simp [results, Try.results24, go_sem, g0, g1]; rfl) rfl ⟨?_, FIN.out⟩
  rfl
theorem AOwn.blk {w : World} {base : Nat} {v : Value} {l : List (Int × Int)} (h : AOwn w base v l) (hp : 0 < l.length) : ∃ g cap, v = .slice (some ⟨g, 0, none⟩) l.length cap := by
  rcases h.2 with ⟨_, h0⟩ | ⟨g, cap, cur, e, _⟩
  · omega
  · exact ⟨g, cap, e⟩
set_option maxRecDepth 100000 in
set_option maxHeartbeats 4000000 in
theorem rev_any {w : World} {N : Int} {v : Value} {ars : List (Int × Int)} (h : ArcsAt w v ars) (hc : chk N ars = 0) (hl : ars.length ≤ 4194304) : Calls Try.prog 24 #[gv N v] w fun e w' => ∃ u, e = .returned (gv N u) ∧ ArcsAt w' u (ars.map flip) ∧ Below w.heap.size w w' := by
  have A0 := h
  obtain ⟨a, cap, rfl, _⟩ := h
  obtain ⟨W1, W2, hW1, hW2, z1, BB0⟩ := bx2_new w [.int .i64 N, .slice a ars.length cap] [.int .i64 0, .slice none 0 0]
  have CK := Lib.hid (fun W (b : Below w.heap.size w W) => check_any (N := N) (A0.below b))
  have CL := Lib.hid (fun W (b : Below w.heap.size w W) => clone_any (A0.below b) hl)
  obtain ⟨n, hn⟩ : ∃ n, ars.length = n := ⟨_, rfl⟩
  rw [hn] at hW1 BB0 CK CL ⊢
  rw [hc] at CK
  have BB := Lib.hid BB0; have HN := Lib.hid hn; have HL := Lib.hid hl
  have q0 := BB0.a.cell (i := 0) rfl; have q1 := BB0.a.cell (i := 1) rfl
  clear BB0 A0 hn hc hl
  go_enter Try.func24, Try.ntmps24
  go_wp2_with fail
  refine (CK.out _ BB.out.b).mono ?_; rintro e w3 ⟨rfl, b⟩
  have b3 : Below w.heap.size w w3 := BB.out.b.trans (b.mono BB.out.b.size)
  have a3 := BB.out.a.below b BB.out.a.lt; have z3 := BB.out.c.below b BB.out.c.lt
  have A3 := Lib.hid a3; have Z3 := Lib.hid z3; have B3 := Lib.hid b3
  have c0 := a3.cell (i := 0) rfl; have c1 := a3.cell (i := 1) rfl
  clear a3 z3 b b3 q0 q1 hW1 hW2
  go_wp2_with fail
  refine (CL.out _ B3.out).mono ?_; rintro e w4 ⟨u, rfl, ou, b⟩
  have U4 := Lib.hid ou; have BS := Lib.hid b
  have A4 := Lib.hid (A3.out.below b A3.out.lt); have Z4 := Lib.hid (Z3.out.below b Z3.out.lt); have B4 := Lib.hid (B3.out.trans (b.mono B3.out.size))
  obtain ⟨au, cu, hu⟩ := ou.form
  rw [HN.out] at hu
  subst hu
  have BG : Hid (w.heap.size + 2 ≤ w3.heap.size) := by have := Z3.out.lt; show _ ≤ _; omega
  clear ou b c0 c1
  go_wp2_with fail
  go_loopw [15] (fun s wr => ∃ k : Nat, k ≤ n ∧ s = .int .i64 (k : Int) ∧ Hid (AOwn wr w3.heap.size (.slice au n cu) (half k ars)) ∧ Hid (Below w.heap.size w wr) ∧ Hid (Row wr w.heap.size 24 [.int .i64 N, .slice a n cap] ∧ Row wr (w.heap.size + 1) 24 [.int .i64 0, .slice none 0 0])) (fun s _ => n - (intOf s).toNat)
  case atStart => exact ⟨0, Nat.zero_le _, rfl, by show AOwn _ _ _ _; rw [half_zero]; exact U4.out, B4, A4.out, Z4.out⟩
  case round =>
    clear U4 B4 A4 Z4
    obtain ⟨k, hk, rfl, UO, BW, RW⟩ := hrel
    by_cases hkn : k < n
    · have hlen : (half k ars).length = n := by rw [half_len (by rw [HN.out]; omega), HN.out]
      obtain ⟨g, cg, hg⟩ := UO.out.blk (by omega)
      injection hg with hg1 hg2 hg3
      subst hg1 hg3
      obtain ⟨b0, off0, e0, o0, o1⟩ := UO.out.at_.at_ (j := k) (by omega)
      injection e0 with e0; injection e0 with e0 e0' _; subst e0 e0'
      rw [half_get (by rw [HN.out]; exact hkn), Nat.zero_add] at o0 o1
      have HS := Lib.hid (half_set (l := ars) (k := k) (by rw [HN.out]; exact hkn))
      obtain ⟨⟨x, y⟩, hz⟩ : ∃ z, ars.getD k (0, 0) = z := ⟨_, rfl⟩
      rw [hz] at o0 o1 HS
      dsimp only at o0 o1
      obtain ⟨k1, hk1⟩ : ∃ k1, k + 1 = k1 := ⟨_, rfl⟩
      rw [hk1] at HS
      have HK := Lib.hid hk1
      have k0 : (0 : Int) ≤ (k : Int) := by omega
      have kl : (k : Int) < (n : Int) := by omega
      have e1 : (k : Int) + 1 = (k1 : Int) := by omega
      have e2 : IntKind.i64.wrap (k1 : Int) = (k1 : Int) := by rw [IntKind.wrap_i64]; have := HL.out; have := HN.out; omega
      obtain ⟨xb, hxb⟩ : ∃ xb, wr.heap.size = xb := ⟨_, rfl⟩
      obtain ⟨W5, hW5⟩ : ∃ W5, wr.alloc (.cells #[.int .i64 x, .int .i64 y] 47) = W5 := ⟨_, rfl⟩
      have r5 : Row W5 xb 47 [.int .i64 x, .int .i64 y] := by rw [← hW5, ← hxb]; exact Row.new _ _ _
      have b5 : Below wr.heap.size wr W5 := by rw [← hW5]; exact (Below.refl _ _).alloc (Nat.le_refl _) _
      have x0 := r5.cell (i := 0) rfl; have x1 := r5.cell (i := 1) rfl
      obtain ⟨hb, hgl, _, _, f0, f1, ow⟩ := (UO.out.keep b5).put hlen hkn y x
      have p0 : W5.cell? ⟨g, k * 2, none⟩ = some (.int .i64 x) := by rw [b5.cell (by show g < _; rcases UO.out.2 with ⟨h, _⟩ | ⟨g', _, cur, h, _, hh, _⟩; cases h; injection h with h; injection h with h; injection h with h; subst h; by_cases hl : g < wr.heap.size; exact hl; rw [Array.getElem?_eq_none (Nat.le_of_not_lt hl)] at hh; cases hh)]; exact o0
      have p1 : W5.cell? ⟨g, k * 2 + 1, none⟩ = some (.int .i64 y) := by rw [b5.cell (by show g < _; rcases UO.out.2 with ⟨h, _⟩ | ⟨g', _, cur, h, _, hh, _⟩; cases h; injection h with h; injection h with h; injection h with h; subst h; by_cases hl : g < wr.heap.size; exact hl; rw [Array.getElem?_eq_none (Nat.le_of_not_lt hl)] at hh; cases hh)]; exact o1
      obtain ⟨W6, hW6⟩ : ∃ W6, (W5.setCell ⟨g, k * 2, none⟩ (.int .i64 y)).setCell ⟨g, k * 2 + 1, none⟩ (.int .i64 x) = W6 := ⟨_, rfl⟩
      rw [hW6] at ow
      have U6 : Hid (AOwn W6 w3.heap.size (.slice (some ⟨g, 0, none⟩) n cu) (half k1 ars)) := by rw [← HS.out]; exact ow
      have gw := BG.out
      have ge := B3.out.size
      have B6 : Hid (Below w.heap.size w W6) := by
        show Below _ _ _
        rw [← hW6]; exact ((BW.out.trans (b5.mono BW.out.size)).setCell (by show w.heap.size ≤ g; omega) _).setCell (by show w.heap.size ≤ g; omega) _
      have R6 : Hid (Row W6 w.heap.size 24 [.int .i64 N, .slice a n cap] ∧ Row W6 (w.heap.size + 1) 24 [.int .i64 0, .slice none 0 0]) := by
        have m1 := RW.out.1.below b5 RW.out.1.lt; have m2 := RW.out.2.below b5 RW.out.2.lt
        rw [← hW6]
        exact ⟨(m1.other (by show w.heap.size ≠ g; omega)).other (by show w.heap.size ≠ g; omega), (m2.other (by show w.heap.size + 1 ≠ g; omega)).other (by show w.heap.size + 1 ≠ g; omega)⟩
      clear r5 b5 ow hb hgl hz hk1 UO BW RW hlen hg2 gw ge
      go_wp2_with fail
      go_roundw
      case measure => simp [intOf]; have := HK.out; omega
      case rel => exact ⟨k1, by have := HK.out; omega, rfl, U6, B6, R6⟩
    · have kl : ¬ (k : Int) < (n : Int) := by omega
      obtain rfl : k = n := by omega
      have UA : Hid (ArcsAt wr (.slice au k cu) (ars.map flip)) := by have h := UO.out.at_; rw [half_all HN.out] at h; exact h
      have t0 := RW.out.1.cell (i := 0) rfl; have t1 := RW.out.1.cell (i := 1) rfl
      have d0 := RW.out.2.cell (i := 0) rfl; have d1 := RW.out.2.cell (i := 1) rfl; have f0 := RW.out.2.fr (i := 0); have f1 := RW.out.2.fr (i := 1)
      obtain ⟨W9, hW9⟩ : ∃ W9, (wr.setCell ⟨w.heap.size + 1, 0, none⟩ (.int .i64 N)).setCell ⟨w.heap.size + 1, 1, none⟩ (.slice au k cu) = W9 := ⟨_, rfl⟩
      have r9 : Row W9 (w.heap.size + 1) 24 [.int .i64 N, .slice au k cu] := by rw [← hW9]; exact (RW.out.2.set (i := 0) _).set (i := 1) _
      have g0 := r9.cell (i := 0) rfl; have g1 := r9.cell (i := 1) rfl
      have FB : Hid (Below w.heap.size w W9) := by
        show Below _ _ _
        rw [← hW9]; exact (BW.out.setCell (by show w.heap.size ≤ w.heap.size + 1; omega) _).setCell (by show w.heap.size ≤ w.heap.size + 1; omega) _
      have FA : Hid (ArcsAt W9 (.slice au k cu) (ars.map flip)) := by
        show ArcsAt _ _ _
        have h := UO.out
        rw [half_all HN.out] at h
        have h2 : AOwn W9 w3.heap.size (.slice au k cu) (ars.map flip) := by
          refine ⟨h.1, ?_⟩
          rcases h.2 with h0 | ⟨g', c', cur, e, hb, hh, h3⟩
          · exact Or.inl h0
          · have gw := BG.out
            refine Or.inr ⟨g', c', cur, e, hb, ?_, h3⟩
            rw [← hW9, Below.heap_setCell _ _ _ _ (by show g' ≠ w.heap.size + 1; omega), Below.heap_setCell _ _ _ _ (by show g' ≠ w.heap.size + 1; omega)]; exact hh
        exact h2.at_
      clear r9 UA UO RW BW
      go_wp2_with fail
      refine bodyPost_ret (by simp [results, Try.results24, go_sem, g0, g1]; rfl) rfl ⟨.slice au k cu, ?_, FA.out, FB.out⟩
      rfl
end Go.Proofs.Ytgofachgoflgnaa
