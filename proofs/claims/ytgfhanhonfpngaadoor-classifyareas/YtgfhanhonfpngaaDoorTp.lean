/- tags: Drop. -/
import Derived.Test.YtgfhanhonfpngaaDoorTo
namespace Go.Proofs.YtgfhanhonfpngaaDoor
open Go.ChangeShapes Go.WideShapes Go.ChangeAt Go.RowKit Go.Joins Go.Deep

open Go.Proofs.TagM Go.Shelf Go.Sort

theorem delete_nil (w : World) (base : Nat) (key : ByteArray) (p : Value) : Calls Tryd.prog 42 #[.slice none 0 0, .func (.func 43) #[] #[p]] w fun e w' => ∃ u, e = .returned u ∧ TOwn w' base u (fl key []) ∧ Below base w w' := by
  have HI := Lib.hid (index_empty 43 0 none #[p] w)
  go_enter Tryd.func42, Tryd.ntmps42
  go_wp2_with fail
  refine HI.out.mono ?_; rintro e w2 ⟨rfl, rfl⟩
  go_wp2_with fail
  go_ret
  exact ⟨_, rfl, World.ownsRow_nil _ _ _ _, Below.refl _ _⟩
theorem delete_own {w : World} {base : Nat} {u : Value} {l : List Tg} (key : ByteArray) (B : Nat) (ho : TOwn w base u l) (hl : l.length ≤ 1000000) (hB : B < w.heap.size) (hBb : B < base) (hcell : w.cell? ⟨B, 0, none⟩ = some (.string key)) :
    Calls Tryd.prog 42 #[u, .func (.func 43) #[] #[.pointer (some ⟨B, 0, none⟩)]] w fun e w' => ∃ u', e = .returned u' ∧ TOwn w' base u' (fl key l) ∧ Below base w w' := by
  rcases ho.2 with ⟨rfl, h0⟩ | ⟨g, cap, cur, rfl, hbg, _⟩
  · obtain rfl := List.eq_nil_of_length_eq_zero h0
    exact delete_nil w base key _
  · obtain ⟨_, _, hr⟩ := ho.rowT
    exact delete_any key B hr hbg hl (by omega) hB hcell
theorem TOwn.weak {w : World} {base b2 : Nat} {v : Value} {l : List Tg} (h : TOwn w base v l) (hb : b2 ≤ base) : TOwn w b2 v l := by
  refine ⟨h.1, ?_⟩
  rcases h.2 with h0 | ⟨g, cap, cur, e, h2, h3⟩
  · exact Or.inl h0
  · exact Or.inr ⟨g, cap, cur, e, by omega, h3⟩
set_option maxHeartbeats 1000000 in
theorem drop_any {w : World} {v : Value} {l : List Tg} (key : ByteArray) (h : TagsAt w v l) (hl : l.length ≤ 1000000) : Calls Tryd.prog 35 #[v, .string key] w fun e w' => ∃ u, e = .returned u ∧ TOwn w' w.heap.size u (fl key l) ∧ Below w.heap.size w w' := by
  obtain ⟨W1, hW1⟩ : ∃ W1, w.alloc (.cells #[.string key] 9) = W1 := ⟨_, rfl⟩
  have r1 : Row W1 w.heap.size 9 [.string key] := by rw [← hW1]; exact Row.new _ _ _
  have b1 : Below w.heap.size w W1 := by rw [← hW1]; exact (Below.refl _ _).alloc (Nat.le_refl _) _
  have s1 : W1.heap.size = w.heap.size + 1 := by rw [← hW1]; simp
  have CL := Lib.hid (clone_any (h.below b1) hl)
  have R1 := Lib.hid r1; have B1 := Lib.hid b1; have S1 := Lib.hid s1; have HL := Lib.hid hl
  obtain ⟨a, cap, rfl, _⟩ := h
  obtain ⟨n, hn⟩ : ∃ n, l.length = n := ⟨_, rfl⟩
  rw [hn] at CL ⊢
  clear r1 b1 s1 hl hn
  go_enter Tryd.func35, Tryd.ntmps35
  go_wp2_with fail
  refine CL.out.mono ?_; rintro e w2 ⟨u, rfl, ou, b2⟩
  have DE := Lib.hid (delete_own key w.heap.size ou HL.out (by have := b2.size; have := S1.out; omega) (by have := S1.out; omega) (by rw [b2.cell (by exact R1.out.lt)]; exact R1.out.cell (i := 0) rfl))
  have B2 := Lib.hid b2
  clear ou b2
  go_wp2_with fail
  refine DE.out.mono ?_; rintro e w3 ⟨u', rfl, ou, b3⟩
  have O3 : Hid (TOwn w3 w.heap.size u' (fl key l)) := ou.weak (by have := S1.out; omega)
  have B3 : Hid (Below w.heap.size w w3) := B1.out.trans ⟨b3.os.trans B2.out.os, b3.tape.trans B2.out.tape, b3.output.trans B2.out.output, Nat.le_trans B2.out.size b3.size, fun k hk => (b3.block k (by have := S1.out; omega)).trans (B2.out.block k (by have := S1.out; omega))⟩
  clear ou b3
  go_wp2_with fail
  go_ret
  exact ⟨_, rfl, O3.out, B3.out⟩
end Go.Proofs.YtgfhanhonfpngaaDoor

