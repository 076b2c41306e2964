/- cmds: the reference's Encode. -/
import Derived.Test.YthlbenldgnjgcaaDoorKk
import Derived.Test.YthlbenldgnjgcaaDoorKl
namespace Go.Proofs.YthlbenldgnjgcaaDoor
open Go.ChangeShapes Go.WideShapes Go.ChangeAt Go.RowKit Go.Joins Go.Deep

theorem encr_any {w : World} {k : Int} {v : Value} {ls : List (List Pt)} (h : RowsAt w v ls) (hm : ls.length + tot ls ≤ 9000) : Calls Tryd.prog 10 #[gv k v] w fun e w' => ∃ u, e = .returned (.tuple #[u, .int .i64 (chk k ls)]) ∧ IntsAt w' u (encR k ls) ∧ Below w.heap.size w w' := by
  by_cases hc : chk k ls = 0
  · have hr : encR k ls = enc k ls := if_pos hc
    rw [hr, hc]
    obtain ⟨hk, _, _⟩ := chk_zero hc
    have h3 : k = 1 ∨ k = 2 ∨ k = 3 := by unfold vK at hk; omega
    rcases h3 with rfl | rfl | rfl
    · exact One.encr_1 h hm hc
    · exact encr_2 h hm hc
    · exact encr_3 h hm hc
  · have hr : encR k ls = [] := if_neg hc
    rw [hr]
    have A0 := h
    obtain ⟨a, cap, rfl⟩ := h.form
    obtain ⟨n, hn⟩ : ∃ n, ls.length = n := ⟨_, rfl⟩
    obtain ⟨c, hcc⟩ : ∃ c, chk k ls = c := ⟨_, rfl⟩
    obtain ⟨B0, hB0⟩ : ∃ B0, w.heap.size = B0 := ⟨_, rfl⟩
    obtain ⟨W1, hW1⟩ : ∃ W1, w.alloc (.cells #[.int .i64 k, .slice a n cap] 24) = W1 := ⟨_, rfl⟩
    have r1 : Row W1 B0 24 [.int .i64 k, .slice a n cap] := by rw [← hW1, ← hB0]; exact Row.new _ _ _
    have q0 := r1.cell (i := 0) rfl; have q1 := r1.cell (i := 1) rfl
    have b1 : Below w.heap.size w W1 := by rw [← hW1]; exact (Below.refl _ _).alloc (Nat.le_refl _) _
    have CK := Lib.hid (checkr_any (k := k) (A0.below b1) (by omega))
    rw [hcc] at CK hc ⊢
    rw [hn] at CK ⊢
    have BB := Lib.hid b1
    have cn : (c != 0) = true := by simpa using hc
    clear A0 h r1 b1 hm hn hc hcc hr
    go_enter Tryd.func10, Tryd.ntmps10
    go_wp2_with fail
    refine CK.out.mono ?_; rintro e w3 ⟨rfl, b3⟩
    have B3 : Hid (Below w.heap.size w w3) := BB.out.trans (b3.mono BB.out.size)
    clear b3
    go_wp2_with fail
    go_ret2
    exact ⟨.slice none 0 0, rfl, ints_nil _, by first | exact B3.out | (rw [← hB0]; exact B3.out)⟩
end Go.Proofs.YthlbenldgnjgcaaDoor
