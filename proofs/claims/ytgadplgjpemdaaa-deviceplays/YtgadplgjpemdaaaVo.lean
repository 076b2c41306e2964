/- device: same. -/
import Derived.Test.YtgadplgjpemdaaaVn
set_option linter.unusedSimpArgs false
namespace Go.Proofs.Ytgadplgjpemdaaa
open Go.ChangeShapes Go.WideShapes Go.ChangeAt Go.RowKit Go.Joins Go.Deep

def strs (l : List (List UInt8)) : List ByteArray := l.map (fun b => ⟨b.toArray⟩)
theorem strs_len (l : List (List UInt8)) : (strs l).length = l.length := by unfold strs; rw [List.length_map]
theorem rdr_eq (ns : List (List UInt8)) (i : Int) : rdr (strs ns) i = rd ns.length ns i := by
  unfold rdr rd
  rw [strs_len]
  by_cases h : i < 0 ∨ (ns.length : Int) ≤ i
  · rw [if_pos h, if_pos h]
  · rw [if_neg h, if_neg h]
    have hi : i.toNat < ns.length := by omega
    unfold strs
    rw [List.getD, List.getElem?_map, List.getElem?_eq_getElem hi, List.getD, List.getElem?_eq_getElem hi]; rfl
abbrev S6 (W1 W : World) (bx : Nat) (c0 c1 c2 c3 c4 c5 : Value) : Prop := Below W1.heap.size W1 W ∧ W.cell? ⟨bx, 0, none⟩ = some c0 ∧ W.cell? ⟨bx, 1, none⟩ = some c1 ∧ W.cell? ⟨bx, 2, none⟩ = some c2 ∧ W.cell? ⟨bx, 3, none⟩ = some c3 ∧ W.cell? ⟨bx, 4, none⟩ = some c4 ∧ W.cell? ⟨bx, 5, none⟩ = some c5
theorem s6_of {W1 W : World} {bx : Nat} {c0 c1 c2 c3 c4 c5 : Value} (r : Row W1 bx 31 [c0, c1, c2, c3, c4, c5]) (b : Below W1.heap.size W1 W) : S6 W1 W bx c0 c1 c2 c3 c4 c5 := by
  have r := r.below b r.lt
  exact ⟨b, r.cell (i := 0) rfl, r.cell (i := 1) rfl, r.cell (i := 2) rfl, r.cell (i := 3) rfl, r.cell (i := 4) rfl, r.cell (i := 5) rfl⟩
set_option maxRecDepth 100000 in
set_option maxHeartbeats 8000000 in
theorem same_any {w : World} {B B' D n m kB nF kF kA nP kP : Nat} {aB aF aA aP : Option Addr} {fs ns : List (List UInt8)} {hs : List (Nat × List UInt8)} {lim : Bool} {left left' : Int} (h : Dv w B D n fs ns hs lim left) (hm : hs.length = m)
    (hB : w.ownsRow B' 9 1 (.slice aB n kB) n (sts (strs ns))) : Calls Try.prog 10 #[pD D, rv false (.slice aB n kB) (.slice aF nF kF) (.slice aA m kA) (.slice aP nP kP) left'] w fun e w' => e = .returned (.bool true) ∧ Below w.heap.size w w' := by
  obtain ⟨bx, hbx⟩ : ∃ bx, w.heap.size = bx := ⟨_, rfl⟩
  obtain ⟨W1, hW1⟩ : ∃ W1, w.alloc (.cells #[.bool false, .slice aB n kB, .slice aF nF kF, .slice aA m kA, .slice aP nP kP, .int .i64 left'] 31) = W1 := ⟨_, rfl⟩
  have r1 : Row W1 bx 31 (rcs false (.slice aB n kB) (.slice aF nF kF) (.slice aA m kA) (.slice aP nP kP) left') := by rw [← hW1, ← hbx]; exact Row.new _ _ _
  have b1 : Below w.heap.size w W1 := by rw [← hW1]; exact below_al _ _
  have hns : ns.length = n ∧ 1 ≤ n ∧ n ≤ 65536 := by obtain ⟨_, _, _, _, _, k⟩ := h; exact ⟨k.nw.len, k.n1⟩
  have R1 := Lib.hid r1; have B1 := Lib.hid b1; have NS := Lib.hid hns
  have D1 := Lib.hid (h.keep b1); have O1 := Lib.hid (own_below hB b1)
  have HM := Lib.hid hm
  have CB : Hid (∀ W, Below W1.heap.size W1 W → Calls Try.prog 19 #[pD D] W fun e w' => e = .returned (.int .i64 (n : Int)) ∧ w' = W) := fun W b => blocks_any (D1.out.keep b)
  have CW : Hid (∀ W, Below W1.heap.size W1 W → Calls Try.prog 20 #[pD D] W fun e w' => e = .returned (.int .i64 (m : Int)) ∧ w' = W) := fun W b => by have h := writes_any (D1.out.keep b); rw [HM.out] at h; exact h
  have CR : Hid (∀ W, Calls Try.prog 23 #[rv false (.slice aB n kB) (.slice aF nF kF) (.slice aA m kA) (.slice aP nP kP) left'] W fun e w' => e = .returned (.int .i64 (m : Int)) ∧ Below W.heap.size W w') := fun W => writesr_any
  have RX : Hid (∀ (i : Int) W, Below W1.heap.size W1 W → Calls Try.prog 13 #[pD D, .int .i64 i] W fun e w' => e = .returned (.tuple #[.string (rd n ns i), .int .i64 (cerr n i)]) ∧ w' = W) := fun i W b => read_any (D1.out.keep b) i
  have RY : Hid (∀ (i : Int) W, Below W1.heap.size W1 W → Calls Try.prog 14 #[rv false (.slice aB n kB) (.slice aF nF kF) (.slice aA m kA) (.slice aP nP kP) left', .int .i64 i] W fun e w' => e = .returned (.tuple #[.string (rd n ns i), .int .i64 (cerr n i)]) ∧ Below W.heap.size W w') := fun i W b => by
    have e : (strs ns).length = n := by rw [strs_len]; exact NS.out.1
    have h : W.ownsRow B' 9 1 (.slice aB n kB) (strs ns).length (sts (strs ns)) := by rw [e]; exact own_below O1.out b
    have k := readr_any (vF := .slice aF nF kF) (vA := .slice aA m kA) (vP := .slice aP nP kP) (left := left') h i
    rw [rdr_eq, e, NS.out.1] at k; exact k
  have e0 := r1.cell (i := 0) rfl
  clear r1 b1 hns h hm hB
  go_enter Try.func10, Try.ntmps10
  go_wp2_with fail
  have S0 := Lib.hid (s6_of R1.out (Below.refl _ W1).drew)
  refine wp_region_held_drew (S := fun W => S6 W1 W bx (.bool false) (.slice aB n kB) (.slice aF nF kF) (.slice aA m kA) (.slice aP nP kP) (.int .i64 left')) (by kernel_rfl) S0.out (fun hHeld => ?_)
  clear S0 e0
  refine wpAnyH_take (i := 0) (v := ?_) rfl (by kernel_rfl) (by kernel_rfl) (by kernel_rfl) (fun _ _ _ h => h) (Or.inl ⟨by rfl, ?_⟩) (by assumption) ?_
  rotate_left 1
  · (intro w hSw; (try dsimp only at hSw); first | (go_simp; done) | (go_simp; with_reducible rfl))
  simp only [Act.put, List.getElem_toArray, List.getElem_cons_zero, List.setIfInBounds_toArray, List.set_cons_zero, List.set_cons_succ]
  refine wpAnyH_take (i := 2) (v := ?_) rfl (by kernel_rfl) (by kernel_rfl) (by kernel_rfl) (fun _ _ _ h => h) (Or.inl ⟨by rfl, ?_⟩) (by assumption) ?_
  rotate_left 1
  · (intro w hSw; (try dsimp only at hSw); first | (go_simp; done) | (go_simp; with_reducible rfl))
  simp only [Act.put, List.getElem_toArray, List.getElem_cons_zero, List.getElem_cons_succ, List.setIfInBounds_toArray, List.set_cons_zero, List.set_cons_succ]
  refine wpAnyH_take (i := 3) (v := ?_) rfl (by kernel_rfl) (by kernel_rfl) (by kernel_rfl) (fun _ _ _ h => h) (Or.inl ⟨by rfl, ?_⟩) (by assumption) ?_
  rotate_left 1
  · (intro w hSw; (try dsimp only at hSw); first | (go_simp; done) | (go_simp; with_reducible rfl))
  simp only [Act.put, List.getElem_toArray, List.getElem_cons_zero, List.getElem_cons_succ, List.setIfInBounds_toArray, List.set_cons_zero, List.set_cons_succ]
  refine wpAnyH_take (i := 4) (v := ?_) rfl (by kernel_rfl) (by kernel_rfl) (by kernel_rfl) (fun _ _ _ h => h) (Or.inl ⟨by rfl, ?_⟩) (by assumption) ?_
  rotate_left 1
  · (intro w hSw; (try dsimp only at hSw); first | (go_simp; done) | (go_simp; with_reducible rfl))
  simp only [Act.put, List.getElem_toArray, List.getElem_cons_zero, List.getElem_cons_succ, List.setIfInBounds_toArray, List.set_cons_zero, List.set_cons_succ]
  refine wpAnyH_ready (rs := [1]) (by kernel_rfl) (by simp) ?_
  refine AllReadyH.cons rfl (fun KK hK => ?_) AllReadyH.nil
  have hS1 := Lib.hid hHeld
  go_simp
  go_wp2_with (go_at_call 19; (with_reducible refine (CB.out _ hS1.out.1).mono ?_); rintro en v1 ⟨rfl, hw⟩)
  cases hw
  refine hK.out _ _ hS1.out (fun hHeld2 => ?_)
  clear hK KK hHeld hS1; have hHeld := hHeld2; clear hHeld2
  refine wpAnyH_take (i := 5) (v := ?_) rfl (by kernel_rfl) (by kernel_rfl) (by kernel_rfl) (fun _ _ _ h => h) (Or.inl ⟨by rfl, ?_⟩) (by assumption) ?_
  rotate_left 1
  · (intro w hSw; (try dsimp only at hSw); first | (go_simp; done) | (go_simp; with_reducible rfl))
  simp only [Act.put, List.getElem_toArray, List.getElem_cons_zero, List.getElem_cons_succ, List.setIfInBounds_toArray, List.set_cons_zero, List.set_cons_succ]
  refine wpAnyH_take (i := 6) (v := ?_) rfl (by kernel_rfl) (by kernel_rfl) (by kernel_rfl) (fun _ _ _ h => h) (Or.inl ⟨by rfl, ?_⟩) (by assumption) ?_
  rotate_left 1
  · (intro w hSw; (try dsimp only at hSw); first | (go_simp; done) | (go_simp; with_reducible rfl))
  simp only [Act.put, List.getElem_toArray, List.getElem_cons_zero, List.getElem_cons_succ, List.setIfInBounds_toArray, List.set_cons_zero, List.set_cons_succ]
  refine wpAnyH_take (i := 7) (v := ?_) rfl (by kernel_rfl) (by kernel_rfl) (by kernel_rfl) (fun _ _ _ h => h) (Or.inl ⟨by rfl, ?_⟩) (by assumption) ?_
  rotate_left 1
  · (intro w hSw; (try dsimp only at hSw); first | (go_simp; done) | (go_simp; with_reducible rfl))
  simp only [Act.put, List.getElem_toArray, List.getElem_cons_zero, List.getElem_cons_succ, List.setIfInBounds_toArray, List.set_cons_zero, List.set_cons_succ]
  refine wpAnyH_take (i := 9) (v := ?_) rfl (by kernel_rfl) (by kernel_rfl) (by kernel_rfl) (fun _ _ _ h => h) (Or.inl ⟨by rfl, ?_⟩) (by assumption) ?_
  rotate_left 1
  · (intro w hSw; (try dsimp only at hSw); first | (go_simp; done) | (go_simp; with_reducible rfl))
  simp only [Act.put, List.getElem_toArray, List.getElem_cons_zero, List.getElem_cons_succ, List.setIfInBounds_toArray, List.set_cons_zero, List.set_cons_succ]
  refine wpAnyH_ready (rs := [8]) (by kernel_rfl) (by simp) ?_
  refine AllReadyH.cons rfl (fun KK hK => ?_) AllReadyH.nil
  have hS1 := Lib.hid hHeld
  go_simp
  go_wp2_with (go_at_call 20; (with_reducible refine (CW.out _ hS1.out.1).mono ?_); rintro en v1 ⟨rfl, hw⟩)
  cases hw
  refine hK.out _ _ hS1.out (fun hHeld2 => ?_)
  clear hK KK hHeld hS1; have hHeld := hHeld2; clear hHeld2
  refine wpAnyH_ready (rs := [10]) (by kernel_rfl) (by simp) ?_
  refine AllReadyH.cons rfl (fun KK hK => ?_) AllReadyH.nil
  have hS1 := Lib.hid hHeld
  go_simp
  go_wp2_with (go_at_call 23; (with_reducible refine (CR.out _).mono ?_); rintro en v1 ⟨rfl, b⟩)
  have S2 := Lib.hid (s6_of R1.out (hS1.out.1.trans (b.mono hS1.out.1.size)))
  refine hK.out _ _ S2.out (fun hHeld2 => ?_)
  clear hK KK hHeld hS1 b S2; have hHeld := hHeld2; clear hHeld2
  refine wpAnyH_take (i := 11) (v := ?_) rfl (by kernel_rfl) (by kernel_rfl) (by kernel_rfl) (fun _ _ _ h => h) (Or.inl ⟨by rfl, ?_⟩) (by assumption) ?_
  rotate_left 1
  · (intro w hSw; (try dsimp only at hSw); first | (go_simp; done) | (go_simp; with_reducible rfl))
  simp only [Act.put, List.getElem_toArray, List.getElem_cons_zero, List.getElem_cons_succ, List.setIfInBounds_toArray, List.set_cons_zero, List.set_cons_succ]
  refine wpAnyH_take (i := 12) (v := ?_) rfl (by kernel_rfl) (by kernel_rfl) (by kernel_rfl) (fun _ _ _ h => h) (Or.inl ⟨by rfl, ?_⟩) (by assumption) ?_
  rotate_left 1
  · (intro w hSw; (try dsimp only at hSw); first | (go_simp; done) | (go_simp; with_reducible rfl))
  simp only [Act.put, List.getElem_toArray, List.getElem_cons_zero, List.getElem_cons_succ, List.setIfInBounds_toArray, List.set_cons_zero, List.set_cons_succ]
  have BL := Lib.hid hHeld.1
  refine wpAnyH_done (by kernel_rfl) ?_ _
  clear hHeld
  go_wp2_with fail
  go_loopw [5] (fun s5 wr => ∃ i : Int, s5 = .int .i64 i ∧ Hid (-1 ≤ i ∧ i ≤ (n : Int) + 1) ∧ Hid (Below W1.heap.size W1 wr)) (fun s5 _ => (n + 1 - intOf s5).toNat)
  case atStart => exact ⟨-1, rfl, (show _ ∧ _ from ⟨by decide, by omega⟩), BL.out⟩
  case round =>
    obtain ⟨i, rfl, HI, BW⟩ := hrel
    obtain ⟨_, x0, x1, x2, x3, x4, x5⟩ := s6_of R1.out BW.out
    by_cases hin : i ≤ (n : Int)
    · have di : decide (i ≤ (n : Int)) = true := by simpa using hin
      obtain ⟨i1, hi1⟩ : ∃ i1, i + 1 = i1 := ⟨_, rfl⟩
      have HI1 := Lib.hid hi1; have HIN := Lib.hid hin
      have f2 : IntKind.i64.wrap i1 = i1 := by rw [← hi1, IntKind.wrap_i64]; have := HI.out; have := NS.out; omega
      have RX1 := Lib.hid (RX.out i wr BW.out)
      obtain ⟨rs, hrs⟩ : ∃ rs, rd n ns i = rs := ⟨_, rfl⟩
      obtain ⟨ce, hce⟩ : ∃ ce, cerr n i = ce := ⟨_, rfl⟩
      have RY1 := Lib.hid (RY.out i wr BW.out)
      rw [hrs, hce] at RX1 RY1
      clear hin hrs hce
      go_wp2_with fail
      refine RX1.out.mono ?_; rintro e w5 ⟨rfl, hw⟩
      cases hw
      go_wp2_with fail
      refine RY1.out.mono ?_; rintro e w6 ⟨rfl, b⟩
      have B6 := Lib.hid (BW.out.trans (b.mono BW.out.size))
      clear b x0 x1 x2 x3 x4 x5
      go_wp2_with fail
      go_roundw
      case measure => simp [intOf]; have := HI1.out; have := HIN.out; omega
      case rel => exact ⟨i1, rfl, (by have h1 := HI1.out; have h2 := HIN.out; have h3 := HI.out; exact (show Hid _ from ⟨by omega, by omega⟩)), B6⟩
    · have di : decide (i ≤ (n : Int)) = false := by simpa using hin
      have BF := Lib.hid (B1.out.trans (BW.out.mono B1.out.size))
      clear hin
      go_wp2_with fail
      go_ret
      exact ⟨rfl, by first | exact BF.out | (rw [hbx]; exact BF.out) | (rw [hbx] at BF; exact BF.out)⟩
end Go.Proofs.Ytgadplgjpemdaaa
