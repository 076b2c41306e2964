/- device: a device and the reference's, side by side: Limit, After; two nils. -/
import Derived.Test.YtgadplgjpemdaaaVq
set_option linter.unusedSimpArgs false
namespace Go.Proofs.Ytgadplgjpemdaaa
open Go.ChangeShapes Go.WideShapes Go.ChangeAt Go.RowKit Go.Joins Go.Deep

theorem limit_anyB {w : World} {B D gf gn cf cn n : Nat} {H : Value} {fs ns : List (List UInt8)} {hs : List (Nat × List UInt8)} {lim : Bool} {left : Int} (k : DvB w B D gf gn cf cn H n fs ns hs lim left) (i : Int) (hi : i ≤ 9223372036854775807) :
    Calls Try.prog 15 #[pD D, .int .i64 i] w fun e w' => e = .returned (.tuple #[]) ∧ DvB w' B D gf gn cf cn H n fs ns hs true (mx0 i) ∧ Below B w w' ∧ (∀ q, q ≠ D → w'.heap[q]? = w.heap[q]?) ∧ w'.heap.size = w.heap.size := by
  have K := Lib.hid k
  have g3 := k.row.cell (i := 3) rfl; have f3 := k.row.fr (i := 3); have g4 := k.row.cell (i := 4) rfl; have f4 := k.row.fr (i := 4)
  obtain ⟨W1, hW1⟩ : ∃ W1, w.setCell ⟨D, 3, none⟩ (.bool true) = W1 := ⟨_, rfl⟩
  have r1 := k.row.set (i := 3) (.bool true)
  rw [hW1] at r1
  have R1 := Lib.hid r1
  have g4' := r1.cell (i := 4) rfl; have f4' := r1.fr (i := 4)
  have OT : Hid (∀ q, q ≠ D → W1.heap[q]? = w.heap[q]?) := fun q hq => by rw [← hW1]; exact Below.heap_setCell _ _ _ _ hq
  have BB : Hid (Below B w W1) := by show Below _ _ _; rw [← hW1]; exact (Below.refl _ _).setCell (by exact k.bD) _
  have SS : Hid (W1.heap.size = w.heap.size) := by show _ = _; rw [← hW1]; simp [World.setCell]
  have FIN : Hid (∀ x, 0 ≤ x → x ≤ 9223372036854775807 → ∀ W2, W1.setCell ⟨D, 4, none⟩ (.int .i64 x) = W2 → DvB W2 B D gf gn cf cn H n fs ns hs true x ∧ Below B w W2 ∧ (∀ q, q ≠ D → W2.heap[q]? = w.heap[q]?) ∧ W2.heap.size = w.heap.size) := by
    intro x hx0 hx1 W2 hW2
    have e2 : ∀ q, q ≠ D → W2.heap[q]? = w.heap[q]? := fun q hq => by rw [← hW2, Below.heap_setCell _ _ _ _ (by exact hq)]; exact OT.out q hq
    have b2 : Below B w W2 := by rw [← hW2]; exact BB.out.setCell (by exact K.out.bD) _
    have s2 : W2.heap.size = w.heap.size := by rw [← hW2, ← SS.out]; simp [World.setCell]
    refine ⟨?_, b2, e2, s2⟩
    have r2 := R1.out.set (i := 4) (.int .i64 x)
    rw [hW2] at r2
    exact { K.out with
      row := r2
      f := K.out.f.same (e2 gf (fun e => K.out.ne1 e.symm))
      nw := K.out.nw.same (e2 gn (fun e => K.out.ne2 e.symm))
      h := own_same K.out.h (fun b hb => e2 b (fun e => K.out.hD (by rw [hb, e])))
      lf := ⟨hx0, hx1⟩ }
  by_cases h0 : i ≤ 0
  · have V : Hid (mx0 i = 0) := by show mx0 i = 0; unfold mx0; split <;> omega
    rw [V.out]
    clear k r1 hi
    go_enter Try.func15, Try.ntmps15
    go_wp2_with fail
    go_end0
    exact ⟨rfl, FIN.out _ (by decide) (by decide) _ rfl⟩
  · have V : Hid (mx0 i = i) := by show mx0 i = i; unfold mx0; split <;> omega
    have HI := Lib.hid hi; have H0 := Lib.hid h0
    rw [V.out]
    clear k r1 hi
    go_enter Try.func15, Try.ntmps15
    go_wp2_with fail
    go_end0
    exact ⟨rfl, FIN.out _ (by have := H0.out; omega) HI.out _ rfl⟩
theorem PX.limit {w wr : World} {D n j : Nat} {M : Nat → Prop} {v : Value} (h : PX w wr D n M j v) (i : Int) (hi : i ≤ 9223372036854775807) :
    Calls Try.prog 15 #[pD D, .int .i64 i] wr fun e w' => e = .returned (.tuple #[]) ∧ Below w.heap.size w w' ∧ wr.heap.size ≤ w'.heap.size ∧ (∀ b, M b → w'.heap[b]? = wr.heap[b]?) ∧
      ∀ W, Below w'.heap.size w' W → Calls Try.prog 16 #[v, .int .i64 i] W fun e2 w2 => ∃ v', e2 = .returned v' ∧ PX w w2 D n M j v' ∧ Below W.heap.size W w2 := by
  obtain ⟨gf, gn, cf, cn, H, fs, ns, hs, lim, left, pB, pF, aA, aP, m, kB, kF, kA, kP, rfl, hmj, k⟩ := h
  refine (limit_anyB k.dv i hi).mono ?_
  rintro e w' ⟨rfl, dv, bw, fr, sz⟩
  have bel' := k.bel.trans bw
  refine ⟨rfl, bel', Nat.le_of_eq sz.symm, fun c hc => fr c (k.apM c hc).1, fun W b => ?_⟩
  refine (limitr_any W (some pB) (some pF) aA aP n n m m kB kF kA kP (lr lim left) i).mono ?_
  rintro e2 w2 ⟨rfl, b2⟩
  have bb : Below w'.heap.size w' w2 := b.trans (b2.mono b.size)
  refine ⟨_, rfl, ⟨gf, gn, cf, cn, H, fs, ns, hs, true, mx0 i, pB, pF, aA, aP, m, kB, kF, kA, kP, rfl, hmj, ?_⟩, b2⟩
  exact { k with
    dv := dv.keep bb
    B := own_below (own_same k.B (fun c hc => fr c (k.apB c hc).1)) bb
    F := own_below (own_same k.F (fun c hc => fr c (k.apF c hc).1)) bb
    A := own_below (own_same k.A (fun c hc => fr c (k.apA c hc).1)) bb
    P := own_below (own_same k.P (fun c hc => fr c (k.apP c hc).1)) bb
    mlt := fun c hc => by have h1 := k.mlt c hc; have h2 := bb.size; omega
    bel := bel'.trans (bb.mono bel'.size) }
theorem PX.after {w wr : World} {D n j : Nat} {M : Nat → Prop} {v : Value} (h : PX w wr D n M j v) (i : Int) (hj : j ≤ 100) (hn : n ≤ 1000) :
    Calls Try.prog 17 #[pD D, .int .i64 i] wr fun e w' => ∃ D', e = .returned (pD D') ∧ Below wr.heap.size wr w' ∧
      ∀ W, Below w'.heap.size w' W → Calls Try.prog 18 #[v, .int .i64 i] W fun e2 w2 => ∃ v', e2 = .returned v' ∧ PX w w2 D' n M j v' ∧ Below W.heap.size W w2 := by
  obtain ⟨gf, gn, cf, cn, H, fs, ns, hs, lim, left, pB, pF, aA, aP, m, kB, kF, kA, kP, rfl, hmj, k⟩ := h
  refine (after_any ⟨gf, gn, cf, cn, H, k.dv⟩ i (by rw [k.len]; omega)).mono ?_
  rintro e w' ⟨D', rfl, ⟨gf', gn', cf', cn', H', dv⟩, bw⟩
  have bel' := k.bel.trans (bw.mono k.bel.size)
  refine ⟨D', rfl, bw, fun W b => ?_⟩
  have bb : Below wr.heap.size wr W := bw.trans (b.mono bw.size)
  have hl : ∀ p ∈ lz hs, p.1 < n := fun p hp => by
    obtain ⟨x, hx, rfl⟩ := List.mem_map.1 hp
    exact (k.dv.ok x hx).1
  refine (afterr_any W w.heap.size pF (some pB) aA aP n m kF n kB kA kP (strs fs) (lz hs) (lr lim left) i (own_below k.F bb) (own_below k.A bb) (own_below k.P bb) hl ⟨k.dv.n1.1, hn, by omega⟩).mono ?_
  rintro e2 w2 ⟨g, kx, rfl, ho, b2⟩
  have b3 : Below w'.heap.size w' w2 := b.trans (b2.mono b.size)
  have szW : w.heap.size ≤ W.heap.size := by have h1 := bel'.size; have h2 := b.size; omega
  have e : strs (rep fs (hs.take (kk hs.length i))) = repS (strs fs) ((lz hs).take (kk m i)) := by rw [strs_rep, lz_take, k.len]
  rw [← e] at ho
  have mlt := k.mlt
  have nf : ∀ c, M c → Value.ownBlock (.slice (some ⟨g, 0, none⟩) n kx) ≠ some c := fun c hc e => by have h1 := (ho.lt _ e).1; have h2 := bw.size; have h3 := b.size; have h4 := mlt c hc; omega
  have ap := Ap.fresh (v := .slice (some ⟨g, 0, none⟩) n kx) dv ho b.size
  have nl : ∀ {D gf gn : Nat} {H : Value}, Ap D gf gn H (.slice none 0 0) := fun {D gf gn H} b hb => by cases hb
  refine ⟨_, rfl, ⟨gf', gn', cf', cn', H', rep fs (hs.take (kk hs.length i)), rep fs (hs.take (kk hs.length i)), [], false, 0, ⟨g, 0, none⟩, ⟨g, 0, none⟩, none, none, 0, kx, kx, 0, 0, rfl, Nat.zero_le _, ?_⟩, b2⟩
  exact {
    dv := (dv.base k.bel.size).keep b3
    B := own_le ho szW
    F := own_le ho szW
    A := World.ownsRow_nil _ _ _ _
    P := World.ownsRow_nil _ _ _ _
    apB := ap
    apF := ap
    apA := nl
    apP := nl
    len := rfl
    nq := Or.inl ⟨rfl, rfl, rfl, rfl, rfl⟩
    apM := fun c hc => ⟨fun e => by have h1 := dv.bD; have h2 := mlt c hc; omega, fun e => by have h1 := dv.bf; have h2 := mlt c hc; omega, fun e => by have h1 := dv.bn; have h2 := mlt c hc; omega, fun e => by have h1 := (dv.h.lt c e).1; have h2 := mlt c hc; omega⟩
    nmB := nf
    nmF := nf
    nmA := fun c hc e => by cases e
    nmP := fun c hc e => by cases e
    mlt := fun c hc => by have h1 := mlt c hc; have h2 := bw.size; have h3 := b3.size; omega
    bel := bel'.trans (b3.mono bel'.size) }
abbrev nilR : Value := rv true nilS nilS nilS nilS 0
set_option maxRecDepth 100000 in
set_option maxHeartbeats 8000000 in
theorem same_nil (w : World) : Calls Try.prog 10 #[.pointer none, nilR] w fun e w' => e = .returned (.bool true) ∧ Below w.heap.size w w' := by
  obtain ⟨bx, hbx⟩ : ∃ bx, w.heap.size = bx := ⟨_, rfl⟩
  obtain ⟨W1, hW1⟩ : ∃ W1, w.alloc (.cells #[.bool true, .slice none 0 0, .slice none 0 0, .slice none 0 0, .slice none 0 0, .int .i64 0] 31) = W1 := ⟨_, rfl⟩
  have r1 : Row W1 bx 31 (rcs true nilS nilS nilS nilS 0) := by rw [← hW1, ← hbx]; exact Row.new _ _ _
  have b1 : Below w.heap.size w W1 := by rw [← hW1]; exact below_al _ _
  have R1 := Lib.hid r1; have B1 := Lib.hid b1
  obtain ⟨n, hn⟩ : ∃ n : Nat, 0 = n := ⟨_, rfl⟩
  have CB : Hid (∀ W, Below W1.heap.size W1 W → Calls Try.prog 19 #[.pointer none] W fun e w' => e = .returned (.int .i64 0) ∧ w' = W) := fun W _ => blocks_nil W
  have CW : Hid (∀ W, Below W1.heap.size W1 W → Calls Try.prog 20 #[.pointer none] W fun e w' => e = .returned (.int .i64 0) ∧ w' = W) := fun W _ => writes_nil W
  have CR : Hid (∀ W, Calls Try.prog 23 #[nilR] W fun e w' => e = .returned (.int .i64 0) ∧ Below W.heap.size W w') := fun W => writesr_any
  have RX : Hid (∀ (i : Int) W, Below W1.heap.size W1 W → Calls Try.prog 13 #[.pointer none, .int .i64 i] W fun e w' => e = .returned (.tuple #[.string ByteArray.empty, .int .i64 1]) ∧ w' = W) := fun i W _ => read_nil W i
  have RY : Hid (∀ (i : Int) W, Below W1.heap.size W1 W → Calls Try.prog 14 #[nilR, .int .i64 i] W fun e w' => e = .returned (.tuple #[.string ByteArray.empty, .int .i64 1]) ∧ Below W.heap.size W w') := fun i W _ => readr_nil W _ _ _ _ _ i
  have e0 := r1.cell (i := 0) rfl
  clear r1 b1 hn
  go_enter Try.func10, Try.ntmps10
  go_wp2_with fail
  have S0 := Lib.hid (s6_of R1.out (Below.refl _ W1).drew)
  refine wp_region_held_drew (S := fun W => S6 W1 W bx (.bool true) nilS nilS nilS nilS (.int .i64 0)) (by kernel_rfl) S0.out (fun hHeld => ?_)
  clear S0 e0
  refine wpAnyH_take (i := 0) (v := ?_) rfl (by kernel_rfl) (by kernel_rfl) (by kernel_rfl) (fun _ _ _ h => h) (Or.inl ⟨by rfl, ?_⟩) (by assumption) ?_
  rotate_left 1
  · (intro w hSw; (try dsimp only at hSw); first | (go_simp; done) | (go_simp; with_reducible rfl))
  simp only [Act.put, List.getElem_toArray, List.getElem_cons_zero, List.setIfInBounds_toArray, List.set_cons_zero, List.set_cons_succ]
  refine wpAnyH_take (i := 2) (v := ?_) rfl (by kernel_rfl) (by kernel_rfl) (by kernel_rfl) (fun _ _ _ h => h) (Or.inl ⟨by rfl, ?_⟩) (by assumption) ?_
  rotate_left 1
  · (intro w hSw; (try dsimp only at hSw); first | (go_simp; done) | (go_simp; with_reducible rfl))
  simp only [Act.put, List.getElem_toArray, List.getElem_cons_zero, List.getElem_cons_succ, List.setIfInBounds_toArray, List.set_cons_zero, List.set_cons_succ]
  refine wpAnyH_take (i := 3) (v := ?_) rfl (by kernel_rfl) (by kernel_rfl) (by kernel_rfl) (fun _ _ _ h => h) (Or.inl ⟨by rfl, ?_⟩) (by assumption) ?_
  rotate_left 1
  · (intro w hSw; (try dsimp only at hSw); first | (go_simp; done) | (go_simp; with_reducible rfl))
  simp only [Act.put, List.getElem_toArray, List.getElem_cons_zero, List.getElem_cons_succ, List.setIfInBounds_toArray, List.set_cons_zero, List.set_cons_succ]
  refine wpAnyH_take (i := 4) (v := ?_) rfl (by kernel_rfl) (by kernel_rfl) (by kernel_rfl) (fun _ _ _ h => h) (Or.inl ⟨by rfl, ?_⟩) (by assumption) ?_
  rotate_left 1
  · (intro w hSw; (try dsimp only at hSw); first | (go_simp; done) | (go_simp; with_reducible rfl))
  simp only [Act.put, List.getElem_toArray, List.getElem_cons_zero, List.getElem_cons_succ, List.setIfInBounds_toArray, List.set_cons_zero, List.set_cons_succ]
  refine wpAnyH_ready (rs := [1]) (by kernel_rfl) (by simp) ?_
  refine AllReadyH.cons rfl (fun KK hK => ?_) AllReadyH.nil
  have hS1 := Lib.hid hHeld
  go_simp
  go_wp2_with (go_at_call 19; (with_reducible refine (CB.out _ hS1.out.1).mono ?_); rintro en v1 ⟨rfl, hw⟩)
  cases hw
  refine hK.out _ _ hS1.out (fun hHeld2 => ?_)
  clear hK KK hHeld hS1; have hHeld := hHeld2; clear hHeld2
  refine wpAnyH_take (i := 5) (v := ?_) rfl (by kernel_rfl) (by kernel_rfl) (by kernel_rfl) (fun _ _ _ h => h) (Or.inl ⟨by rfl, ?_⟩) (by assumption) ?_
  rotate_left 1
  · (intro w hSw; (try dsimp only at hSw); first | (go_simp; done) | (go_simp; with_reducible rfl))
  simp only [Act.put, List.getElem_toArray, List.getElem_cons_zero, List.getElem_cons_succ, List.setIfInBounds_toArray, List.set_cons_zero, List.set_cons_succ]
  refine wpAnyH_take (i := 6) (v := ?_) rfl (by kernel_rfl) (by kernel_rfl) (by kernel_rfl) (fun _ _ _ h => h) (Or.inl ⟨by rfl, ?_⟩) (by assumption) ?_
  rotate_left 1
  · (intro w hSw; (try dsimp only at hSw); first | (go_simp; done) | (go_simp; with_reducible rfl))
  simp only [Act.put, List.getElem_toArray, List.getElem_cons_zero, List.getElem_cons_succ, List.setIfInBounds_toArray, List.set_cons_zero, List.set_cons_succ]
  refine wpAnyH_take (i := 7) (v := ?_) rfl (by kernel_rfl) (by kernel_rfl) (by kernel_rfl) (fun _ _ _ h => h) (Or.inl ⟨by rfl, ?_⟩) (by assumption) ?_
  rotate_left 1
  · (intro w hSw; (try dsimp only at hSw); first | (go_simp; done) | (go_simp; with_reducible rfl))
  simp only [Act.put, List.getElem_toArray, List.getElem_cons_zero, List.getElem_cons_succ, List.setIfInBounds_toArray, List.set_cons_zero, List.set_cons_succ]
  refine wpAnyH_take (i := 9) (v := ?_) rfl (by kernel_rfl) (by kernel_rfl) (by kernel_rfl) (fun _ _ _ h => h) (Or.inl ⟨by rfl, ?_⟩) (by assumption) ?_
  rotate_left 1
  · (intro w hSw; (try dsimp only at hSw); first | (go_simp; done) | (go_simp; with_reducible rfl))
  simp only [Act.put, List.getElem_toArray, List.getElem_cons_zero, List.getElem_cons_succ, List.setIfInBounds_toArray, List.set_cons_zero, List.set_cons_succ]
  refine wpAnyH_ready (rs := [8]) (by kernel_rfl) (by simp) ?_
  refine AllReadyH.cons rfl (fun KK hK => ?_) AllReadyH.nil
  have hS1 := Lib.hid hHeld
  go_simp
  go_wp2_with (go_at_call 20; (with_reducible refine (CW.out _ hS1.out.1).mono ?_); rintro en v1 ⟨rfl, hw⟩)
  cases hw
  refine hK.out _ _ hS1.out (fun hHeld2 => ?_)
  clear hK KK hHeld hS1; have hHeld := hHeld2; clear hHeld2
  refine wpAnyH_ready (rs := [10]) (by kernel_rfl) (by simp) ?_
  refine AllReadyH.cons rfl (fun KK hK => ?_) AllReadyH.nil
  have hS1 := Lib.hid hHeld
  go_simp
  go_wp2_with (go_at_call 23; (with_reducible refine (CR.out _).mono ?_); rintro en v1 ⟨rfl, b⟩)
  have S2 := Lib.hid (s6_of R1.out (hS1.out.1.trans (b.mono hS1.out.1.size)))
  refine hK.out _ _ S2.out (fun hHeld2 => ?_)
  clear hK KK hHeld hS1 b S2; have hHeld := hHeld2; clear hHeld2
  refine wpAnyH_take (i := 11) (v := ?_) rfl (by kernel_rfl) (by kernel_rfl) (by kernel_rfl) (fun _ _ _ h => h) (Or.inl ⟨by rfl, ?_⟩) (by assumption) ?_
  rotate_left 1
  · (intro w hSw; (try dsimp only at hSw); first | (go_simp; done) | (go_simp; with_reducible rfl))
  simp only [Act.put, List.getElem_toArray, List.getElem_cons_zero, List.getElem_cons_succ, List.setIfInBounds_toArray, List.set_cons_zero, List.set_cons_succ]
  refine wpAnyH_take (i := 12) (v := ?_) rfl (by kernel_rfl) (by kernel_rfl) (by kernel_rfl) (fun _ _ _ h => h) (Or.inl ⟨by rfl, ?_⟩) (by assumption) ?_
  rotate_left 1
  · (intro w hSw; (try dsimp only at hSw); first | (go_simp; done) | (go_simp; with_reducible rfl))
  simp only [Act.put, List.getElem_toArray, List.getElem_cons_zero, List.getElem_cons_succ, List.setIfInBounds_toArray, List.set_cons_zero, List.set_cons_succ]
  have BL := Lib.hid hHeld.1
  refine wpAnyH_done (by kernel_rfl) ?_ _
  clear hHeld
  go_wp2_with fail
  go_loopw [5] (fun s5 wr => ∃ i : Int, s5 = .int .i64 i ∧ Hid (-1 ≤ i ∧ i ≤ (0 : Int) + 1) ∧ Hid (Below W1.heap.size W1 wr)) (fun s5 _ => (0 + 1 - intOf s5).toNat)
  case atStart => exact ⟨-1, rfl, (show _ ∧ _ from ⟨by decide, by omega⟩), BL.out⟩
  case round =>
    obtain ⟨i, rfl, HI, BW⟩ := hrel
    obtain ⟨_, x0, x1, x2, x3, x4, x5⟩ := s6_of R1.out BW.out
    by_cases hin : i ≤ (0 : Int)
    · have di : decide (i ≤ (0 : Int)) = true := by simpa using hin
      obtain ⟨i1, hi1⟩ : ∃ i1, i + 1 = i1 := ⟨_, rfl⟩
      have HI1 := Lib.hid hi1; have HIN := Lib.hid hin
      have f2 : IntKind.i64.wrap i1 = i1 := by rw [← hi1, IntKind.wrap_i64]; have := HI.out; omega
      have RX1 := Lib.hid (RX.out i wr BW.out)
      have RY1 := Lib.hid (RY.out i wr BW.out)
      clear hin
      go_wp2_with fail
      refine RX1.out.mono ?_; rintro e w5 ⟨rfl, hw⟩
      cases hw
      go_wp2_with fail
      refine RY1.out.mono ?_; rintro e w6 ⟨rfl, b⟩
      have B6 := Lib.hid (BW.out.trans (b.mono BW.out.size))
      clear b x0 x1 x2 x3 x4 x5
      go_wp2_with fail
      go_roundw
      case measure => simp [intOf]; have := HI1.out; have := HIN.out; omega
      case rel => exact ⟨i1, rfl, (by have h1 := HI1.out; have h2 := HIN.out; have h3 := HI.out; exact (show Hid _ from ⟨by omega, by omega⟩)), B6⟩
    · have di : decide (i ≤ (0 : Int)) = false := by simpa using hin
      have BF := Lib.hid (B1.out.trans (BW.out.mono B1.out.size))
      clear hin
      go_wp2_with fail
      go_ret
      exact ⟨rfl, by first | exact BF.out | (rw [hbx]; exact BF.out) | (rw [hbx] at BF; exact BF.out)⟩
end Go.Proofs.Ytgadplgjpemdaaa
