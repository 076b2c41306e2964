/- cmds: the reference's points. -/
import Derived.Test.YthlbenldgnjgcaaDoorLf
namespace Go.Proofs.YthlbenldgnjgcaaDoor
open Go.ChangeShapes Go.WideShapes Go.ChangeAt Go.RowKit Go.Joins Go.Deep

def RpPost (w0 w : World) (N : Nat) (s : RS) (e : Ending) (w' : World) : Prop :=
  ∃ (a : Option Addr) (n cap : Nat) (u : Value), e = .returned (.tuple #[rv (.slice a n cap) (rp N [] s).1.2.1 (rp N [] s).1.2.2, u]) ∧ IntsAt w0 (.slice a n cap) (rp N [] s).1.1 ∧ POwn w' w.heap.size u (rp N [] s).2 ∧ ((rp N [] s).2 = [] → u = .slice none 0 0) ∧ Below w.heap.size w w'
theorem rp_app {W w7 : World} {Q k : Nat} {v v' : Value} {acc : List Pt} {x y : Int} {o : Obj} (ow : W.ownsRow Q 44 2 v k (pcs acc)) (hk : acc.length = k) (gr : (W.alloc o).grownBy w7 v.ownBlock) (own : w7.ownsRow Q 44 2 v' (k + 1) (pcs acc ++ [.int .i64 x, .int .i64 y])) :
    POwn w7 Q v' (acc ++ [(x, y)]) ∧ (∀ g, g < W.heap.size → g < Q → w7.heap[g]? = W.heap[g]?) ∧ (∀ base, base ≤ Q → base ≤ W.heap.size → Below base W w7) := by
  have sa : (W.alloc o).heap.size = W.heap.size + 1 := World.size_alloc _ _
  have nb : ∀ g, v.ownBlock = some g → Q ≤ g := fun g e => (World.ownsRow.lt ow g e).1
  refine ⟨pown_add hk rfl own, fun g hg hq => ?_, fun base hb hs => ?_⟩
  · rw [gr.block g (by omega) (fun e => by have := nb g e.symm; omega), Below.heap_alloc _ _ _ hg]
  · exact Below.grown ((Below.refl _ _).alloc hs o) gr (by omega) (fun j e => by have := nb j e; omega)
set_option maxRecDepth 100000 in
set_option maxHeartbeats 8000000 in
theorem rpoints_any {w0 w : World} {v : Value} {s : RS} {N : Nat} (b0 : Below w0.heap.size w0 w) (h : IntsAt w0 v s.1) (hl : s.1.length ≤ 1000000) (hN : N ≤ 100000) : Calls Tryd.prog 29 #[rv v s.2.1 s.2.2, .int .i64 N] w (RpPost w0 w N s) := by
  obtain ⟨i0, hi0, hz0, hz1, hz2⟩ := info_parts info44
  have II := Lib.hid hi0; have Z0 := Lib.hid hz0; have Z1 := Lib.hid hz1; have Z2 := Lib.hid hz2
  clear hi0 hz0 hz1 hz2
  obtain ⟨R, hR⟩ : ∃ R, rp N [] s = R := ⟨_, rfl⟩
  have HR := Lib.hid hR; have HI := Lib.hid h; have HL := Lib.hid hl; have HN := Lib.hid hN; have B0 := Lib.hid b0
  obtain ⟨ar, cr, hv⟩ := h.form
  subst hv
  obtain ⟨r, ⟨px, py⟩, fl⟩ := s
  dsimp only at *
  obtain ⟨nr, hnr⟩ : ∃ nr, r.length = nr := ⟨_, rfl⟩
  rw [hnr] at HI
  rw [hnr]
  obtain ⟨A, hA⟩ : ∃ A, w.heap.size = A := ⟨_, rfl⟩
  obtain ⟨W1, hW1⟩ : ∃ W1, w.alloc (.cells #[.slice ar nr cr, .int .i64 px, .int .i64 py, .bool fl] 65) = W1 := ⟨_, rfl⟩
  have r1 : Row W1 A 65 [.slice ar nr cr, .int .i64 px, .int .i64 py, .bool fl] := by rw [← hW1, ← hA]; exact Row.new _ _ _
  have b1 : Below w.heap.size w W1 := by rw [← hW1]; exact (Below.refl _ _).alloc (Nat.le_refl _) _
  obtain ⟨B, hB⟩ : ∃ B, W1.heap.size = B := ⟨_, rfl⟩
  obtain ⟨W2, hW2⟩ : ∃ W2, W1.alloc (.cells #[.slice none 0 0, .int .i64 0, .int .i64 0, .bool false] 65) = W2 := ⟨_, rfl⟩
  have r2 : Row W2 B 65 [.slice none 0 0, .int .i64 0, .int .i64 0, .bool false] := by rw [← hW2, ← hB]; exact Row.new _ _ _
  have b2 : Below W1.heap.size W1 W2 := by rw [← hW2]; exact (Below.refl _ _).alloc (Nat.le_refl _) _
  have R12 := Lib.hid (r1.below b2 r1.lt); have R2 := Lib.hid r2
  have BB := Lib.hid (b1.trans (b2.mono b1.size))
  obtain ⟨Q, hQ⟩ : ∃ Q, W2.heap.size = Q := ⟨_, rfl⟩
  have HQ : Hid (Q ≤ W2.heap.size) := by show _ ≤ _; omega
  have OA : Hid (A < B ∧ B < Q ∧ w.heap.size ≤ A) := ⟨by rw [← hB]; exact r1.lt, by rw [← hQ]; exact r2.lt, by omega⟩
  clear r1 b1 r2 b2 h hl hN b0 hR hnr
  go_enter Tryd.func29, Tryd.ntmps29
  go_wp2_with fail
  clear hQ
  go_loopw [6, 7] (fun s6 s7 wr => ∃ (k : Nat) (acc : List Pt) (v' : Value) (s' : RS), k ≤ N ∧ s7 = .int .i64 (k : Int) ∧ Hid (POwn wr Q s6 acc ∧ acc.length = k ∧ (acc = [] → s6 = .slice none 0 0)) ∧ Hid (Row wr A 65 (rc v' s'.2.1 s'.2.2)) ∧ Hid (Row wr B 65 [.slice none 0 0, .int .i64 0, .int .i64 0, .bool false]) ∧ Hid (IntsAt w0 v' s'.1 ∧ s'.1.length ≤ 1000000) ∧ Hid (Below w.heap.size w wr ∧ Q ≤ wr.heap.size) ∧ Hid (rp (N - k) acc s' = R)) (fun _ s7 _ => N - (intOf s7).toNat)
  case atStart => exact ⟨0, [], _, (r, (px, py), fl), Nat.zero_le _, rfl, ⟨World.ownsRow_nil _ _ _ _, rfl, fun _ => rfl⟩, R12.out, R2.out, ⟨HI.out, HL.out⟩, ⟨BB.out, HQ.out⟩, HR.out⟩
  case round =>
    obtain ⟨k, acc, v', s', hk, rfl, OW, RA, RB, IV, BW, HRR⟩ := hrel
    obtain ⟨a', c', hv'⟩ := IV.out.1.form
    subst hv'
    obtain ⟨r', ⟨qx, qy⟩, fl'⟩ := s'
    dsimp only at *
    obtain ⟨n', hn'⟩ : ∃ n', r'.length = n' := ⟨_, rfl⟩
    rw [hn'] at RA IV
    have HNN := Lib.hid hn'
    obtain ⟨a6, c6, hs6⟩ := POwn.form OW.out.1
    rw [OW.out.2.1] at hs6
    subst hs6
    have q0 := RA.out.cell (i := 0) rfl; have q1 := RA.out.cell (i := 1) rfl; have q2 := RA.out.cell (i := 2) rfl; have q3 := RA.out.cell (i := 3) rfl
    dsimp only [rc] at q0 q1 q2 q3
    clear hn'
    by_cases hkn : k < N
    rotate_left 1
    · have kl : ¬ (k : Int) < (N : Int) := by omega
      have RE : Hid (((r', (qx, qy), fl'), acc) = R) := by
        have := HRR.out
        rw [show N - k = 0 by omega, rp] at this; exact this
      have e0 := RB.out.cell (i := 0) rfl; have e1 := RB.out.cell (i := 1) rfl; have e2 := RB.out.cell (i := 2) rfl; have e3 := RB.out.cell (i := 3) rfl
      have f0 := RB.out.fr (i := 0); have f1 := RB.out.fr (i := 1); have f2 := RB.out.fr (i := 2); have f3 := RB.out.fr (i := 3)
      obtain ⟨W9, hW9⟩ : ∃ W9, (((wr.setCell ⟨B, 0, none⟩ (.slice a' n' c')).setCell ⟨B, 1, none⟩ (.int .i64 qx)).setCell ⟨B, 2, none⟩ (.int .i64 qy)).setCell ⟨B, 3, none⟩ (.bool fl') = W9 := ⟨_, rfl⟩
      have rW9 : Row W9 B 65 [.slice a' n' c', .int .i64 qx, .int .i64 qy, .bool fl'] := by rw [← hW9]; exact (((RB.out.set (i := 0) _).set (i := 1) _).set (i := 2) _).set (i := 3) _
      have g0 := rW9.cell (i := 0) rfl; have g1 := rW9.cell (i := 1) rfl; have g2 := rW9.cell (i := 2) rfl; have g3 := rW9.cell (i := 3) rfl
      have B9 : Hid (Below w.heap.size w W9) := by
        have lo : w.heap.size ≤ B := by have := OA.out; omega
        show Below _ _ _; rw [← hW9]; exact (((BW.out.1.setCell lo _).setCell lo _).setCell lo _).setCell lo _
      have O9 : Hid (POwn W9 w.heap.size (.slice a6 k c6) acc) := by
        refine POwn.mono (base := Q) ?_ (by have := OA.out; omega)
        refine POwn.same OW.out.1 (fun g e => ?_)
        have := (pown_base OW.out.1 g e).1
        have := OA.out
        rw [← hW9, Below.heap_setCell _ _ _ _ (by show g ≠ B; omega), Below.heap_setCell _ _ _ _ (by show g ≠ B; omega), Below.heap_setCell _ _ _ _ (by show g ≠ B; omega), Below.heap_setCell _ _ _ _ (by show g ≠ B; omega)]
      clear rW9
      go_wp2_with fail
      refine bodyPost_ret (by simp [results, Tryd.results29, go_sem, g0, g1, g2, g3]; rfl) rfl ?_
      exact ⟨a', n', c', _, by rw [HR.out, ← RE.out], by rw [HR.out, ← RE.out]; exact IV.out.1, by rw [HR.out, ← RE.out]; exact O9.out, by rw [HR.out, ← RE.out]; exact OW.out.2.2, B9.out⟩
    cases fl' with
    | true =>
      have kl : (k : Int) < (N : Int) := by omega
      have RE : Hid (((r', (qx, qy), true), acc) = R) := by
        have := HRR.out
        rw [rp_bad _ _ rfl] at this; exact this
      have e0 := RB.out.cell (i := 0) rfl; have e1 := RB.out.cell (i := 1) rfl; have e2 := RB.out.cell (i := 2) rfl; have e3 := RB.out.cell (i := 3) rfl
      have f0 := RB.out.fr (i := 0); have f1 := RB.out.fr (i := 1); have f2 := RB.out.fr (i := 2); have f3 := RB.out.fr (i := 3)
      obtain ⟨W9, hW9⟩ : ∃ W9, (((wr.setCell ⟨B, 0, none⟩ (.slice a' n' c')).setCell ⟨B, 1, none⟩ (.int .i64 qx)).setCell ⟨B, 2, none⟩ (.int .i64 qy)).setCell ⟨B, 3, none⟩ (.bool true) = W9 := ⟨_, rfl⟩
      have rW9 : Row W9 B 65 [.slice a' n' c', .int .i64 qx, .int .i64 qy, .bool true] := by rw [← hW9]; exact (((RB.out.set (i := 0) _).set (i := 1) _).set (i := 2) _).set (i := 3) _
      have g0 := rW9.cell (i := 0) rfl; have g1 := rW9.cell (i := 1) rfl; have g2 := rW9.cell (i := 2) rfl; have g3 := rW9.cell (i := 3) rfl
      have B9 : Hid (Below w.heap.size w W9) := by
        have lo : w.heap.size ≤ B := by have := OA.out; omega
        show Below _ _ _; rw [← hW9]; exact (((BW.out.1.setCell lo _).setCell lo _).setCell lo _).setCell lo _
      have O9 : Hid (POwn W9 w.heap.size (.slice a6 k c6) acc) := by
        refine POwn.mono (base := Q) ?_ (by have := OA.out; omega)
        refine POwn.same OW.out.1 (fun g e => ?_)
        have := (pown_base OW.out.1 g e).1
        have := OA.out
        rw [← hW9, Below.heap_setCell _ _ _ _ (by show g ≠ B; omega), Below.heap_setCell _ _ _ _ (by show g ≠ B; omega), Below.heap_setCell _ _ _ _ (by show g ≠ B; omega), Below.heap_setCell _ _ _ _ (by show g ≠ B; omega)]
      clear rW9
      go_wp2_with fail
      refine bodyPost_ret (by simp [results, Tryd.results29, go_sem, g0, g1, g2, g3]; rfl) rfl ?_
      exact ⟨a', n', c', _, by rw [HR.out, ← RE.out], by rw [HR.out, ← RE.out]; exact IV.out.1, by rw [HR.out, ← RE.out]; exact O9.out, by rw [HR.out, ← RE.out]; exact OW.out.2.2, B9.out⟩
    | false =>
      have kl : (k : Int) < (N : Int) := by omega
      have KB : Hid (k ≤ 100000) := by have := HN.out; show _ ≤ _; omega
      obtain ⟨ks, hks⟩ : ∃ ks, k + 1 = ks := ⟨_, rfl⟩
      have HKS := Lib.hid hks
      have k1e : (k : Int) + 1 = (ks : Int) := by omega
      have k1w : IntKind.i64.wrap (ks : Int) = (ks : Int) := by have := KB.out; rw [IntKind.wrap_i64]; omega
      have BWW : Hid (Below w0.heap.size w0 wr) := B0.out.trans (BW.out.1.mono B0.out.size)
      have NX := Lib.hid (rnext_any (s := (r', (qx, qy), false)) BWW.out IV.out.1 (by have := IV.out.2; have := HNN.out; show r'.length ≤ _; omega))
      have HRS : Hid (rp (N - ks) (acc ++ [rstep (r', (qx, qy), false)]) (rnext (r', (qx, qy), false)) = R) := by
        have := HRR.out
        rw [show N - k = (N - ks) + 1 by omega, rp, if_neg (by simp)] at this; exact this
      obtain ⟨⟨⟨t1, ⟨ax, ay⟩, fa⟩, x⟩, hn1⟩ : ∃ z, rn (r', (qx, qy), false) = z := ⟨_, rfl⟩
      obtain ⟨⟨⟨t2, ⟨bx, by'⟩, fb⟩, y⟩, hn2⟩ : ∃ z, rn (t1, (ax, ay), fa) = z := ⟨_, rfl⟩
      have le1 := rn_le (r', (qx, qy), false); have le2 := rn_le (t1, (ax, ay), fa)
      rw [hn1] at le1; rw [hn2] at le2
      dsimp only at le1 le2
      have L1 : Hid (t1.length ≤ 1000000) := by have := IV.out.2; have := HNN.out; show _ ≤ _; omega
      have L2 : Hid (t2.length ≤ 1000000) := by have := L1.out; show _ ≤ _; omega
      have U0 := Lib.hid (fun W => uzr_any x le1.2.1 (by omega) W); have U1 := Lib.hid (fun W => uzr_any y le2.2.1 (by omega) W)
      obtain ⟨⟨mx, my⟩, hm⟩ : ∃ z, rstep (r', (qx, qy), false) = z := ⟨_, rfl⟩
      have hm2 : mv (ax, ay) x y = (mx, my) := by rw [← hm]; unfold rstep; rw [hn1]; dsimp only; rw [hn2]
      have HNX : rnext (r', (qx, qy), false) = (t2, (mx, my), fb) := by unfold rnext; rw [hm, hn1]; dsimp only; rw [hn2]
      rw [hm, HNX] at HRS
      unfold mv at hm2
      injection hm2 with e1 e2
      dsimp only at e1 e2
      obtain ⟨ux, hux⟩ : ∃ u, uz x = u := ⟨_, rfl⟩
      obtain ⟨uy, huy⟩ : ∃ u, uz y = u := ⟨_, rfl⟩
      rw [hux] at e1 U0; rw [huy] at e2 U1
      unfold RnPost at NX
      rw [hn1] at NX
      dsimp only at NX
      have H12 := Lib.hid hn2
      clear hks hn1 hn2 le1 le2 hm HNX HRR hux huy
      go_wp2_with fail
      refine NX.out.mono ?_; rintro e w1 ⟨a1, n1, c1, rfl, i1, b1⟩
      have I1 := Lib.hid i1
      have Bw1 : Hid (Below w.heap.size w w1 ∧ Below wr.heap.size wr w1) := ⟨BW.out.1.trans (b1.mono BW.out.1.size), b1⟩
      obtain ⟨C, hC⟩ : ∃ C, w1.heap.size = C := ⟨_, rfl⟩
      obtain ⟨W3, hW3⟩ : ∃ W3, w1.alloc (.cells #[.slice none 0 0, .int .i64 0, .int .i64 0, .bool false] 65) = W3 := ⟨_, rfl⟩
      have rW3 : Row W3 C 65 [.slice none 0 0, .int .i64 0, .int .i64 0, .bool false] := by rw [← hW3, ← hC]; exact Row.new _ _ _
      have bW3 : Below w1.heap.size w1 W3 := by rw [← hW3]; exact (Below.refl _ _).alloc (Nat.le_refl _) _
      obtain ⟨W4, hW4⟩ : ∃ W4, (((W3.setCell ⟨C, 0, none⟩ (.slice a1 n1 c1)).setCell ⟨C, 1, none⟩ (.int .i64 ax)).setCell ⟨C, 2, none⟩ (.int .i64 ay)).setCell ⟨C, 3, none⟩ (.bool fa) = W4 := ⟨_, rfl⟩
      have rW4 : Row W4 C 65 [.slice a1 n1 c1, .int .i64 ax, .int .i64 ay, .bool fa] := by rw [← hW4]; exact (((rW3.set (i := 0) _).set (i := 1) _).set (i := 2) _).set (i := 3) _
      have bW4 : Below w1.heap.size w1 W4 := by
        have lo : w1.heap.size ≤ C := by rw [hC]; exact Nat.le_refl _
        rw [← hW4]; exact (((bW3.setCell lo _).setCell lo _).setCell lo _).setCell lo _
      have z0C := rW3.cell (i := 0) rfl; have z1C := rW3.cell (i := 1) rfl; have z2C := rW3.cell (i := 2) rfl; have z3C := rW3.cell (i := 3) rfl
      have zf0C := rW3.fr (i := 0); have zf1C := rW3.fr (i := 1); have zf2C := rW3.fr (i := 2); have zf3C := rW3.fr (i := 3)
      have Bw4 : Hid (Below w.heap.size w W4 ∧ Below wr.heap.size wr W4) := ⟨Bw1.out.1.trans (bW4.mono Bw1.out.1.size), Bw1.out.2.trans (bW4.mono Bw1.out.2.size)⟩
      have RC := Lib.hid rW4
      have y0 := rW4.cell (i := 0) rfl; have y1 := rW4.cell (i := 1) rfl; have y2 := rW4.cell (i := 2) rfl; have y3 := rW4.cell (i := 3) rfl
      have LC : Hid (wr.heap.size ≤ C) := by show _ ≤ _; rw [← hC]; exact Bw1.out.2.size
      have NX2 := Lib.hid (rnext_any (s := (t1, (ax, ay), fa)) (B0.out.trans (Bw4.out.1.mono B0.out.size)) I1.out L1.out)
      unfold RnPost at NX2
      rw [H12.out] at NX2
      dsimp only at NX2
      clear i1 b1 NX rW3 bW3 rW4 bW4 q0 q1 q2 q3
      go_wp2_with fail
      refine NX2.out.mono ?_; rintro e w5 ⟨a2, n2, c2, rfl, i2, b5⟩
      have I2 := Lib.hid i2
      have Bw5 : Hid (Below w.heap.size w w5 ∧ Below wr.heap.size wr w5) := ⟨Bw4.out.1.trans (b5.mono Bw4.out.1.size), Bw4.out.2.trans (b5.mono Bw4.out.2.size)⟩
      have RC5 := Lib.hid (RC.out.below b5 RC.out.lt)
      obtain ⟨D, hD⟩ : ∃ D, w5.heap.size = D := ⟨_, rfl⟩
      obtain ⟨W6, hW6⟩ : ∃ W6, w5.alloc (.cells #[.slice none 0 0, .int .i64 0, .int .i64 0, .bool false] 65) = W6 := ⟨_, rfl⟩
      have rW6 : Row W6 D 65 [.slice none 0 0, .int .i64 0, .int .i64 0, .bool false] := by rw [← hW6, ← hD]; exact Row.new _ _ _
      have bW6 : Below w5.heap.size w5 W6 := by rw [← hW6]; exact (Below.refl _ _).alloc (Nat.le_refl _) _
      obtain ⟨W7, hW7⟩ : ∃ W7, (((W6.setCell ⟨D, 0, none⟩ (.slice a2 n2 c2)).setCell ⟨D, 1, none⟩ (.int .i64 bx)).setCell ⟨D, 2, none⟩ (.int .i64 by')).setCell ⟨D, 3, none⟩ (.bool fb) = W7 := ⟨_, rfl⟩
      have rW7 : Row W7 D 65 [.slice a2 n2 c2, .int .i64 bx, .int .i64 by', .bool fb] := by rw [← hW7]; exact (((rW6.set (i := 0) _).set (i := 1) _).set (i := 2) _).set (i := 3) _
      have bW7 : Below w5.heap.size w5 W7 := by
        have lo : w5.heap.size ≤ D := by rw [hD]; exact Nat.le_refl _
        rw [← hW7]; exact (((bW6.setCell lo _).setCell lo _).setCell lo _).setCell lo _
      have z0D := rW6.cell (i := 0) rfl; have z1D := rW6.cell (i := 1) rfl; have z2D := rW6.cell (i := 2) rfl; have z3D := rW6.cell (i := 3) rfl
      have zf0D := rW6.fr (i := 0); have zf1D := rW6.fr (i := 1); have zf2D := rW6.fr (i := 2); have zf3D := rW6.fr (i := 3)
      have Bw7 : Hid (Below w.heap.size w W7 ∧ Below wr.heap.size wr W7) := ⟨Bw5.out.1.trans (bW7.mono Bw5.out.1.size), Bw5.out.2.trans (bW7.mono Bw5.out.2.size)⟩
      have RD := Lib.hid rW7
      have y0 := rW7.cell (i := 0) rfl; have y1 := rW7.cell (i := 1) rfl; have y2 := rW7.cell (i := 2) rfl; have y3 := rW7.cell (i := 3) rfl
      have RC7 := Lib.hid (RC5.out.below bW7 RC5.out.lt)
      have RA7 := Lib.hid (RA.out.below Bw7.out.2 RA.out.lt)
      have s0 := RA7.out.cell (i := 0) rfl; have s1 := RA7.out.cell (i := 1) rfl; have s2 := RA7.out.cell (i := 2) rfl; have s3 := RA7.out.cell (i := 3) rfl
      have sf0 := RA7.out.fr (i := 0); have sf1 := RA7.out.fr (i := 1); have sf2 := RA7.out.fr (i := 2); have sf3 := RA7.out.fr (i := 3)
      dsimp only [rc] at s0 s1 s2 s3
      obtain ⟨W8, hW8⟩ : ∃ W8, (((W7.setCell ⟨A, 0, none⟩ (.slice a2 n2 c2)).setCell ⟨A, 1, none⟩ (.int .i64 bx)).setCell ⟨A, 2, none⟩ (.int .i64 by')).setCell ⟨A, 3, none⟩ (.bool fb) = W8 := ⟨_, rfl⟩
      have rW8 : Row W8 A 65 [.slice a2 n2 c2, .int .i64 bx, .int .i64 by', .bool fb] := by rw [← hW8]; exact (((RA7.out.set (i := 0) _).set (i := 1) _).set (i := 2) _).set (i := 3) _
      have LAC : Hid (A ≠ C) := by have := LC.out; have := RA.out.lt; show _ ≠ _; omega
      have rc8 : Row W8 C 65 [.slice a1 n1 c1, .int .i64 ax, .int .i64 ay, .bool fa] := by
        rw [← hW8]; exact (((RC7.out.other (by exact fun e => LAC.out e.symm)).other (by exact fun e => LAC.out e.symm)).other (by exact fun e => LAC.out e.symm)).other (by exact fun e => LAC.out e.symm)
      obtain ⟨WX, hWX⟩ : ∃ WX, (W8.setCell ⟨A, 1, none⟩ (.int .i64 mx)).setCell ⟨A, 2, none⟩ (.int .i64 my) = WX := ⟨_, rfl⟩
      obtain ⟨W9, hW9⟩ : ∃ W9, WX.drew = W9 := ⟨_, rfl⟩
      have r9 : Row W9 A 65 [.slice a2 n2 c2, .int .i64 mx, .int .i64 my, .bool fb] := by
        rw [← hW9]
        have rd : Row WX A 65 [.slice a2 n2 c2, .int .i64 mx, .int .i64 my, .bool fb] := by rw [← hWX]; exact (rW8.set (i := 1) _).set (i := 2) _
        exact rd
      have R9 := Lib.hid r9
      have kp9 : ∀ g, g ≠ A → W9.heap[g]? = W7.heap[g]? := fun g hg => by
        rw [← hW9]
        show WX.heap[g]? = _
        rw [← hWX, Below.heap_setCell _ _ _ _ (by exact hg), Below.heap_setCell _ _ _ _ (by exact hg)]
        rw [← hW8, Below.heap_setCell _ _ _ _ (by exact hg), Below.heap_setCell _ _ _ _ (by exact hg), Below.heap_setCell _ _ _ _ (by exact hg), Below.heap_setCell _ _ _ _ (by exact hg)]
      have b9 : Below A W7 W9 := by
        have l8 : Below A W7 W8 := by rw [← hW8]; exact ((((Below.refl A W7).setCell (by exact Nat.le_refl A) _).setCell (by exact Nat.le_refl A) _).setCell (by exact Nat.le_refl A) _).setCell (by exact Nat.le_refl A) _
        rw [← hW9, ← hWX]; exact ((l8.setCell (by exact Nat.le_refl A) _).setCell (by exact Nat.le_refl A) _).drew
      have B9 : Hid (Below w.heap.size w W9) := Bw7.out.1.trans (b9.mono OA.out.2.2)
      have SZ9 : Hid (Q ≤ W9.heap.size) := by have h1 := BW.out.2; have h2 := Bw7.out.2.size; have h3 := b9.size; show _ ≤ _; omega
      have OX : Hid (W9.ownsRow Q 44 2 (.slice a6 k c6) k (pcs acc)) := by
        have h1 : POwn W9 Q (.slice a6 k c6) acc := POwn.same OW.out.1 (fun g e => by
          have h2 := pown_base OW.out.1 g e
          have h3 := OA.out
          rw [kp9 g (by omega), Bw7.out.2.block g h2.2])
        unfold POwn at h1
        rw [OW.out.2.1] at h1; exact h1
      have HLA := Lib.hid OW.out.2.1
      have RB9 : Hid (Row W9 B 65 [.slice none 0 0, .int .i64 0, .int .i64 0, .bool false]) := (RB.out.below Bw7.out.2 RB.out.lt).same (kp9 B (by have := OA.out; omega))
      have v1 := rc8.cell (i := 1) rfl; have v2 := rc8.cell (i := 2) rfl
      have t1f := rW8.fr (i := 1); have t2f := rW8.fr (i := 2); have t1c := rW8.cell (i := 1) rfl; have t2c := rW8.cell (i := 2) rfl
      have w1c := r9.cell (i := 1) rfl; have w2c := r9.cell (i := 2) rfl
      clear i2 b5 NX2 rW6 bW6 rW7 bW7 rW8 rc8 r9 kp9 b9
      go_wp2_with fail
      refine wp_region_drop (fun W => W.cell? ⟨C, 1, none⟩ = some (.int .i64 ax) ∧ W.cell? ⟨C, 2, none⟩ = some (.int .i64 ay)) 14 (by kernel_rfl) ⟨v1, v2⟩ (fun hHeld => ?_)
      refine wpAnyD_pure (i := 0) (v := ?_) rfl (by kernel_rfl) (by kernel_rfl) (by kernel_rfl) (by rfl) (fun _ _ _ h => h) (Or.inl ⟨by rfl, ?_⟩) (by assumption) ?_
      rotate_left 1
      · (intro w; first | (go_simp; done) | (go_simp; with_reducible rfl))
      simp only [Act.put, List.getElem_toArray, List.getElem_cons_zero, List.setIfInBounds_toArray, List.set_cons_zero, List.set_cons_succ]
      refine wpAnyD_pure (i := 1) (v := ?_) rfl (by kernel_rfl) (by kernel_rfl) (by kernel_rfl) (by rfl) (fun _ _ _ h => h) (Or.inl ⟨by rfl, ?_⟩) (by assumption) ?_
      rotate_left 1
      · (intro w; first | (go_simp; done) | (go_simp; with_reducible rfl))
      simp only [Act.put, List.getElem_toArray, List.getElem_cons_zero, List.getElem_cons_succ, List.setIfInBounds_toArray, List.set_cons_zero, List.set_cons_succ]
      refine wpAnyD_take (i := 2) (v := ?_) rfl (by kernel_rfl) (by kernel_rfl) (by kernel_rfl) (by kernel_rfl) (fun _ _ _ h => h) (Or.inl ⟨by rfl, ?_⟩) (by assumption) ?_
      rotate_left 1
      · (intro w hSw; (try dsimp only at hSw); first | (go_simp; done) | (go_simp; with_reducible rfl))
      simp only [Act.put, List.getElem_toArray, List.getElem_cons_zero, List.getElem_cons_succ, List.setIfInBounds_toArray, List.set_cons_zero, List.set_cons_succ]
      refine wpAnyD_pure (i := 3) (v := ?_) rfl (by kernel_rfl) (by kernel_rfl) (by kernel_rfl) (by rfl) (fun _ _ _ h => h) (Or.inl ⟨by rfl, ?_⟩) (by assumption) ?_
      rotate_left 1
      · (intro w; first | (go_simp; done) | (go_simp; with_reducible rfl))
      simp only [Act.put, List.getElem_toArray, List.getElem_cons_zero, List.getElem_cons_succ, List.setIfInBounds_toArray, List.set_cons_zero, List.set_cons_succ]
      refine wpAnyD_pure (i := 6) (v := ?_) rfl (by kernel_rfl) (by kernel_rfl) (by kernel_rfl) (by rfl) (fun _ _ _ h => h) (Or.inl ⟨by rfl, ?_⟩) (by assumption) ?_
      rotate_left 1
      · (intro w; first | (go_simp; done) | (go_simp; with_reducible rfl))
      simp only [Act.put, List.getElem_toArray, List.getElem_cons_zero, List.getElem_cons_succ, List.setIfInBounds_toArray, List.set_cons_zero, List.set_cons_succ]
      refine wpAnyD_pure (i := 7) (v := ?_) rfl (by kernel_rfl) (by kernel_rfl) (by kernel_rfl) (by rfl) (fun _ _ _ h => h) (Or.inl ⟨by rfl, ?_⟩) (by assumption) ?_
      rotate_left 1
      · (intro w; first | (go_simp; done) | (go_simp; with_reducible rfl))
      simp only [Act.put, List.getElem_toArray, List.getElem_cons_zero, List.getElem_cons_succ, List.setIfInBounds_toArray, List.set_cons_zero, List.set_cons_succ]
      refine wpAnyD_take (i := 8) (v := ?_) rfl (by kernel_rfl) (by kernel_rfl) (by kernel_rfl) (by kernel_rfl) (fun _ _ _ h => h) (Or.inl ⟨by rfl, ?_⟩) (by assumption) ?_
      rotate_left 1
      · (intro w hSw; (try dsimp only at hSw); first | (go_simp; done) | (go_simp; with_reducible rfl))
      simp only [Act.put, List.getElem_toArray, List.getElem_cons_zero, List.getElem_cons_succ, List.setIfInBounds_toArray, List.set_cons_zero, List.set_cons_succ]
      refine wpAnyD_pure (i := 9) (v := ?_) rfl (by kernel_rfl) (by kernel_rfl) (by kernel_rfl) (by rfl) (fun _ _ _ h => h) (Or.inl ⟨by rfl, ?_⟩) (by assumption) ?_
      rotate_left 1
      · (intro w; first | (go_simp; done) | (go_simp; with_reducible rfl))
      simp only [Act.put, List.getElem_toArray, List.getElem_cons_zero, List.getElem_cons_succ, List.setIfInBounds_toArray, List.set_cons_zero, List.set_cons_succ]
      refine wpAnyD_one (i := 4) (by decide +kernel) (by decide) rfl (fun K hK => ?_)
      go_simp
      go_wp2_with (go_at_call 32; (with_reducible refine (U0.out _).mono ?_); rintro en w8 ⟨rfl, rfl⟩)
      refine hK.out _ _ hHeld (fun _ => ?_)
      clear hK K
      refine wpAnyD_pure (i := 5) (v := ?_) rfl (by kernel_rfl) (by kernel_rfl) (by kernel_rfl) (by rfl) (fun _ _ _ h => h) (Or.inl ⟨by rfl, ?_⟩) (by assumption) ?_
      rotate_left 1
      · (intro w; first | (go_simp; done) | (go_simp; with_reducible rfl))
      simp only [Act.put, List.getElem_toArray, List.getElem_cons_zero, List.getElem_cons_succ, List.setIfInBounds_toArray, List.set_cons_zero, List.set_cons_succ]
      refine wpAnyD_one (i := 10) (by decide +kernel) (by decide) rfl (fun K hK => ?_)
      go_simp
      go_wp2_with (go_at_call 32; (with_reducible refine (U1.out _).mono ?_); rintro en w8 ⟨rfl, rfl⟩)
      refine hK.out _ _ hHeld (fun _ => ?_)
      clear hK K
      refine wpAnyD_pure (i := 11) (v := ?_) rfl (by kernel_rfl) (by kernel_rfl) (by kernel_rfl) (by rfl) (fun _ _ _ h => h) (Or.inl ⟨by rfl, ?_⟩) (by assumption) ?_
      rotate_left 1
      · (intro w; first | (go_simp; done) | (go_simp; with_reducible rfl))
      simp only [Act.put, List.getElem_toArray, List.getElem_cons_zero, List.getElem_cons_succ, List.setIfInBounds_toArray, List.set_cons_zero, List.set_cons_succ]
      refine wpAnyD_pure (i := 12) (v := ?_) rfl (by kernel_rfl) (by kernel_rfl) (by kernel_rfl) (by rfl) (fun _ _ _ h => h) (Or.inl ⟨by rfl, ?_⟩) (by assumption) ?_
      rotate_left 1
      · (intro w; first | (go_simp; done) | (go_simp; with_reducible rfl))
      simp only [Act.put, List.getElem_toArray, List.getElem_cons_zero, List.getElem_cons_succ, List.setIfInBounds_toArray, List.set_cons_zero, List.set_cons_succ]
      refine wpAnyD_pure (i := 13) (v := ?_) rfl (by kernel_rfl) (by kernel_rfl) (by kernel_rfl) (by rfl) (fun _ _ _ h => h) (Or.inl ⟨by rfl, ?_⟩) (by assumption) ?_
      rotate_left 1
      · (intro w; first | (go_simp; done) | (go_simp; with_reducible rfl))
      simp only [Act.put, List.getElem_toArray, List.getElem_cons_zero, List.getElem_cons_succ, List.setIfInBounds_toArray, List.set_cons_zero, List.set_cons_succ]
      clear hHeld
      refine wpAnyD_drop (by kernel_rfl) rfl (fun K hK => ?_)
      go_simp
      refine hK.out _ _ ?_
      clear hK K
      refine wpAny_done (by kernel_rfl) ?_ _
      clear v1 v2 t1f t2f t1c t2c
      go_wp2_with (at_builtin; refine wpList_append_own_at _ rfl _ _ 42 rfl Q 44 i0 (.agg #[.int .i64 0, .int .i64 0]) 2 16 Tryd.underlying42 II.out Z0.out Z1.out Z2.out rfl (by decide) (.slice a6 k c6) k (pcs acc) rfl (OX.out.alloc _) ⟨W9.heap.size, 0, none⟩ 1 1 [.int .i64 mx, .int .i64 my] rfl rfl (two_new _ _ _ _) (by simp [Value.oneCell']) (by have := KB.out; unfold maxLen; omega) (by have := KB.out; omega) (by have := SZ9.out; simp; omega) ?_; intro v7 w7 hown' hgrow hnil hloc; have F7 := Lib.hid (rp_app OX.out HLA.out hgrow hown'); have E7 := Lib.hid hown'; obtain ⟨a7, c7, hv7⟩ := own_form hown'; subst hv7; clear hown' hgrow hnil hloc)
      go_wp2_with fail
      go_roundw
      case measure => have := HKS.out; simp [intOf]; omega
      case rel =>
        have hlt := OA.out
        have r7 : Row w7 A 65 [.slice a2 n2 c2, .int .i64 mx, .int .i64 my, .bool fb] := R9.out.same (F7.out.2.1 A R9.out.lt (by omega))
        have rb7 : Row w7 B 65 [.slice none 0 0, .int .i64 0, .int .i64 0, .bool false] := RB9.out.same (F7.out.2.1 B RB9.out.lt (by omega))
        have bb := F7.out.2.2 w.heap.size (by omega) B9.out.size
        exact ⟨ks, acc ++ [(mx, my)], _, (t2, (mx, my), fb), by have := HKS.out; omega, rfl, ⟨F7.out.1, by rw [List.length_append, HLA.out]; exact HKS.out, fun e => by simp at e⟩, r7, rb7, ⟨I2.out, L2.out⟩, ⟨B9.out.trans bb, by have := SZ9.out; have := bb.size; omega⟩, HRS.out⟩
end Go.Proofs.YthlbenldgnjgcaaDoor
