/- device: the reference's After. -/
import Derived.Test.YtgadplgjpemdaaaVm
set_option linter.unusedSimpArgs false
namespace Go.Proofs.Ytgadplgjpemdaaa
open Go.ChangeShapes Go.WideShapes Go.ChangeAt Go.RowKit Go.Joins Go.Deep

theorem rep_strs : ∀ (l : List (Nat × ByteArray)) (bs : List ByteArray) (p : Nat × ByteArray), (l ++ [p]).foldl (fun (bs : List ByteArray) p => bs.set p.1 p.2) bs = (l.foldl (fun (bs : List ByteArray) p => bs.set p.1 p.2) bs).set p.1 p.2 := fun l bs p => by rw [List.foldl_append]; rfl
def repS (bs : List ByteArray) (l : List (Nat × ByteArray)) : List ByteArray := l.foldl (fun bs p => bs.set p.1 p.2) bs
theorem repS_len : ∀ (l : List (Nat × ByteArray)) (bs : List ByteArray), (repS bs l).length = bs.length
  | [], _ => rfl
  | p :: l, bs => by show (repS (bs.set p.1 p.2) l).length = _; rw [repS_len l, List.length_set]
def itz (l : List (Nat × ByteArray)) : List Value := its (l.map (·.1))
def stz (l : List (Nat × ByteArray)) : List Value := sts (l.map (·.2))
theorem itz_at {l : List (Nat × ByteArray)} {j : Nat} (h : j < l.length) : (itz l)[j]? = some (.int .i64 ((l.getD j (0, ByteArray.empty)).1 : Int)) := by
  unfold itz its; rw [List.getElem?_map, List.getElem?_map, List.getElem?_eq_getElem h, List.getD, List.getElem?_eq_getElem h]; rfl
theorem stz_at {l : List (Nat × ByteArray)} {j : Nat} (h : j < l.length) : (stz l)[j]? = some (.string (l.getD j (0, ByteArray.empty)).2) := by
  unfold stz sts; rw [List.getElem?_map, List.getElem?_map, List.getElem?_eq_getElem h, List.getD, List.getElem?_eq_getElem h]; rfl
set_option maxRecDepth 100000 in
set_option maxHeartbeats 2000000 in
theorem afterr_nil (w : World) (aB aF aA aP : Option Addr) (nB nF nA nP kB kF kA kP : Nat) (left : Int) (i : Int) :
    Calls Try.prog 18 #[rv true (.slice aB nB kB) (.slice aF nF kF) (.slice aA nA kA) (.slice aP nP kP) left, .int .i64 i] w fun e w' => e = .returned (rv true (.slice aB nB kB) (.slice aF nF kF) (.slice aA nA kA) (.slice aP nP kP) left) ∧ Below w.heap.size w w' := by
  obtain ⟨bx, hbx⟩ : ∃ bx, w.heap.size = bx := ⟨_, rfl⟩
  obtain ⟨W1, hW1⟩ : ∃ W1, w.alloc (.cells #[.bool true, .slice aB nB kB, .slice aF nF kF, .slice aA nA kA, .slice aP nP kP, .int .i64 left] 31) = W1 := ⟨_, rfl⟩
  have r1 : Row W1 bx 31 (rcs true (.slice aB nB kB) (.slice aF nF kF) (.slice aA nA kA) (.slice aP nP kP) left) := by rw [← hW1, ← hbx]; exact Row.new _ _ _
  obtain ⟨rb, hrb⟩ : ∃ rb, W1.heap.size = rb := ⟨_, rfl⟩
  obtain ⟨W2, hW2⟩ : ∃ W2, W1.alloc (.cells #[.bool false, .slice none 0 0, .slice none 0 0, .slice none 0 0, .slice none 0 0, .int .i64 0] 31) = W2 := ⟨_, rfl⟩
  have q3 : Row W2 rb 31 zcs := by rw [← hW2, ← hrb]; exact Row.new _ _ _
  have r3 : Row W2 bx 31 (rcs true (.slice aB nB kB) (.slice aF nF kF) (.slice aA nA kA) (.slice aP nP kP) left) := r1.same (by rw [← hW2]; exact Below.heap_alloc _ _ _ r1.lt)
  have b3 : Below bx w W2 := by rw [← hW2, ← hW1, ← hbx]; exact ((Below.refl _ _).alloc (Nat.le_refl _) _).alloc (by rw [size_al]; omega) _
  have hlt : bx < rb := by rw [← hrb, ← hW1, size_al, ← hbx]; omega
  obtain ⟨W4, hW4, q4, b4⟩ := set6 q3 (.bool true) (.slice aB nB kB) (.slice aF nF kF) (.slice aA nA kA) (.slice aP nP kP) (.int .i64 left)
  have BF := Lib.hid (b4 bx w (Nat.le_of_lt hlt) b3)
  have e0 := r3.cell (i := 0) rfl; have e1 := r3.cell (i := 1) rfl; have e2 := r3.cell (i := 2) rfl; have e3 := r3.cell (i := 3) rfl; have e4 := r3.cell (i := 4) rfl; have e5 := r3.cell (i := 5) rfl
  have c0 := q3.cell (i := 0) rfl; have c1 := q3.cell (i := 1) rfl; have c2 := q3.cell (i := 2) rfl; have c3 := q3.cell (i := 3) rfl; have c4 := q3.cell (i := 4) rfl; have c5 := q3.cell (i := 5) rfl
  have k0 := q3.fr (i := 0); have k1 := q3.fr (i := 1); have k2 := q3.fr (i := 2); have k3 := q3.fr (i := 3); have k4 := q3.fr (i := 4); have k5 := q3.fr (i := 5)
  have g0 := q4.cell (i := 0) rfl; have g1 := q4.cell (i := 1) rfl; have g2 := q4.cell (i := 2) rfl; have g3 := q4.cell (i := 3) rfl; have g4 := q4.cell (i := 4) rfl; have g5 := q4.cell (i := 5) rfl
  clear r1 r3 q3 q4 b3 b4 hlt
  go_enter Try.func18, Try.ntmps18
  go_wp2_with fail
  refine bodyPost_ret (by simp [results, Try.results18, go_sem, g0, g1, g2, g3, g4, g5]; rfl) rfl ⟨?_, by first | exact BF.out | (rw [hbx]; exact BF.out)⟩
  rfl
set_option maxRecDepth 100000 in
set_option maxHeartbeats 8000000 in
theorem afterr_any (w : World) (B : Nat) (pF : Addr) (aB aA aP : Option Addr) (n m kF nB kB kA kP : Nat) (fs : List ByteArray) (l : List (Nat × ByteArray)) (left i : Int)
    (hF : w.ownsRow B 9 1 (.slice (some pF) n kF) n (sts fs)) (hA : w.ownsRow B 3 1 (.slice aA m kA) m (itz l)) (hP : w.ownsRow B 9 1 (.slice aP m kP) m (stz l)) (hl : ∀ p ∈ l, p.1 < n) (hn : 1 ≤ n ∧ n ≤ 1000 ∧ m ≤ 1000) :
    Calls Try.prog 18 #[rv false (.slice aB nB kB) (.slice (some pF) n kF) (.slice aA m kA) (.slice aP m kP) left, .int .i64 i] w fun e w' => ∃ g k, e = .returned (rv false (.slice (some ⟨g, 0, none⟩) n k) (.slice (some ⟨g, 0, none⟩) n k) nilS nilS (-1)) ∧
      w'.ownsRow w.heap.size 9 1 (.slice (some ⟨g, 0, none⟩) n k) n (sts (repS fs (l.take (kk m i)))) ∧ Below w.heap.size w w' := by
  obtain ⟨bx, hbx⟩ : ∃ bx, w.heap.size = bx := ⟨_, rfl⟩
  obtain ⟨W1, hW1⟩ : ∃ W1, w.alloc (.cells #[.bool false, .slice aB nB kB, .slice (some pF) n kF, .slice aA m kA, .slice aP m kP, .int .i64 left] 31) = W1 := ⟨_, rfl⟩
  have r1 : Row W1 bx 31 (rcs false (.slice aB nB kB) (.slice (some pF) n kF) (.slice aA m kA) (.slice aP m kP) left) := by rw [← hW1, ← hbx]; exact Row.new _ _ _
  obtain ⟨rb, hrb⟩ : ∃ rb, W1.heap.size = rb := ⟨_, rfl⟩
  obtain ⟨W2, hW2⟩ : ∃ W2, W1.alloc (.cells #[.bool false, .slice none 0 0, .slice none 0 0, .slice none 0 0, .slice none 0 0, .int .i64 0] 31) = W2 := ⟨_, rfl⟩
  have q2 : Row W2 rb 31 zcs := by rw [← hW2, ← hrb]; exact Row.new _ _ _
  have r2 : Row W2 bx 31 (rcs false (.slice aB nB kB) (.slice (some pF) n kF) (.slice aA m kA) (.slice aP m kP) left) := r1.same (by rw [← hW2]; exact Below.heap_alloc _ _ _ r1.lt)
  have b2 : Below bx w W2 := by rw [← hW2, ← hW1, ← hbx]; exact ((Below.refl _ _).alloc (Nat.le_refl _) _).alloc (by rw [size_al]; omega) _
  have hlt : bx < rb := by rw [← hrb, ← hW1, size_al, ← hbx]; omega
  have y0 := r2.cell (i := 0) rfl; have y2 := r2.cell (i := 2) rfl
  have R2 := Lib.hid r2; have Q2 := Lib.hid q2; have B2 := Lib.hid b2
  have LT : Hid (bx < rb ∧ rb < W2.heap.size) := ⟨hlt, q2.lt⟩
  have HF := Lib.hid hF; have HA := Lib.hid hA; have HP := Lib.hid hP; have HL := Lib.hid hl
  have BW : Hid (Below w.heap.size w W2) := by show Below _ _ _; rw [hbx]; exact b2
  have HX := Lib.hid hbx
  have NN := Lib.hid hn
  have LF : Hid ((sts fs).length = n * 1) := by have := hF.1; show _ = _; omega
  have LL : Hid (l.length = m) := by
    have h := hA.1
    unfold itz its at h
    rw [List.length_map, List.length_map] at h
    show _ = _; omega
  have LFS : Hid (fs.length = n) := by have h := hF.1; unfold sts at h; rw [List.length_map] at h; show _ = _; omega
  obtain ⟨K, hK⟩ : ∃ K, kk m i = K := ⟨_, rfl⟩
  have HK := Lib.hid hK
  have KM : Hid (K ≤ m) := by show K ≤ m; rw [← hK]; exact kk_le m i
  obtain ⟨i9, hi9, hz90, hz91, hz92⟩ := info_parts (show (Try.prog.info? 9).map (fun i => (i.zero, i.size, i.bytes)) = some (some (.string ByteArray.empty), 1, 16) by kernel_rfl)
  have II9 := Lib.hid hi9; have Z90 := Lib.hid hz90; have Z91 := Lib.hid hz91; have Z92 := Lib.hid hz92
  rw [hK]
  clear r1 r2 q2 b2 hlt hF hA hP hl hn hi9 hz90 hz91 hz92 hK
  go_enter Try.func18, Try.ntmps18
  go_wp2_with (at_builtin; refine wpList_append_own_at _ rfl _ _ 28 rfl (rb + 1) 9 i9 (.string ByteArray.empty) 1 16 Try.underlying28 II9.out Z90.out Z91.out Z92.out rfl (by decide) (.slice none 0 0) 0 [] rfl (World.ownsRow_nil _ _ _ _) pF n kF (sts fs) rfl LF.out (own_news HF.out BW.out) (sts_one _) (by have := NN.out; unfold maxLen; omega) (by have := NN.out; omega) (by have := LT.out; omega) ?_; intro v1 w5 ho1 hg1 hn1 hl1; have O1 := (Lib.hid ho1); have G1 := (Lib.hid hg1); clear ho1 hg1 hn1 hl1)
  rw [Nat.zero_add, List.nil_append] at O1
  obtain ⟨g1, k1, he1, hb1⟩ : ∃ g1 k1, v1 = .slice (some ⟨g1, 0, none⟩) n k1 ∧ rb + 1 ≤ g1 := by
    rcases O1.out.2 with ⟨_, h⟩ | ⟨g, cap, cur, e, hb, _⟩
    · have := NN.out; omega
    · exact ⟨g, cap, e, hb⟩
  subst he1
  have HB1 := Lib.hid hb1
  have R5 := Lib.hid (R2.out.same (G1.out.block bx (by have := LT.out; omega) (fun e => by cases e)))
  have Q5 := Lib.hid (Q2.out.same (G1.out.block rb LT.out.2 (fun e => by cases e)))
  have B5 := Lib.hid (B2.out.grown G1.out (by have := LT.out; omega) (fun k e => by cases e))
  clear hb1 y0 y2
  go_loopw [6] (fun s6 wr => ∃ j : Nat, j ≤ K ∧ s6 = .int .i64 (j : Int) ∧ Hid (wr.ownsRow (rb + 1) 9 1 (.slice (some ⟨g1, 0, none⟩) n k1) n (sts (repS fs (l.take j)))) ∧ Hid (Row wr bx 31 (rcs false (.slice aB nB kB) (.slice (some pF) n kF) (.slice aA m kA) (.slice aP m kP) left)) ∧ Hid (Row wr rb 31 zcs) ∧ Hid (Below bx w wr)) (fun s6 _ => K - (intOf s6).toNat)
  case atStart => exact ⟨0, Nat.zero_le _, rfl, O1.out, R5.out, Q5.out, B5.out⟩
  case round =>
    obtain ⟨j, hj, rfl, OJ, RJ, QJ, BJ⟩ := hrel
    have x3 := RJ.out.cell (i := 3) rfl; have x4 := RJ.out.cell (i := 4) rfl
    by_cases hjK : j < K
    · have hjm : j < m := by have := KM.out; omega
      have hjl : j < l.length := by rw [LL.out]; exact hjm
      have BWJ : Below w.heap.size w wr := by rw [HX.out]; exact BJ.out
      obtain ⟨ga, hga, _, ca⟩ := own_at1 (own_below HA.out BWJ) (itz_at hjl)
      obtain ⟨gp, hgp, _, cp⟩ := own_at1 (own_below HP.out BWJ) (stz_at hjl)
      subst hga hgp
      have SN : Hid (l.take (j + 1) = l.take j ++ [l.getD j (0, ByteArray.empty)]) := take_snoc _ hjl
      have hp := HL.out (l.getD j (0, ByteArray.empty)) (by rw [List.getD, List.getElem?_eq_getElem hjl]; exact List.getElem_mem _)
      obtain ⟨⟨pi, ps⟩, hpe⟩ : ∃ p, l.getD j (0, ByteArray.empty) = p := ⟨_, rfl⟩
      rw [hpe] at ca cp SN hp
      dsimp only at ca cp hp
      obtain ⟨⟨mx, m1⟩, m2⟩ := own_cell1 OJ.out hp
      have j0 : (0 : Int) ≤ (j : Int) := by omega
      have jm : (j : Int) < (m : Int) := by omega
      have ji : (j : Int) < i := (kk_lt hjm).2 (by rw [HK.out]; exact hjK)
      have dm : decide ((j : Int) < (m : Int)) = true := by simp; omega
      have dm' : decide (j < m) = true := by simp; omega
      have di : decide ((j : Int) < i) = true := by simpa using ji
      have p0 : (0 : Int) ≤ (pi : Int) := by omega
      have pn : (pi : Int) < (n : Int) := by omega
      obtain ⟨j1, hj1⟩ : ∃ j1, j + 1 = j1 := ⟨_, rfl⟩
      have HJ := Lib.hid hj1; have HJK := Lib.hid hjK
      have f1 : (j : Int) + 1 = (j1 : Int) := by omega
      have f2 : IntKind.i64.wrap (j1 : Int) = (j1 : Int) := by rw [IntKind.wrap_i64]; have h1 := NN.out; have h2 := KM.out; omega
      obtain ⟨W2', hW2'⟩ : ∃ W, wr.drew.setCell ⟨g1, pi, none⟩ (.string ps) = W := ⟨_, rfl⟩
      have OK2 : Hid (W2'.ownsRow (rb + 1) 9 1 (.slice (some ⟨g1, 0, none⟩) n k1) n (sts (repS fs (l.take j1)))) := by
        have h := own_set1 OJ.out.drew (q := pi) (.string ps)
        rw [hW2', ← sts_set] at h
        have e : repS fs (l.take j1) = (repS fs (l.take j)).set pi ps := by
          rw [← hj1, SN.out]; exact rep_strs _ _ _
        show World.ownsRow _ _ _ _ _ _ _
        rw [e]; exact h
      have FO : Hid (∀ c, c ≠ g1 → W2'.heap[c]? = wr.heap[c]?) := fun c hc => by rw [← hW2']; exact Below.heap_setCell wr.drew _ _ _ (by exact hc)
      have RK2 := Lib.hid (RJ.out.same (FO.out bx (by have h1 := HB1.out; have := LT.out; omega)))
      have QK2 := Lib.hid (QJ.out.same (FO.out rb (by have h1 := HB1.out; omega)))
      have BK2 : Hid (Below bx w W2') := by show Below _ _ _; rw [← hW2']; exact (BJ.out.drew).setCell (show bx ≤ g1 by have h1 := HB1.out; have := LT.out; omega) _
      clear hj hjK hjm hjl SN hpe hp hj1 BWJ
      go_wp2_with fail
      refine wp_region_drop (fun W => W.cell? ⟨bx, 3, none⟩ = some (.slice (some ⟨ga, 0, none⟩) m kA) ∧ W.cell? ⟨bx, 4, none⟩ = some (.slice (some ⟨gp, 0, none⟩) m kP) ∧ W.cell? ⟨ga, j, none⟩ = some (.int .i64 (pi : Int)) ∧ W.cell? ⟨gp, j, none⟩ = some (.string ps)) 12 (by kernel_rfl) ⟨x3, x4, ca, cp⟩ (fun hHeld => ?_)
      refine wpAnyD_pure (i := 0) (v := ?_) rfl (by kernel_rfl) (by kernel_rfl) (by kernel_rfl) (by rfl) (fun _ _ _ h => h) (Or.inl ⟨by rfl, ?_⟩) (by assumption) ?_
      rotate_left 1
      · (intro w; first | (go_simp; done) | (go_simp; with_reducible rfl))
      simp only [Act.put, List.getElem_toArray, List.getElem_cons_zero, List.setIfInBounds_toArray, List.set_cons_zero, List.set_cons_succ]
      refine wpAnyD_pure (i := 1) (v := ?_) rfl (by kernel_rfl) (by kernel_rfl) (by kernel_rfl) (by rfl) (fun _ _ _ h => h) (Or.inl ⟨by rfl, ?_⟩) (by assumption) ?_
      rotate_left 1
      · (intro w; first | (go_simp; done) | (go_simp; with_reducible rfl))
      simp only [Act.put, List.getElem_toArray, List.getElem_cons_zero, List.getElem_cons_succ, List.setIfInBounds_toArray, List.set_cons_zero, List.set_cons_succ]
      refine wpAnyD_take (i := 2) (v := ?_) rfl (by kernel_rfl) (by kernel_rfl) (by kernel_rfl) (by kernel_rfl) (fun _ _ _ h => h) (Or.inl ⟨by rfl, ?_⟩) (by assumption) ?_
      rotate_left 1
      · (intro w hSw; (try dsimp only at hSw); first | (go_simp; done) | (go_simp; with_reducible rfl))
      simp only [Act.put, List.getElem_toArray, List.getElem_cons_zero, List.getElem_cons_succ, List.setIfInBounds_toArray, List.set_cons_zero, List.set_cons_succ]
      refine wpAnyD_pure (i := 3) (v := ?_) rfl (by kernel_rfl) (by kernel_rfl) (by kernel_rfl) (by rfl) (fun _ _ _ h => h) (Or.inl ⟨by rfl, ?_⟩) (by assumption) ?_
      rotate_left 1
      · (intro w; first | (go_simp; done) | (go_simp; with_reducible rfl))
      simp only [Act.put, List.getElem_toArray, List.getElem_cons_zero, List.getElem_cons_succ, List.setIfInBounds_toArray, List.set_cons_zero, List.set_cons_succ]
      refine wpAnyD_pure (i := 4) (v := ?_) rfl (by kernel_rfl) (by kernel_rfl) (by kernel_rfl) (by rfl) (fun _ _ _ h => h) (Or.inl ⟨by rfl, ?_⟩) (by assumption) ?_
      rotate_left 1
      · (intro w; first | (go_simp; done) | (go_simp; with_reducible rfl))
      simp only [Act.put, List.getElem_toArray, List.getElem_cons_zero, List.getElem_cons_succ, List.setIfInBounds_toArray, List.set_cons_zero, List.set_cons_succ]
      refine wpAnyD_take (i := 5) (v := ?_) rfl (by kernel_rfl) (by kernel_rfl) (by kernel_rfl) (by kernel_rfl) (fun _ _ _ h => h) (Or.inl ⟨by rfl, ?_⟩) (by assumption) ?_
      rotate_left 1
      · (intro w hSw; (try dsimp only at hSw); first | (go_simp; done) | (go_simp; with_reducible rfl))
      simp only [Act.put, List.getElem_toArray, List.getElem_cons_zero, List.getElem_cons_succ, List.setIfInBounds_toArray, List.set_cons_zero, List.set_cons_succ]
      refine wpAnyD_pure (i := 6) (v := ?_) rfl (by kernel_rfl) (by kernel_rfl) (by kernel_rfl) (by rfl) (fun _ _ _ h => h) (Or.inl ⟨by rfl, ?_⟩) (by assumption) ?_
      rotate_left 1
      · (intro w; first | (go_simp; done) | (go_simp; with_reducible rfl))
      simp only [Act.put, List.getElem_toArray, List.getElem_cons_zero, List.getElem_cons_succ, List.setIfInBounds_toArray, List.set_cons_zero, List.set_cons_succ]
      refine wpAnyD_take (i := 7) (v := ?_) rfl (by kernel_rfl) (by kernel_rfl) (by kernel_rfl) (by kernel_rfl) (fun _ _ _ h => h) (Or.inl ⟨by rfl, ?_⟩) (by assumption) ?_
      rotate_left 1
      · (intro w hSw; (try dsimp only at hSw); first | (go_simp; done) | (go_simp; with_reducible rfl))
      simp only [Act.put, List.getElem_toArray, List.getElem_cons_zero, List.getElem_cons_succ, List.setIfInBounds_toArray, List.set_cons_zero, List.set_cons_succ]
      refine wpAnyD_pure (i := 8) (v := ?_) rfl (by kernel_rfl) (by kernel_rfl) (by kernel_rfl) (by rfl) (fun _ _ _ h => h) (Or.inl ⟨by rfl, ?_⟩) (by assumption) ?_
      rotate_left 1
      · (intro w; first | (go_simp; done) | (go_simp; with_reducible rfl))
      simp only [Act.put, List.getElem_toArray, List.getElem_cons_zero, List.getElem_cons_succ, List.setIfInBounds_toArray, List.set_cons_zero, List.set_cons_succ]
      refine wpAnyD_pure (i := 9) (v := ?_) rfl (by kernel_rfl) (by kernel_rfl) (by kernel_rfl) (by rfl) (fun _ _ _ h => h) (Or.inl ⟨by rfl, ?_⟩) (by assumption) ?_
      rotate_left 1
      · (intro w; first | (go_simp; done) | (go_simp; with_reducible rfl))
      simp only [Act.put, List.getElem_toArray, List.getElem_cons_zero, List.getElem_cons_succ, List.setIfInBounds_toArray, List.set_cons_zero, List.set_cons_succ]
      refine wpAnyD_take (i := 10) (v := ?_) rfl (by kernel_rfl) (by kernel_rfl) (by kernel_rfl) (by kernel_rfl) (fun _ _ _ h => h) (Or.inl ⟨by rfl, ?_⟩) (by assumption) ?_
      rotate_left 1
      · (intro w hSw; (try dsimp only at hSw); first | (go_simp; done) | (go_simp; with_reducible rfl))
      simp only [Act.put, List.getElem_toArray, List.getElem_cons_zero, List.getElem_cons_succ, List.setIfInBounds_toArray, List.set_cons_zero, List.set_cons_succ]
      refine wpAnyD_pure (i := 11) (v := ?_) rfl (by kernel_rfl) (by kernel_rfl) (by kernel_rfl) (by rfl) (fun _ _ _ h => h) (Or.inl ⟨by rfl, ?_⟩) (by assumption) ?_
      rotate_left 1
      · (intro w; first | (go_simp; done) | (go_simp; with_reducible rfl))
      simp only [Act.put, List.getElem_toArray, List.getElem_cons_zero, List.getElem_cons_succ, List.setIfInBounds_toArray, List.set_cons_zero, List.set_cons_succ]
      refine wpAnyD_drop (by kernel_rfl) rfl (fun KK hK => ?_)
      have m1' : wr.drew.cell? ⟨g1, pi, none⟩ = some mx := m1
      have m2' : wr.drew.frozen? ⟨g1, pi, none⟩ = false := m2
      go_simp
      refine hK.out _ _ ?_
      clear hK KK hHeld
      refine wpAny_done (by kernel_rfl) ?_ _
      clear x3 x4 ca cp m1 m2 m1' m2'
      go_wp2_with fail
      go_roundw
      case measure => simp [intOf]; have := HJ.out; have := HJK.out; omega
      case rel => exact ⟨j1, by have := HJ.out; have := HJK.out; omega, rfl, OK2, RK2, QK2, BK2⟩
    · obtain rfl : K = j := by omega
      obtain ⟨W4, hW4, q4, b4⟩ := set6 QJ.out (.bool false) (.slice (some ⟨g1, 0, none⟩) n k1) (.slice (some ⟨g1, 0, none⟩) n k1) nilS nilS (.int .i64 (-1))
      have BF := Lib.hid (b4 bx w (by have := LT.out; omega) BJ.out)
      have OF : Hid (W4.ownsRow w.heap.size 9 1 (.slice (some ⟨g1, 0, none⟩) n k1) n (sts (repS fs (l.take K)))) := by
        refine own_le (B' := w.heap.size) (own_same OJ.out (fun c hc => ?_)) (by have := LT.out; have := HX.out; omega)
        have hcr : c ≠ rb := by have h1 := (OJ.out.lt c hc).1; omega
        rw [← hW4]
        simp only [Below.heap_setCell _ _ _ _ (show c ≠ (Addr.mk rb _ none).block from hcr)]
      have c0 := QJ.out.cell (i := 0) rfl; have c1 := QJ.out.cell (i := 1) rfl; have c2 := QJ.out.cell (i := 2) rfl; have c3 := QJ.out.cell (i := 3) rfl; have c4 := QJ.out.cell (i := 4) rfl; have c5 := QJ.out.cell (i := 5) rfl
      have k0 := QJ.out.fr (i := 0); have k1' := QJ.out.fr (i := 1); have k2 := QJ.out.fr (i := 2); have k3 := QJ.out.fr (i := 3); have k4 := QJ.out.fr (i := 4); have k5 := QJ.out.fr (i := 5)
      have g0 := q4.cell (i := 0) rfl; have g1' := q4.cell (i := 1) rfl; have g2 := q4.cell (i := 2) rfl; have g3 := q4.cell (i := 3) rfl; have g4 := q4.cell (i := 4) rfl; have g5 := q4.cell (i := 5) rfl
      by_cases hKm : K < m
      · have ji : ¬ (K : Int) < i := fun h => by have h2 := (kk_lt hKm).1 h; rw [HK.out] at h2; omega
        have dm : decide ((K : Int) < (m : Int)) = true := by simp; omega
        have dm' : decide (K < m) = true := by simp; omega
        have dm'' : (K : Int) < (m : Int) := by omega
        have di : decide ((K : Int) < i) = false := by simpa using ji
        clear hj hjK hKm q4 b4
        go_wp2_with fail
        refine bodyPost_ret (by simp [results, Try.results18, go_sem, g0, g1', g2, g3, g4, g5]; rfl) rfl ⟨g1, k1, ?_, (by first | exact OF.out | (rw [← HX.out]; exact OF.out)), (by first | exact BF.out | (rw [HX.out]; exact BF.out))⟩
        rfl
      · have dm : decide ((K : Int) < (m : Int)) = false := by simp; omega
        have dm' : decide (K < m) = false := by simp; omega
        have dm'' : ¬ (K : Int) < (m : Int) := by omega
        clear hj hjK hKm q4 b4
        go_wp2_with fail
        refine bodyPost_ret (by simp [results, Try.results18, go_sem, g0, g1', g2, g3, g4, g5]; rfl) rfl ⟨g1, k1, ?_, (by first | exact OF.out | (rw [← HX.out]; exact OF.out)), (by first | exact BF.out | (rw [HX.out]; exact BF.out))⟩
        rfl
end Go.Proofs.Ytgadplgjpemdaaa
