/- graph: Parts. -/
import Derived.Test.YthfecllgkldgfaaGi
namespace Go.Proofs.Ythfecllgkldgfaa
open Go.ChangeShapes Go.WideShapes Go.ChangeAt Go.RowKit Go.Joins Go.Deep

/- the first k numbers, then zeros -/
def idl (k m : Nat) : List Int := (List.range k).map (fun i : Nat => (i : Int)) ++ List.replicate (m - k) 0
theorem idl_len {k m : Nat} (h : k ≤ m) : (idl k m).length = m := by unfold idl; simp; omega
theorem idl_get {k m j : Nat} (h : k ≤ m) (hj : j < m) : (idl k m).getD j 0 = if j < k then (j : Int) else 0 := by
  unfold idl
  rw [List.getD, List.getElem?_append]
  by_cases h1 : j < k
  · rw [if_pos h1, if_pos (by simpa using h1), List.getElem?_map, List.getElem?_range h1]; rfl
  · rw [if_neg h1, if_neg (by simpa using h1), List.getElem?_replicate, if_pos (by simp; omega)]; rfl
theorem idl_set {k m : Nat} (h : k < m) : (idl k m).set k (k : Int) = idl (k + 1) m := by
  apply List.ext_getElem (by rw [List.length_set, idl_len (by omega), idl_len (by omega)])
  intro j h1 h2
  have e1 : ((idl k m).set k (k : Int)).getD j 0 = (idl (k + 1) m).getD j 0 := by
    rw [idl_len (by omega)] at h2
    rw [getD_setI _ _ _ _ (by rw [idl_len (by omega)]; exact h), idl_get (by omega) h2, idl_get (by omega) h2]
    by_cases e : k = j
    · rw [if_pos e, if_pos (by omega), e]
    · rw [if_neg e]
      by_cases hk : j < k
      · rw [if_pos hk, if_pos (by omega)]
      · rw [if_neg hk, if_neg (by omega)]
  rw [List.getD, List.getD, List.getElem?_eq_getElem h1, List.getElem?_eq_getElem h2] at e1
  exact e1
theorem idl_dn (m : Nat) : Dn (idl m m) := by
  intro j hj
  rw [idl_len (Nat.le_refl _)] at hj
  rw [idl_get (Nat.le_refl _) hj, if_pos hj]; omega
/- what one arc does -/
def joinP (up : List Int) (a : Int × Int) : List Int :=
  let s1 := sm (a.1.toNat + 1) up a.1.toNat
  let s2 := sm (a.2.toNat + 1) s1.1 a.2.toNat
  s2.1.set (max s1.2 s2.2) ((min s1.2 s2.2 : Nat) : Int)
def joins (l : List (Int × Int)) (k m : Nat) : List Int := (l.take k).foldl joinP (idl m m)
theorem joins_succ {l : List (Int × Int)} {k m : Nat} (h : k < l.length) : joins l (k + 1) m = joinP (joins l k m) (l.getD k (0, 0)) := by
  unfold joins
  rw [List.take_add_one, List.getElem?_eq_getElem h, List.foldl_append, List.getD, List.getElem?_eq_getElem h]; rfl
/- what the last loop does -/
def lastP (up : List Int) (v : Nat) : List Int := (sm (v + 1) up v).1.set v ((sm (v + 1) up v).2 : Int)
def lasts (up : List Int) (k : Nat) : List Int := (List.range k).foldl lastP up
theorem lasts_succ (up : List Int) (k : Nat) : lasts up (k + 1) = lastP (lasts up k) k := by unfold lasts; rw [List.range_succ, List.foldl_append]; rfl
def partsL (l : List (Int × Int)) (m : Nat) : List Int := lasts (joins l l.length m) m
theorem madeZ (n : Nat) : madeCells #[.int .i64 0] n = (nums (idl 0 n)).toArray := by apply Array.ext'; rw [toList_madeCells_one]; simp [idl, nums]
theorem nums_new (w : World) (m : Nat) (hm : m ≤ maxLen) : Nums (w.alloc (.cells (madeCells #[.int .i64 0] m) 3)) w.heap.size m m (idl 0 m) := by
  refine ⟨⟨by rw [nums, List.length_map, idl_len (Nat.zero_le _), Nat.mul_one], Or.inr ⟨w.heap.size, m, _, rfl, Nat.zero_le _, heap_alloc_new _ _, Nat.le_refl _, hm, ?_, ?_⟩⟩, idl_len (Nat.zero_le _)⟩
  · rw [madeZ, List.size_toArray, nums, List.length_map, idl_len (Nat.zero_le _), Nat.mul_one]
  · rw [madeZ, List.toList_toArray, List.take_of_length_le (by rw [nums, List.length_map, idl_len (Nat.zero_le _)]; omega)]
theorem Nums.ints {w : World} {g n cap : Nat} {l : List Int} (h : Nums w g n cap l) : IntsAt w (.slice (some ⟨g, 0, none⟩) n cap) l := by
  have := h.own
  rw [← h.len] at this ⊢
  exact IntsAt.of_row this
theorem Nums.keep {w W : World} {g n cap : Nat} {l : List Int} (h : Nums w g n cap l) (b : Below w.heap.size w W) : Nums W g n cap l := h.same (b.block g h.lt)
/- what Parts keeps in mind: its row and the graph's box -/
structure PS (w wr : World) (g m : Nat) (cs : List Value) (up : List Int) : Prop where
  u : Nums wr g m m up
  r : Row wr w.heap.size 33 cs
  b : Below w.heap.size w wr
  gg : w.heap.size < g
theorem PS.keep {w wr W : World} {g m : Nat} {cs : List Value} {up : List Int} (p : PS w wr g m cs up) (b : Below wr.heap.size wr W) : PS w W g m cs up :=
  ⟨p.u.keep b, p.r.below b p.r.lt, p.b.trans (b.mono p.b.size), p.gg⟩
theorem PS.only {w wr W : World} {g m : Nat} {cs : List Value} {up up' : List Int} (p : PS w wr g m cs up) (o : OnlyG g wr W) (n : Nums W g m m up') : PS w W g m cs up' :=
  ⟨n, p.r.same (o.block _ (by have := p.gg; omega)), p.b.trans (o.below (by have := p.gg; omega)), p.gg⟩
theorem PS.set {w wr : World} {g m i : Nat} {cs : List Value} {up : List Int} (p : PS w wr g m cs up) (x : Int) : PS w (wr.setCell ⟨g, i, none⟩ (.int .i64 x)) g m cs (up.set i x) := p.only (OnlyG.refl g wr).set (p.u.set x)
theorem parts_bad {w : World} {N : Int} {v : Value} {ars : List (Int × Int)} (h : ArcsAt w v ars) (hc : chk N ars ≠ 0) : Calls Try.prog 44 #[gv N v] w fun e w' => e = .returned nilV ∧ Below w.heap.size w w' := by
  have A0 := h
  obtain ⟨a, cap, rfl, _⟩ := h
  have CK := Lib.hid (fun W (b : Below w.heap.size w W) => check_any (N := N) (A0.below b))
  obtain ⟨n, hn⟩ : ∃ n, ars.length = n := ⟨_, rfl⟩
  obtain ⟨c, hcc⟩ : ∃ c, chk N ars = c := ⟨_, rfl⟩
  rw [hn] at CK ⊢
  rw [hcc] at CK hc
  have c1 : (c == 0) = false := by simpa using hc
  obtain ⟨W1, hW1⟩ : ∃ W1, w.alloc (.cells #[.int .i64 N, .slice a n cap] 33) = W1 := ⟨_, rfl⟩
  have r1 : Row W1 w.heap.size 33 [.int .i64 N, .slice a n cap] := by rw [← hW1]; exact Row.new _ _ _
  have q0 := r1.cell (i := 0) rfl; have q1 := r1.cell (i := 1) rfl
  have BB := Lib.hid (show Below w.heap.size w W1 by rw [← hW1]; exact (Below.refl _ _).alloc (Nat.le_refl _) _)
  clear r1 A0 hn hcc hc
  go_enter Try.func44, Try.ntmps44
  go_wp2_with fail
  refine (CK.out _ BB.out).mono ?_; rintro e w3 ⟨rfl, b⟩
  have FB := Lib.hid (BB.out.trans (b.mono BB.out.size))
  clear b
  go_wp2_with fail
  go_ret
  exact ⟨rfl, FB.out⟩
set_option maxRecDepth 100000 in
set_option maxHeartbeats 8000000 in
theorem parts_any {w : World} {m : Nat} {v : Value} {ars : List (Int × Int)} (h : ArcsAt w v ars) (hc : chk (m : Int) ars = 0) : Calls Try.prog 44 #[gv (m : Int) v] w fun e w' => ∃ u, e = .returned u ∧ IntsAt w' u (partsL ars m) ∧ Below w.heap.size w w' := by
  obtain ⟨i0, hi, hz0, hz1, hz2⟩ := Go.info_parts Try.info3
  have II := Lib.hid hi; have Z0 := Lib.hid hz0; have Z1 := Lib.hid hz1; have Z2 := Lib.hid hz2
  clear hi hz0 hz1 hz2
  obtain ⟨nl, nb⟩ := chk_zero hc
  have NB := Lib.hid nb
  unfold long at nl
  have hm : m ≤ 1048576 := by omega
  have hl : ars.length ≤ 4194304 := by omega
  have A0 := h
  obtain ⟨a, cap, rfl, _⟩ := h
  have CK := Lib.hid (fun W (b : Below w.heap.size w W) => check_any (N := (m : Int)) (A0.below b))
  have AA := Lib.hid A0
  obtain ⟨n, hn⟩ : ∃ n, ars.length = n := ⟨_, rfl⟩
  have HN := Lib.hid hn; have HM := Lib.hid hm; have HL := Lib.hid hl
  rw [hn] at CK AA ⊢
  rw [hc] at CK
  obtain ⟨W1, hW1⟩ : ∃ W1, w.alloc (.cells #[.int .i64 (m : Int), .slice a n cap] 33) = W1 := ⟨_, rfl⟩
  have r1 : Row W1 w.heap.size 33 [.int .i64 (m : Int), .slice a n cap] := by rw [← hW1]; exact Row.new _ _ _
  have q0 := r1.cell (i := 0) rfl; have q1 := r1.cell (i := 1) rfl
  have R1 := Lib.hid r1
  have BB := Lib.hid (show Below w.heap.size w W1 by rw [← hW1]; exact (Below.refl _ _).alloc (Nat.le_refl _) _)
  clear r1 A0 hn hc hm hl nl nb
  go_enter Try.func44, Try.ntmps44
  go_wp2_with fail
  refine (CK.out _ BB.out).mono ?_; rintro e w3 ⟨rfl, b⟩
  have B3 := Lib.hid (BB.out.trans (b.mono BB.out.size))
  have r3 := R1.out.below b R1.out.lt
  have R3 := Lib.hid r3
  have q0' := r3.cell (i := 0) rfl; have q1' := r3.cell (i := 1) rfl
  clear b r3 q0 q1 hW1
  obtain ⟨W4, hW4⟩ : ∃ W4, w3.alloc (.cells (madeCells #[.int .i64 0] m) 3) = W4 := ⟨_, rfl⟩
  obtain ⟨g, hg⟩ : ∃ g, w3.heap.size = g := ⟨_, rfl⟩
  have P4 : Hid (PS w W4 g m [.int .i64 (m : Int), .slice a n cap] (idl 0 m)) := by
    show PS _ _ _ _ _ _
    rw [← hW4, ← hg]
    exact ⟨nums_new _ _ (by have := HM.out; unfold maxLen; omega), R3.out.alloc _, B3.out.alloc B3.out.size _, R3.out.lt⟩
  have p0 := P4.out.r.cell (i := 0) rfl; have p1 := P4.out.r.cell (i := 1) rfl
  go_wp2_with (at_make; refine wpList_make_row _ rfl _ _ 22 rfl 3 i0 (.int .i64 0) Try.underlying22 II.out Z0.out Z1.out rfl .i64 .i64 m rfl rfl (by rw [Z2.out]; have := HM.out; omega) (by have := HM.out; omega) ?_)
  clear p0 p1 q0' q1' hW4 hg
  go_loopw [18] (fun s wr => ∃ k : Nat, k ≤ m ∧ s = .int .i64 (k : Int) ∧ Hid (PS w wr g m [.int .i64 (m : Int), .slice a n cap] (idl k m))) (fun s _ => m - (intOf s).toNat)
  case atStart => exact ⟨0, Nat.zero_le _, rfl, P4⟩
  case round =>
    clear P4
    obtain ⟨k, hk, rfl, PK⟩ := hrel
    by_cases hkm : k < m
    · obtain ⟨k1, hk1⟩ : ∃ k1, k + 1 = k1 := ⟨_, rfl⟩
      have HK := Lib.hid hk1
      have k0 : (0 : Int) ≤ (k : Int) := by omega
      have kl : (k : Int) < (m : Int) := by omega
      have e1 : (k : Int) + 1 = (k1 : Int) := by omega
      have e2 : IntKind.i64.wrap (k1 : Int) = (k1 : Int) := by rw [IntKind.wrap_i64]; have := HM.out; omega
      obtain ⟨ck, fk⟩ := PK.out.u.at_ hkm
      obtain ⟨cv, hcv⟩ : ∃ cv, (idl k m).getD k 0 = cv := ⟨_, rfl⟩
      rw [hcv] at ck
      obtain ⟨W5, hW5⟩ : ∃ W5, wr.setCell ⟨g, k, none⟩ (.int .i64 (k : Int)) = W5 := ⟨_, rfl⟩
      have P5 : Hid (PS w W5 g m [.int .i64 (m : Int), .slice a n cap] (idl k1 m)) := by
        show PS _ _ _ _ _ _
        rw [← hW5, ← hk1, ← idl_set hkm]; exact PK.out.set _
      clear hk1 hcv PK
      go_wp2_with fail
      go_roundw
      case measure => simp [intOf]; have := HK.out; omega
      case rel => exact ⟨k1, by have := HK.out; omega, rfl, P5⟩
    · have kl : ¬ (k : Int) < (m : Int) := by omega
      obtain rfl : k = m := by omega
      have p0 := PK.out.r.cell (i := 0) rfl; have p1 := PK.out.r.cell (i := 1) rfl
      have J0 : Hid (PS w wr g k [.int .i64 (k : Int), .slice a n cap] (joins ars 0 k) ∧ Dn (joins ars 0 k)) := ⟨PK.out, idl_dn k⟩
      clear PK
      go_wp2_with fail
      clear p0 p1
      go_loopw [29] (fun s wr => ∃ j : Nat, j ≤ n ∧ s = .int .i64 (j : Int) ∧ Hid (PS w wr g k [.int .i64 (k : Int), .slice a n cap] (joins ars j k) ∧ Dn (joins ars j k))) (fun s _ => n - (intOf s).toNat)
      case atStart => exact ⟨0, Nat.zero_le _, rfl, J0⟩
      case round =>
       clear J0
       obtain ⟨j, hj, rfl, PJ⟩ := hrel
       by_cases hjn : j < n
       · obtain ⟨b, off, rfl, o0, o1⟩ := (AA.out.below PJ.out.1.b).at_ (j := j) (by rw [HN.out]; exact hjn)
         have hnb := NB.out j (by rw [HN.out]; exact hjn)
         have JS := Lib.hid (joins_succ (l := ars) (k := j) (m := k) (by rw [HN.out]; exact hjn))
         obtain ⟨⟨xx, yy⟩, hz⟩ : ∃ z, ars.getD j (0, 0) = z := ⟨_, rfl⟩
         rw [hz] at o0 o1 hnb JS
         dsimp only at o0 o1
         unfold bad at hnb
         dsimp only at hnb
         obtain ⟨x, rfl⟩ : ∃ x : Nat, xx = (x : Int) := ⟨xx.toNat, by omega⟩
         obtain ⟨y, rfl⟩ : ∃ y : Nat, yy = (y : Int) := ⟨yy.toNat, by omega⟩
         have HXY : Hid (x < k ∧ y < k) := ⟨by omega, by omega⟩
         obtain ⟨k1, hk1⟩ : ∃ k1, j + 1 = k1 := ⟨_, rfl⟩
         rw [hk1] at JS
         have HK := Lib.hid hk1
         have k0 : (0 : Int) ≤ (j : Int) := by omega
         have kl2 : (j : Int) < (n : Int) := by omega
         have e1 : (j : Int) + 1 = (k1 : Int) := by omega
         have e2 : IntKind.i64.wrap (k1 : Int) = (k1 : Int) := by rw [IntKind.wrap_i64]; have := HL.out; have := HN.out; omega
         obtain ⟨xb, hxb⟩ : ∃ xb, wr.heap.size = xb := ⟨_, rfl⟩
         obtain ⟨W5, hW5⟩ : ∃ W5, wr.alloc (.cells #[.int .i64 (x : Int), .int .i64 (y : Int)] 45) = W5 := ⟨_, rfl⟩
         have r5 : Row W5 xb 45 [.int .i64 (x : Int), .int .i64 (y : Int)] := by rw [← hW5, ← hxb]; exact Row.new _ _ _
         have b5 : Below wr.heap.size wr W5 := by rw [← hW5]; exact (Below.refl _ _).alloc (Nat.le_refl _) _
         have P5 := Lib.hid (PJ.out.1.keep b5); have D5 := Lib.hid PJ.out.2
         have XG : Hid (xb ≠ g) := by have := PJ.out.1.u.lt; show _ ≠ _; omega
         have X5 := Lib.hid r5
         have x0 := r5.cell (i := 0) rfl; have x1 := r5.cell (i := 1) rfl
         clear r5 b5 hz hk1 hnb PJ
         go_wp2_with fail
         have S0 : Hid (∀ W, W = W5.drew → W.cell? ⟨xb, 0, none⟩ = some (.int .i64 (x : Int)) ∧ W.cell? ⟨xb, 1, none⟩ = some (.int .i64 (y : Int))) := by
           intro W e0; subst e0
           exact ⟨x0, x1⟩
         refine wp_region_held_drew (S := fun W => W.cell? ⟨xb, 0, none⟩ = some (.int .i64 (x : Int)) ∧ W.cell? ⟨xb, 1, none⟩ = some (.int .i64 (y : Int))) (by kernel_rfl) (S0.out _ rfl) (fun hHeld => ?_)
         clear S0
         refine wpAnyH_take (i := 0) (v := ?_) rfl (by kernel_rfl) (by kernel_rfl) (by kernel_rfl) (fun _ _ _ h => h) (Or.inl ⟨by rfl, ?_⟩) (by assumption) ?_
         rotate_left 1
         · (intro w hSw; (try dsimp only at hSw); first | (go_simp; done) | (go_simp; with_reducible rfl))
         simp only [Act.put, List.getElem_toArray, List.getElem_cons_zero, List.setIfInBounds_toArray, List.set_cons_zero, List.set_cons_succ]
         refine wpAnyH_take (i := 1) (v := ?_) rfl (by kernel_rfl) (by kernel_rfl) (by kernel_rfl) (fun _ _ _ h => h) (Or.inl ⟨by rfl, ?_⟩) (by assumption) ?_
         rotate_left 1
         · (intro w hSw; (try dsimp only at hSw); first | (go_simp; done) | (go_simp; with_reducible rfl))
         simp only [Act.put, List.getElem_toArray, List.getElem_cons_zero, List.getElem_cons_succ, List.setIfInBounds_toArray, List.set_cons_zero, List.set_cons_succ]
         refine wpAnyH_take (i := 2) (v := ?_) rfl (by kernel_rfl) (by kernel_rfl) (by kernel_rfl) (fun _ _ _ h => h) (Or.inl ⟨by rfl, ?_⟩) (by assumption) ?_
         rotate_left 1
         · (intro w hSw; (try dsimp only at hSw); first | (go_simp; done) | (go_simp; with_reducible rfl))
         simp only [Act.put, List.getElem_toArray, List.getElem_cons_zero, List.getElem_cons_succ, List.setIfInBounds_toArray, List.set_cons_zero, List.set_cons_succ]
         refine wpAnyH_take (i := 4) (v := ?_) rfl (by kernel_rfl) (by kernel_rfl) (by kernel_rfl) (fun _ _ _ h => h) (Or.inl ⟨by rfl, ?_⟩) (by assumption) ?_
         rotate_left 1
         · (intro w hSw; (try dsimp only at hSw); first | (go_simp; done) | (go_simp; with_reducible rfl))
         simp only [Act.put, List.getElem_toArray, List.getElem_cons_zero, List.getElem_cons_succ, List.setIfInBounds_toArray, List.set_cons_zero, List.set_cons_succ]
         refine wpAnyH_take (i := 5) (v := ?_) rfl (by kernel_rfl) (by kernel_rfl) (by kernel_rfl) (fun _ _ _ h => h) (Or.inl ⟨by rfl, ?_⟩) (by assumption) ?_
         rotate_left 1
         · (intro w hSw; (try dsimp only at hSw); first | (go_simp; done) | (go_simp; with_reducible rfl))
         simp only [Act.put, List.getElem_toArray, List.getElem_cons_zero, List.getElem_cons_succ, List.setIfInBounds_toArray, List.set_cons_zero, List.set_cons_succ]
         refine wpAnyH_take (i := 6) (v := ?_) rfl (by kernel_rfl) (by kernel_rfl) (by kernel_rfl) (fun _ _ _ h => h) (Or.inl ⟨by rfl, ?_⟩) (by assumption) ?_
         rotate_left 1
         · (intro w hSw; (try dsimp only at hSw); first | (go_simp; done) | (go_simp; with_reducible rfl))
         simp only [Act.put, List.getElem_toArray, List.getElem_cons_zero, List.getElem_cons_succ, List.setIfInBounds_toArray, List.set_cons_zero, List.set_cons_succ]
         refine wpAnyH_ready (rs := [3]) (by kernel_rfl) (by simp) ?_
         refine AllReadyH.cons rfl (fun K hK => ?_) AllReadyH.nil
         have P6 := Lib.hid (P5.out.keep ((Below.refl _ W5).drew))
         go_simp
         go_wp2_with (go_at_call 61; (with_reducible refine (smallest_any (v := x) P6.out.u D5.out HXY.out.1).mono ?_); rintro en w8 ⟨u1, s1, hs1, hr1, rfl, nu1, du1, og1⟩)
         have P8 := Lib.hid (P6.out.only og1 nu1); have D8 := Lib.hid du1; have HS1 := Lib.hid hs1; have HR1 := Lib.hid hr1
         have X8 := Lib.hid ((X5.out.same (W := W5.drew) rfl).same (og1.block _ XG.out))
         refine hK.out _ _ ⟨X8.out.cell (i := 0) rfl, X8.out.cell (i := 1) rfl⟩ (fun hHeld2 => ?_)
         clear hK K hHeld hs1 hr1 nu1 du1 og1; have hHeld := hHeld2; clear hHeld2
         refine wpAnyH_ready (rs := [7]) (by kernel_rfl) (by simp) ?_
         refine AllReadyH.cons rfl (fun K hK => ?_) AllReadyH.nil
         go_simp
         go_wp2_with (go_at_call 61; (with_reducible refine (smallest_any (v := y) P8.out.u D8.out HXY.out.2).mono ?_); rintro en w9 ⟨u2, s2, hs2, hr2, rfl, nu2, du2, og2⟩)
         have P9 := Lib.hid (P8.out.only og2 nu2); have D9 := Lib.hid du2; have HS2 := Lib.hid hs2; have HR2 := Lib.hid hr2
         have X9 := Lib.hid (X8.out.same (og2.block _ XG.out))
         refine hK.out _ _ ⟨X9.out.cell (i := 0) rfl, X9.out.cell (i := 1) rfl⟩ (fun hHeld2 => ?_)
         clear hK K hHeld hs2 hr2 nu2 du2 og2; have hHeld := hHeld2; clear hHeld2
         refine wpAnyH_take (i := 8) (v := ?_) rfl (by kernel_rfl) (by kernel_rfl) (by kernel_rfl) (fun _ _ _ h => h) (Or.inl ⟨by rfl, ?_⟩) (by assumption) ?_
         rotate_left 1
         · (intro w hSw; (try dsimp only at hSw); first | (go_simp; done) | (go_simp; with_reducible rfl))
         simp only [Act.put, List.getElem_toArray, List.getElem_cons_zero, List.getElem_cons_succ, List.setIfInBounds_toArray, List.set_cons_zero, List.set_cons_succ]
         refine wpAnyH_take (i := 9) (v := ?_) rfl (by kernel_rfl) (by kernel_rfl) (by kernel_rfl) (fun _ _ _ h => h) (Or.inl ⟨by rfl, ?_⟩) (by assumption) ?_
         rotate_left 1
         · (intro w hSw; (try dsimp only at hSw); first | (go_simp; done) | (go_simp; with_reducible rfl))
         simp only [Act.put, List.getElem_toArray, List.getElem_cons_zero, List.getElem_cons_succ, List.setIfInBounds_toArray, List.set_cons_zero, List.set_cons_succ]
         refine wpAnyH_done (by kernel_rfl) ?_ _
         clear hHeld x0 x1 P5 D5 P6 P8 D8 X5 X8 X9
         have JV : Hid (joins ars k1 k = u2.set (max s1 s2) ((min s1 s2 : Nat) : Int)) := by
           show _ = _
           rw [JS.out]; unfold joinP; dsimp only
           rw [Int.toNat_natCast, Int.toNat_natCast, HS1.out]; dsimp only
           rw [HS2.out]
         have hms : max s1 s2 < k := by have := HXY.out; have := HR1.out; have := HR2.out; omega
         obtain ⟨mx, hmx⟩ : ∃ mx, max s1 s2 = mx := ⟨_, rfl⟩
         obtain ⟨mi, hmi⟩ : ∃ mi, min s1 s2 = mi := ⟨_, rfl⟩
         rw [hmx, hmi] at JV
         rw [hmx] at hms
         obtain ⟨cm, fm⟩ := P9.out.u.at_ hms
         obtain ⟨cv, hcv⟩ : ∃ cv, u2.getD mx 0 = cv := ⟨_, rfl⟩
         rw [hcv] at cm
         obtain ⟨WA, hWA⟩ : ∃ WA, w9.setCell ⟨g, mx, none⟩ (.int .i64 (mi : Int)) = WA := ⟨_, rfl⟩
         have PA : Hid (PS w WA g k [.int .i64 (k : Int), .slice (some ⟨b, off, none⟩) n cap] (joins ars k1 k) ∧ Dn (joins ars k1 k)) := by
           refine ⟨?_, ?_⟩
           · rw [JV.out, ← hWA]; exact P9.out.set _
           · rw [JV.out]; exact D9.out.set ⟨by omega, by omega⟩
         have mx0 : (0 : Int) ≤ (mx : Int) := by omega
         have mx1 : (mx : Int) < (k : Int) := by omega
         clear hcv JV JS P9 D9
         by_cases hab : s1 ≤ s2
         · obtain rfl : s2 = mx := by omega
           obtain rfl : s1 = mi := by omega
           have h1 : (s1 : Int) ≤ (s2 : Int) := by omega
           have h2 : max (s1 : Int) (s2 : Int) = (s2 : Int) := by omega
           have h3 : min (s1 : Int) (s2 : Int) = (s1 : Int) := by omega
           clear hmx hmi hms hab
           go_wp2_with fail
           go_roundw
           case measure => simp [intOf]; have := HK.out; omega
           case rel => exact ⟨k1, by have := HK.out; omega, rfl, PA⟩
         · obtain rfl : s1 = mx := by omega
           obtain rfl : s2 = mi := by omega
           have h1 : (s2 : Int) < (s1 : Int) := by omega
           have h2 : max (s1 : Int) (s2 : Int) = (s1 : Int) := by omega
           have h3 : min (s1 : Int) (s2 : Int) = (s2 : Int) := by omega
           clear hmx hmi hms hab
           go_wp2_with fail
           go_roundw
           case measure => simp [intOf]; have := HK.out; omega
           case rel => exact ⟨k1, by have := HK.out; omega, rfl, PA⟩
       · have kl2 : ¬ (j : Int) < (n : Int) := by omega
         obtain rfl : j = n := by omega
         have p0 := PJ.out.1.r.cell (i := 0) rfl
         have L0 : Hid (PS w wr g k [.int .i64 (k : Int), .slice a j cap] (lasts (joins ars j k) 0) ∧ Dn (lasts (joins ars j k) 0)) := PJ.out
         clear PJ
         go_wp2_with fail
         clear p0
         go_loopw [52] (fun s wr => ∃ t : Nat, t ≤ k ∧ s = .int .i64 (t : Int) ∧ Hid (PS w wr g k [.int .i64 (k : Int), .slice a j cap] (lasts (joins ars j k) t) ∧ Dn (lasts (joins ars j k) t))) (fun s _ => k - (intOf s).toNat)
         case atStart => exact ⟨0, Nat.zero_le _, rfl, L0⟩
         case round =>
           clear L0
           obtain ⟨t, ht, rfl, PT⟩ := hrel
           by_cases htk : t < k
           · obtain ⟨k1, hk1⟩ : ∃ k1, t + 1 = k1 := ⟨_, rfl⟩
             have HK := Lib.hid hk1; have HT := Lib.hid htk
             have LS := Lib.hid (lasts_succ (joins ars j k) t)
             rw [hk1] at LS
             have k0 : (0 : Int) ≤ (t : Int) := by omega
             have kl3 : (t : Int) < (k : Int) := by omega
             have e1 : (t : Int) + 1 = (k1 : Int) := by omega
             have e2 : IntKind.i64.wrap (k1 : Int) = (k1 : Int) := by rw [IntKind.wrap_i64]; have := HM.out; omega
             clear hk1
             go_wp2_with fail
             refine (smallest_any (v := t) PT.out.1.u PT.out.2 htk).mono ?_; rintro e w8 ⟨u1, s1, hs1, hr1, rfl, nu1, du1, og1⟩
             have P8 := Lib.hid (PT.out.1.only og1 nu1)
             obtain ⟨cm, fm⟩ := nu1.at_ htk
             obtain ⟨cv, hcv⟩ : ∃ cv, u1.getD t 0 = cv := ⟨_, rfl⟩
             rw [hcv] at cm
             obtain ⟨WA, hWA⟩ : ∃ WA, w8.setCell ⟨g, t, none⟩ (.int .i64 (s1 : Int)) = WA := ⟨_, rfl⟩
             have PA : Hid (PS w WA g k [.int .i64 (k : Int), .slice a j cap] (lasts (joins ars j k) k1) ∧ Dn (lasts (joins ars j k) k1)) := by
               have eL : lasts (joins ars j k) k1 = u1.set t (s1 : Int) := by rw [LS.out]; unfold lastP; rw [hs1]
               refine ⟨?_, ?_⟩
               · rw [eL, ← hWA]; exact P8.out.set _
               · rw [eL]; exact du1.set ⟨by omega, by omega⟩
             clear hs1 hr1 nu1 du1 og1 hcv PT P8 LS
             go_wp2_with fail
             go_roundw
             case measure => simp [intOf]; have := HK.out; omega
             case rel => exact ⟨k1, by have := HK.out; have := HT.out; omega, rfl, PA⟩
           · have kl3 : ¬ (t : Int) < (k : Int) := by omega
             obtain rfl : t = k := by omega
             have FI : Hid (IntsAt wr (.slice (some ⟨g, 0, none⟩) t t) (partsL ars t)) := by
               show IntsAt _ _ _
               unfold partsL; rw [HN.out]; exact PT.out.1.u.ints
             have FB := Lib.hid PT.out.1.b
             clear PT
             go_wp2_with fail
             go_ret
             exact ⟨_, rfl, FI.out, FB.out⟩
end Go.Proofs.Ythfecllgkldgfaa
