/- tags: Set. -/
import Derived.Test.YtgfhanhonfpngaaDoorTs
namespace Go.Proofs.YtgfhanhonfpngaaDoor
open Go.ChangeShapes Go.WideShapes Go.ChangeAt Go.RowKit Go.Joins Go.Deep

open Go.Proofs.TagM Go.Shelf Go.Sort

theorem idx_cases (p : Tg → Bool) (l : List Tg) : (Lib.idxBy (fun (_ : Tg) y => p y) l default = -1 ∧ ∀ t ∈ l, p t = false) ∨ ∃ i : Nat, i < l.length ∧ Lib.idxBy (fun (_ : Tg) y => p y) l default = (i : Int) ∧ p (l.getD i default) = true ∧ ∀ j, j < i → p (l.getD j default) = false := by
  by_cases h : ∃ i, i < l.length ∧ p (l.getD i default) = true
  · right
    have key : ∀ n, (∃ i, i < n ∧ i < l.length ∧ p (l.getD i default) = true) → ∃ i, i < l.length ∧ p (l.getD i default) = true ∧ ∀ j, j < i → p (l.getD j default) = false := by
      intro n
      induction n with
      | zero => rintro ⟨i, h, _⟩; omega
      | succ n ih =>
        intro hx
        by_cases hs : ∃ i, i < n ∧ i < l.length ∧ p (l.getD i default) = true
        · exact ih hs
        · obtain ⟨i, h1, h2, h3⟩ := hx
          refine ⟨i, h2, h3, fun j hj => ?_⟩
          cases e : p (l.getD j default) with
          | false => rfl
          | true => exact absurd ⟨j, by omega, by omega, e⟩ hs
    obtain ⟨i, h1, h2⟩ := h
    obtain ⟨i, h1, h2, h3⟩ := key (i + 1) ⟨i, by omega, h1, h2⟩
    refine ⟨i, h1, ?_, h2, h3⟩
    have := Lib.idxBy_hit (fun (_ : Tg) y => p y) l l.length i default h1 (Nat.le_refl _) (by rw [getD_eq h1]; exact h2) (fun j hj => by rw [getD_eq (by omega)]; exact h3 j hj)
    rw [List.take_length] at this
    exact this
  · left
    have hn : ∀ t ∈ l, p t = false := fun t ht => by
      obtain ⟨i, h1, h2⟩ := mem_of_getD ht
      cases e : p t with
      | false => rfl
      | true => exact absurd ⟨i, h1, by rw [h2]; exact e⟩ h
    refine ⟨?_, hn⟩
    have := Lib.idxBy_miss (zs := l) (fun (_ : Tg) y => p y) l.length default (fun j hj => by rw [getD_eq hj]; exact hn _ (getD_mem hj))
    rw [List.take_length] at this
    exact this
theorem stR_ins {k v : ByteArray} : ∀ {l : List Tg} {i : Nat}, i < l.length → (l.getD i default).1 = k → (∀ j, j < i → (l.getD j default).1 ≠ k) → stR k v l = insT (fl k l) i (k, v) ∧ i ≤ (fl k l).length
  | t :: l, 0, _, h, _ => by
    have h' : t.1 = k := by simpa using h
    have e : fl k (t :: l) = fl k l := by unfold fl; rw [List.filter_cons_of_neg (by simp [h'])]
    refine ⟨?_, Nat.zero_le _⟩
    rw [stR, if_pos h', e]; rfl
  | t :: l, i + 1, hi, h, hj => by
    have h' : t.1 ≠ k := by have := hj 0 (by omega); simpa using this
    have e : fl k (t :: l) = t :: fl k l := by unfold fl; rw [List.filter_cons_of_pos (by simp [h'])]
    obtain ⟨i1, i2⟩ := stR_ins (v := v) (l := l) (i := i) (by simpa using hi) (by simpa using h) (fun j hlt => by have := hj (j + 1) (by omega); simpa using this)
    refine ⟨?_, by rw [e]; simp; exact i2⟩
    rw [stR, if_neg h', e, i1]; rfl
theorem stI_ins {k v : ByteArray} : ∀ {l : List Tg} {i : Nat}, i < l.length → klt k (l.getD i default).1 = true → (∀ j, j < i → klt k (l.getD j default).1 = false) → stI k v l = insT l i (k, v)
  | t :: l, 0, _, h, _ => by rw [stI, if_pos (by simpa using h)]; rfl
  | t :: l, i + 1, hi, h, hj => by
    have h' : klt k t.1 = false := by have := hj 0 (by omega); simpa using this
    rw [stI, if_neg (by rw [h']; simp), stI_ins (l := l) (i := i) (by simpa using hi) (by simpa using h) (fun j hlt => by have := hj (j + 1) (by omega); simpa using this)]
    rfl
theorem stI_end {k v : ByteArray} : ∀ {l : List Tg}, (∀ t ∈ l, klt k t.1 = false) → stI k v l = insT l l.length (k, v)
  | [], _ => rfl
  | t :: l, h => by
    rw [stI, if_neg (by rw [h t (List.mem_cons_self ..)]; simp), stI_end fun u hu => h u (List.mem_cons_of_mem _ hu)]
    rfl
theorem st_hit {l : List Tg} {k v : ByteArray} {i : Nat} (h1 : i < l.length) (h2 : (l.getD i default).1 = k) (h3 : ∀ j, j < i → (l.getD j default).1 ≠ k) : st l k v = insT (fl k l) i (k, v) ∧ i ≤ (fl k l).length := by
  unfold st; rw [gt_hit h1 h2 h3]; exact stR_ins h1 h2 h3
theorem st_miss {l : List Tg} {k v : ByteArray} (h : ∀ t ∈ l, t.1 ≠ k) : st l k v = stI k v l := by
  unfold st; rw [gt_miss h]; rfl
theorem fl_len (k : ByteArray) (l : List Tg) : (fl k l).length ≤ l.length := List.length_filter_le _ _
theorem gt_pred (key : ByteArray) (B : Nat) (w : World) (hB : B < w.heap.size) (hcell : w.cell? ⟨B, 0, none⟩ = some (.string key)) :
    PredBelow Tryd.prog 37 #[.pointer (some ⟨B, 0, none⟩)] (fun x => .agg (encT x).toArray) (fun x => klt key x.1) w := fun W x hb => by
  obtain ⟨x, y⟩ := x
  have hc : W.cell? ⟨B, 0, none⟩ = some (.string key) := (hb.cell (p := ⟨B, 0, none⟩) hB).trans hcell
  have hBW : B < W.heap.size := Nat.lt_of_lt_of_le hB hb.size
  have hne : B ≠ W.heap.size := by omega
  have BB := Lib.hid (hb.alloc (o := .cells #[.string x, .string y] 32) hb.size)
  show Calls Tryd.prog 37 #[.agg #[.string x, .string y], .pointer (some ⟨B, 0, none⟩)] W fun e w' => e = .returned (.bool (klt key x)) ∧ Below w.heap.size w w'
  cases h : klt key x with
  | true =>
    have t1 := bl_nlt (klt_asymm h)
    have t2 := str_ne (klt_ne h).symm
    clear hb hcell hB h
    go_enter Tryd.func37, Tryd.ntmps37
    go_wp2
    go_ret
    exact ⟨rfl, BB.out⟩
  | false =>
    cases h2 : klt x key with
    | true =>
      have t1 := bl_lt h2
      clear hb hcell hB h h2
      go_enter Tryd.func37, Tryd.ntmps37
      go_wp2
      go_ret
      exact ⟨rfl, BB.out⟩
    | false =>
      obtain rfl := klt_tri h h2
      clear hb hcell hB h h2
      go_enter Tryd.func37, Tryd.ntmps37
      go_wp2
      go_ret
      exact ⟨rfl, BB.out⟩
set_option maxRecDepth 100000 in
set_option maxHeartbeats 8000000 in
theorem set_any {w : World} {v : Value} {l : List Tg} (key val : ByteArray) (h : TagsAt w v l) (hl : l.length ≤ 1000000) : Calls Tryd.prog 23 #[v, .string key, .string val] w fun e w' => ∃ u, e = .returned u ∧ TagsAt w' u (st l key val) ∧ Below w.heap.size w w' := by
  obtain ⟨b0, hb0⟩ : ∃ b0, w.heap.size = b0 := ⟨_, rfl⟩
  obtain ⟨b1, hb1⟩ : ∃ b1, b0 + 1 = b1 := ⟨_, rfl⟩
  obtain ⟨W1, hW1⟩ : ∃ W1, w.alloc (.cells #[.string key] 9) = W1 := ⟨_, rfl⟩
  obtain ⟨W2, hW2⟩ : ∃ W2, W1.alloc (.cells #[.string key, .string val] 32) = W2 := ⟨_, rfl⟩
  have z1 : W1.heap.size = b1 := by rw [← hW1, ← hb1, ← hb0]; simp
  have r1 : Row W1 b0 9 [.string key] := by rw [← hW1, ← hb0]; exact Row.new _ _ _
  have r2 : Row W2 b1 32 [.string key, .string val] := by rw [← hW2, ← z1]; exact Row.new _ _ _
  have r1' : Row W2 b0 9 [.string key] := by rw [← hW2]; exact r1.alloc _
  have bb : Below w.heap.size w W2 := by rw [← hW2, ← hW1]; exact ((Below.refl _ _).alloc (Nat.le_refl _) _).alloc (by simp) _
  have A2 := Lib.hid (h.below bb)
  have FI := Lib.hid (find_any key (h.below bb) hl)
  have R1 := Lib.hid r1'; have R2 := Lib.hid r2; have BB := Lib.hid bb; have HL := Lib.hid hl
  have q0 := r1.cell (i := 0) rfl
  have q0' := r1'.cell (i := 0) rfl
  obtain ⟨a, cap, rfl, _⟩ := h
  obtain ⟨n, hn⟩ : ∃ n, l.length = n := ⟨_, rfl⟩
  have HN := Lib.hid hn
  rw [hn] at A2 FI ⊢
  clear r1 r2 r1' bb hl hn
  go_enter Tryd.func23, Tryd.ntmps23
  rw [hb0]
  go_wp2_with fail
  refine FI.out.mono ?_; rintro e w2 ⟨rfl, b2⟩
  have B2 : Hid (Below b0 w w2) := by rw [← hb0]; exact BB.out.trans (b2.mono BB.out.size)
  have AF := Lib.hid (A2.out.below b2)
  have KP : Hid (∀ W, Below w2.heap.size w2 W → Below w2.heap.size w2 W ∧ W.cell? ⟨b0, 0, none⟩ = some (.string key) ∧ W.cell? ⟨b1, 0, none⟩ = some (.string key) ∧ W.cell? ⟨b1, 1, none⟩ = some (.string val)) := by
    intro W hb
    have h1 := (R1.out.below b2 R1.out.lt); have h2 := (R2.out.below b2 R2.out.lt)
    have h3 := h1.below hb h1.lt; have h4 := h2.below hb h2.lt
    exact ⟨hb, h3.cell rfl, h4.cell rfl, h4.cell rfl⟩
  have KB := Lib.hid (show b0 < w2.heap.size by have := (R1.out.below b2 R1.out.lt).lt; exact this)
  clear b2 q0 q0' hW1 hW2 z1
  rcases fnd_cases l key with ⟨h1, h2⟩ | ⟨i, h1, h2, h3, h4⟩
  · rw [h1]
    have GI := Lib.hid (index_any 37 #[.pointer (some ⟨b0, 0, none⟩)] (fun x => klt key x.1) (enters_of Tryd.func37 (by kernel_rfl) rfl) (gt_pred key b0 w2 KB.out (KP.out w2 (Below.refl _ _)).2.1) AF.out HL.out)
    have SM := Lib.hid (st_miss (v := val) h2)
    clear h1 h2
    have DC := Lib.hid (fun W (b : Below w2.heap.size w2 W) => clone_any (AF.out.below b) HL.out)
    have LLE := HL
    have KK := KP.out w2 (Below.refl _ _)
    rcases idx_cases (fun x => klt key x.1) l with ⟨h1, h2⟩ | ⟨i, h1, h2, h3, h4⟩
    · rw [h1] at GI
      have SP := Lib.hid (SM.out.trans (stI_end h2))
      have ILE : Hid (n ≤ l.length) := Nat.le_of_eq HN.out.symm
      rw [HN.out] at SP
      have q1 : (0 : Int) ≤ (n : Int) := by omega
      clear h1 h2 SM KK
      go_wp2_with fail
      refine GI.out.mono ?_; rintro e w3 ⟨rfl, b3⟩
      have KP3 : Hid (∀ W, Below w3.heap.size w3 W → Below w3.heap.size w3 W ∧ W.cell? ⟨b0, 0, none⟩ = some (.string key) ∧ W.cell? ⟨b1, 0, none⟩ = some (.string key) ∧ W.cell? ⟨b1, 1, none⟩ = some (.string val)) := fun W hb => ⟨hb, (KP.out W (b3.trans (hb.mono b3.size))).2⟩
      have B3 : Hid (Below b0 w w3) := B2.out.trans (b3.mono (Nat.le_of_lt KB.out))
      have KB3 : Hid (b0 < w3.heap.size) := Nat.lt_of_lt_of_le KB.out b3.size
      have DC3 : Hid (∀ W, Below w3.heap.size w3 W → Calls Tryd.prog 38 #[.slice a n cap] W fun e w' => ∃ u, e = .returned u ∧ TOwn w' W.heap.size u l ∧ Below W.heap.size W w') := fun W hb => DC.out W (b3.trans (hb.mono b3.size))
      clear b3 KP B2 KB DC
      have KP := KP3; have B2 := B3; have KB := KB3; have DC := DC3
      clear KP3 B3 KB3 DC3
      go_wp2_with fail
      refine wp_region_held_drew (S := fun W => Below w3.heap.size w3 W ∧ W.cell? ⟨b0, 0, none⟩ = some (.string key) ∧ W.cell? ⟨b1, 0, none⟩ = some (.string key) ∧ W.cell? ⟨b1, 1, none⟩ = some (.string val)) (by kernel_rfl) (KP.out _ (Below.refl _ _).drew) (fun hHeld => ?_)
      refine wpAnyH_take (i := 0) (v := ?_) rfl (by kernel_rfl) (by kernel_rfl) (by kernel_rfl) (fun _ _ _ h => h) (Or.inl ⟨by rfl, ?_⟩) (by assumption) ?_
      rotate_left 1
      · (intro w hSw; (try dsimp only at hSw); first | (go_simp; done) | (go_simp; with_reducible rfl))
      simp only [Act.put, List.getElem_toArray, List.getElem_cons_zero, List.setIfInBounds_toArray, List.set_cons_zero, List.set_cons_succ]
      refine wpAnyH_take (i := 2) (v := ?_) rfl (by kernel_rfl) (by kernel_rfl) (by kernel_rfl) (fun _ _ _ h => h) (Or.inl ⟨by rfl, ?_⟩) (by assumption) ?_
      rotate_left 1
      · (intro w hSw; (try dsimp only at hSw); first | (go_simp; done) | (go_simp; with_reducible rfl))
      simp only [Act.put, List.getElem_toArray, List.getElem_cons_zero, List.getElem_cons_succ, List.setIfInBounds_toArray, List.set_cons_zero, List.set_cons_succ]
      refine wpAnyH_take (i := 3) (v := ?_) rfl (by kernel_rfl) (by kernel_rfl) (by kernel_rfl) (fun _ _ _ h => h) (Or.inl ⟨by rfl, ?_⟩) (by assumption) ?_
      rotate_left 1
      · (intro w hSw; (try dsimp only at hSw); first | (go_simp; done) | (go_simp; with_reducible rfl))
      simp only [Act.put, List.getElem_toArray, List.getElem_cons_zero, List.getElem_cons_succ, List.setIfInBounds_toArray, List.set_cons_zero, List.set_cons_succ]
      refine wpAnyH_ready (rs := [1, 4]) (by kernel_rfl) (by simp) ?_
      refine AllReadyH.cons rfl (fun K hK => ?_) (AllReadyH.cons rfl (fun K hK => ?_) AllReadyH.nil)
      · go_simp
        go_wp2_with (go_at_call 38; refine (DC.out _ hHeld.1).mono ?_; rintro e w9 ⟨u, rfl, ou, b9⟩)
        have BF : Hid (Below w3.heap.size w3 w9) := (Below.refl _ _).drew.trans b9
        have O9 := Lib.hid ou
        have U9 := Lib.hid ou.lt
        clear ou b9
        refine hK.out _ _ (KP.out w9 BF.out) (fun hHeld2 => ?_)
        clear hK K hHeld; have hHeld := hHeld2; clear hHeld2
        obtain ⟨W8, hW8⟩ : ∃ W8, w9.alloc (.cells #[.string key, .string val] 32) = W8 := ⟨_, rfl⟩
        have BA := Lib.hid (show Below w9.heap.size w9 W8 by rw [← hW8]; exact (Below.refl _ _).alloc (Nat.le_refl _) _)
        have BB8 := Lib.hid (BF.out.trans (BA.out.mono BF.out.size))
        have V8 := Lib.hid (show Row W8 w9.heap.size 32 [.string key, .string val] by rw [← hW8]; exact Row.new _ _ _)
        refine wpAnyH_ready (rs := [4]) (by kernel_rfl) (by simp) ?_
        refine AllReadyH.cons rfl (fun K hK => ?_) AllReadyH.nil
        go_simp
        refine hK.out _ _ (KP.out W8 BB8.out) (fun hHeld2 => ?_)
        clear hK K hHeld hW8; have hHeld := hHeld2; clear hHeld2
        have IN := Lib.hid (insert_any (O9.out.keep BA.out) ILE.out key val V8.out (fun e => by have := (U9.out _ e).2; omega) LLE.out (show w3.heap.size ≤ W8.heap.size from BB8.out.size))
        refine wpAnyH_ready (rs := [5]) (by kernel_rfl) (by simp) ?_
        refine AllReadyH.cons rfl (fun K hK => ?_) AllReadyH.nil
        go_simp
        go_wp2_with (go_at_call 34; refine IN.out.mono ?_; rintro e w10 ⟨u10, rfl, o10, b10⟩)
        have B10 : Hid (Below w3.heap.size w3 w10) := BB8.out.trans ⟨b10.os, b10.tape, b10.output, b10.size, fun k hk => b10.block k (hk)⟩
        have O10 := Lib.hid o10
        clear o10 b10
        refine hK.out _ _ (KP.out w10 B10.out) (fun hHeld2 => ?_)
        clear hK K hHeld; have hHeld := hHeld2; clear hHeld2
        refine wpAnyH_take (i := 6) (v := ?_) rfl (by kernel_rfl) (by kernel_rfl) (by kernel_rfl) (fun _ _ _ h => h) (Or.inl ⟨by rfl, ?_⟩) (by assumption) ?_
        rotate_left 1
        · (intro w hSw; (try dsimp only at hSw); first | (go_simp; done) | (go_simp; with_reducible rfl))
        simp only [Act.put, List.getElem_toArray, List.getElem_cons_zero, List.getElem_cons_succ, List.setIfInBounds_toArray, List.set_cons_zero, List.set_cons_succ]
        refine wpAnyH_done (by kernel_rfl) ?_ _
        clear hHeld
        go_wp2_with fail
        go_ret
        exact ⟨_, rfl, by rw [SP.out]; exact O10.out.at_, B2.out.trans (B10.out.mono (Nat.le_of_lt KB.out))⟩
      · go_simp
        obtain ⟨W8, hW8⟩ : ∃ W8, w3.drew.alloc (.cells #[.string key, .string val] 32) = W8 := ⟨_, rfl⟩
        have BB8 : Hid (Below w3.heap.size w3 W8) := by show Below _ _ _; rw [← hW8]; exact (Below.refl _ _).drew.alloc (Nat.le_refl _) _
        have V8 := Lib.hid (show Row W8 w3.heap.size 32 [.string key, .string val] by rw [← hW8]; exact Row.new w3.drew _ _)
        have Z8 := Lib.hid (show W8.heap.size = w3.heap.size + 1 by rw [← hW8]; simp)
        try rw [show (w3.alloc (.cells #[.string key, .string val] 32)).drew = W8 from hW8]
        try rw [hW8]
        refine hK.out _ _ (KP.out W8 BB8.out) (fun hHeld2 => ?_)
        clear hK K hHeld hW8; have hHeld := hHeld2; clear hHeld2
        refine wpAnyH_ready (rs := [1]) (by kernel_rfl) (by simp) ?_
        refine AllReadyH.cons rfl (fun K hK => ?_) AllReadyH.nil
        go_simp
        go_wp2_with (go_at_call 38; refine (DC.out _ hHeld.1).mono ?_; rintro e w9 ⟨u, rfl, ou, b9⟩)
        have BF : Hid (Below w3.heap.size w3 w9) := BB8.out.trans (b9.mono BB8.out.size)
        have O9 := Lib.hid ou
        have U9 := Lib.hid ou.lt
        have V9 := Lib.hid (V8.out.below b9 V8.out.lt)
        have N9 := Lib.hid b9.size
        clear ou b9
        refine hK.out _ _ (KP.out w9 BF.out) (fun hHeld2 => ?_)
        clear hK K hHeld; have hHeld := hHeld2; clear hHeld2
        have IN := Lib.hid (insert_any O9.out ILE.out key val V9.out (fun e => by have := (U9.out _ e).1; have := Z8.out; omega) LLE.out N9.out)
        refine wpAnyH_ready (rs := [5]) (by kernel_rfl) (by simp) ?_
        refine AllReadyH.cons rfl (fun K hK => ?_) AllReadyH.nil
        go_simp
        go_wp2_with (go_at_call 34; refine IN.out.mono ?_; rintro e w10 ⟨u10, rfl, o10, b10⟩)
        have B10 : Hid (Below w3.heap.size w3 w10) := BF.out.trans ⟨b10.os, b10.tape, b10.output, b10.size, fun k hk => b10.block k (by have := Z8.out; omega)⟩
        have O10 := Lib.hid o10
        clear o10 b10
        refine hK.out _ _ (KP.out w10 B10.out) (fun hHeld2 => ?_)
        clear hK K hHeld; have hHeld := hHeld2; clear hHeld2
        refine wpAnyH_take (i := 6) (v := ?_) rfl (by kernel_rfl) (by kernel_rfl) (by kernel_rfl) (fun _ _ _ h => h) (Or.inl ⟨by rfl, ?_⟩) (by assumption) ?_
        rotate_left 1
        · (intro w hSw; (try dsimp only at hSw); first | (go_simp; done) | (go_simp; with_reducible rfl))
        simp only [Act.put, List.getElem_toArray, List.getElem_cons_zero, List.getElem_cons_succ, List.setIfInBounds_toArray, List.set_cons_zero, List.set_cons_succ]
        refine wpAnyH_done (by kernel_rfl) ?_ _
        clear hHeld
        go_wp2_with fail
        go_ret
        exact ⟨_, rfl, by rw [SP.out]; exact O10.out.at_, B2.out.trans (B10.out.mono (Nat.le_of_lt KB.out))⟩
    · rw [h2] at GI
      have SP := Lib.hid (SM.out.trans (stI_ins h1 h3 h4))
      have ILE := Lib.hid (Nat.le_of_lt h1)
      have q1 : (0 : Int) ≤ (i : Int) := by omega
      clear h1 h2 h3 h4 SM KK
      go_wp2_with fail
      refine GI.out.mono ?_; rintro e w3 ⟨rfl, b3⟩
      have KP3 : Hid (∀ W, Below w3.heap.size w3 W → Below w3.heap.size w3 W ∧ W.cell? ⟨b0, 0, none⟩ = some (.string key) ∧ W.cell? ⟨b1, 0, none⟩ = some (.string key) ∧ W.cell? ⟨b1, 1, none⟩ = some (.string val)) := fun W hb => ⟨hb, (KP.out W (b3.trans (hb.mono b3.size))).2⟩
      have B3 : Hid (Below b0 w w3) := B2.out.trans (b3.mono (Nat.le_of_lt KB.out))
      have KB3 : Hid (b0 < w3.heap.size) := Nat.lt_of_lt_of_le KB.out b3.size
      have DC3 : Hid (∀ W, Below w3.heap.size w3 W → Calls Tryd.prog 38 #[.slice a n cap] W fun e w' => ∃ u, e = .returned u ∧ TOwn w' W.heap.size u l ∧ Below W.heap.size W w') := fun W hb => DC.out W (b3.trans (hb.mono b3.size))
      clear b3 KP B2 KB DC
      have KP := KP3; have B2 := B3; have KB := KB3; have DC := DC3
      clear KP3 B3 KB3 DC3
      go_wp2_with fail
      refine wp_region_held_drew (S := fun W => Below w3.heap.size w3 W ∧ W.cell? ⟨b0, 0, none⟩ = some (.string key) ∧ W.cell? ⟨b1, 0, none⟩ = some (.string key) ∧ W.cell? ⟨b1, 1, none⟩ = some (.string val)) (by kernel_rfl) (KP.out _ (Below.refl _ _).drew) (fun hHeld => ?_)
      refine wpAnyH_take (i := 0) (v := ?_) rfl (by kernel_rfl) (by kernel_rfl) (by kernel_rfl) (fun _ _ _ h => h) (Or.inl ⟨by rfl, ?_⟩) (by assumption) ?_
      rotate_left 1
      · (intro w hSw; (try dsimp only at hSw); first | (go_simp; done) | (go_simp; with_reducible rfl))
      simp only [Act.put, List.getElem_toArray, List.getElem_cons_zero, List.setIfInBounds_toArray, List.set_cons_zero, List.set_cons_succ]
      refine wpAnyH_take (i := 2) (v := ?_) rfl (by kernel_rfl) (by kernel_rfl) (by kernel_rfl) (fun _ _ _ h => h) (Or.inl ⟨by rfl, ?_⟩) (by assumption) ?_
      rotate_left 1
      · (intro w hSw; (try dsimp only at hSw); first | (go_simp; done) | (go_simp; with_reducible rfl))
      simp only [Act.put, List.getElem_toArray, List.getElem_cons_zero, List.getElem_cons_succ, List.setIfInBounds_toArray, List.set_cons_zero, List.set_cons_succ]
      refine wpAnyH_take (i := 3) (v := ?_) rfl (by kernel_rfl) (by kernel_rfl) (by kernel_rfl) (fun _ _ _ h => h) (Or.inl ⟨by rfl, ?_⟩) (by assumption) ?_
      rotate_left 1
      · (intro w hSw; (try dsimp only at hSw); first | (go_simp; done) | (go_simp; with_reducible rfl))
      simp only [Act.put, List.getElem_toArray, List.getElem_cons_zero, List.getElem_cons_succ, List.setIfInBounds_toArray, List.set_cons_zero, List.set_cons_succ]
      refine wpAnyH_ready (rs := [1, 4]) (by kernel_rfl) (by simp) ?_
      refine AllReadyH.cons rfl (fun K hK => ?_) (AllReadyH.cons rfl (fun K hK => ?_) AllReadyH.nil)
      · go_simp
        go_wp2_with (go_at_call 38; refine (DC.out _ hHeld.1).mono ?_; rintro e w9 ⟨u, rfl, ou, b9⟩)
        have BF : Hid (Below w3.heap.size w3 w9) := (Below.refl _ _).drew.trans b9
        have O9 := Lib.hid ou
        have U9 := Lib.hid ou.lt
        clear ou b9
        refine hK.out _ _ (KP.out w9 BF.out) (fun hHeld2 => ?_)
        clear hK K hHeld; have hHeld := hHeld2; clear hHeld2
        obtain ⟨W8, hW8⟩ : ∃ W8, w9.alloc (.cells #[.string key, .string val] 32) = W8 := ⟨_, rfl⟩
        have BA := Lib.hid (show Below w9.heap.size w9 W8 by rw [← hW8]; exact (Below.refl _ _).alloc (Nat.le_refl _) _)
        have BB8 := Lib.hid (BF.out.trans (BA.out.mono BF.out.size))
        have V8 := Lib.hid (show Row W8 w9.heap.size 32 [.string key, .string val] by rw [← hW8]; exact Row.new _ _ _)
        refine wpAnyH_ready (rs := [4]) (by kernel_rfl) (by simp) ?_
        refine AllReadyH.cons rfl (fun K hK => ?_) AllReadyH.nil
        go_simp
        refine hK.out _ _ (KP.out W8 BB8.out) (fun hHeld2 => ?_)
        clear hK K hHeld hW8; have hHeld := hHeld2; clear hHeld2
        have IN := Lib.hid (insert_any (O9.out.keep BA.out) ILE.out key val V8.out (fun e => by have := (U9.out _ e).2; omega) LLE.out (show w3.heap.size ≤ W8.heap.size from BB8.out.size))
        refine wpAnyH_ready (rs := [5]) (by kernel_rfl) (by simp) ?_
        refine AllReadyH.cons rfl (fun K hK => ?_) AllReadyH.nil
        go_simp
        go_wp2_with (go_at_call 34; refine IN.out.mono ?_; rintro e w10 ⟨u10, rfl, o10, b10⟩)
        have B10 : Hid (Below w3.heap.size w3 w10) := BB8.out.trans ⟨b10.os, b10.tape, b10.output, b10.size, fun k hk => b10.block k (hk)⟩
        have O10 := Lib.hid o10
        clear o10 b10
        refine hK.out _ _ (KP.out w10 B10.out) (fun hHeld2 => ?_)
        clear hK K hHeld; have hHeld := hHeld2; clear hHeld2
        refine wpAnyH_take (i := 6) (v := ?_) rfl (by kernel_rfl) (by kernel_rfl) (by kernel_rfl) (fun _ _ _ h => h) (Or.inl ⟨by rfl, ?_⟩) (by assumption) ?_
        rotate_left 1
        · (intro w hSw; (try dsimp only at hSw); first | (go_simp; done) | (go_simp; with_reducible rfl))
        simp only [Act.put, List.getElem_toArray, List.getElem_cons_zero, List.getElem_cons_succ, List.setIfInBounds_toArray, List.set_cons_zero, List.set_cons_succ]
        refine wpAnyH_done (by kernel_rfl) ?_ _
        clear hHeld
        go_wp2_with fail
        go_ret
        exact ⟨_, rfl, by rw [SP.out]; exact O10.out.at_, B2.out.trans (B10.out.mono (Nat.le_of_lt KB.out))⟩
      · go_simp
        obtain ⟨W8, hW8⟩ : ∃ W8, w3.drew.alloc (.cells #[.string key, .string val] 32) = W8 := ⟨_, rfl⟩
        have BB8 : Hid (Below w3.heap.size w3 W8) := by show Below _ _ _; rw [← hW8]; exact (Below.refl _ _).drew.alloc (Nat.le_refl _) _
        have V8 := Lib.hid (show Row W8 w3.heap.size 32 [.string key, .string val] by rw [← hW8]; exact Row.new w3.drew _ _)
        have Z8 := Lib.hid (show W8.heap.size = w3.heap.size + 1 by rw [← hW8]; simp)
        try rw [show (w3.alloc (.cells #[.string key, .string val] 32)).drew = W8 from hW8]
        try rw [hW8]
        refine hK.out _ _ (KP.out W8 BB8.out) (fun hHeld2 => ?_)
        clear hK K hHeld hW8; have hHeld := hHeld2; clear hHeld2
        refine wpAnyH_ready (rs := [1]) (by kernel_rfl) (by simp) ?_
        refine AllReadyH.cons rfl (fun K hK => ?_) AllReadyH.nil
        go_simp
        go_wp2_with (go_at_call 38; refine (DC.out _ hHeld.1).mono ?_; rintro e w9 ⟨u, rfl, ou, b9⟩)
        have BF : Hid (Below w3.heap.size w3 w9) := BB8.out.trans (b9.mono BB8.out.size)
        have O9 := Lib.hid ou
        have U9 := Lib.hid ou.lt
        have V9 := Lib.hid (V8.out.below b9 V8.out.lt)
        have N9 := Lib.hid b9.size
        clear ou b9
        refine hK.out _ _ (KP.out w9 BF.out) (fun hHeld2 => ?_)
        clear hK K hHeld; have hHeld := hHeld2; clear hHeld2
        have IN := Lib.hid (insert_any O9.out ILE.out key val V9.out (fun e => by have := (U9.out _ e).1; have := Z8.out; omega) LLE.out N9.out)
        refine wpAnyH_ready (rs := [5]) (by kernel_rfl) (by simp) ?_
        refine AllReadyH.cons rfl (fun K hK => ?_) AllReadyH.nil
        go_simp
        go_wp2_with (go_at_call 34; refine IN.out.mono ?_; rintro e w10 ⟨u10, rfl, o10, b10⟩)
        have B10 : Hid (Below w3.heap.size w3 w10) := BF.out.trans ⟨b10.os, b10.tape, b10.output, b10.size, fun k hk => b10.block k (by have := Z8.out; omega)⟩
        have O10 := Lib.hid o10
        clear o10 b10
        refine hK.out _ _ (KP.out w10 B10.out) (fun hHeld2 => ?_)
        clear hK K hHeld; have hHeld := hHeld2; clear hHeld2
        refine wpAnyH_take (i := 6) (v := ?_) rfl (by kernel_rfl) (by kernel_rfl) (by kernel_rfl) (fun _ _ _ h => h) (Or.inl ⟨by rfl, ?_⟩) (by assumption) ?_
        rotate_left 1
        · (intro w hSw; (try dsimp only at hSw); first | (go_simp; done) | (go_simp; with_reducible rfl))
        simp only [Act.put, List.getElem_toArray, List.getElem_cons_zero, List.getElem_cons_succ, List.setIfInBounds_toArray, List.set_cons_zero, List.set_cons_succ]
        refine wpAnyH_done (by kernel_rfl) ?_ _
        clear hHeld
        go_wp2_with fail
        go_ret
        exact ⟨_, rfl, by rw [SP.out]; exact O10.out.at_, B2.out.trans (B10.out.mono (Nat.le_of_lt KB.out))⟩
  · rw [h2]
    have SP := Lib.hid (st_hit (v := val) h1 h3 h4).1
    have ILE := Lib.hid (st_hit (v := val) h1 h3 h4).2
    have LLE := Lib.hid (Nat.le_trans (fl_len key l) HL.out)
    have DC := Lib.hid (fun W (b : Below w2.heap.size w2 W) => drop_any key (AF.out.below b) HL.out)
    have q1 : (0 : Int) ≤ (i : Int) := by omega
    have KK := KP.out w2 (Below.refl _ _)
    have k0 := KK.2.1
    clear KK h1 h2 h3 h4
    go_wp2_with fail
    clear k0
    refine wp_region_held_drew (S := fun W => Below w2.heap.size w2 W ∧ W.cell? ⟨b0, 0, none⟩ = some (.string key) ∧ W.cell? ⟨b1, 0, none⟩ = some (.string key) ∧ W.cell? ⟨b1, 1, none⟩ = some (.string val)) (by kernel_rfl) (KP.out _ (Below.refl _ _).drew) (fun hHeld => ?_)
    refine wpAnyH_take (i := 0) (v := ?_) rfl (by kernel_rfl) (by kernel_rfl) (by kernel_rfl) (fun _ _ _ h => h) (Or.inl ⟨by rfl, ?_⟩) (by assumption) ?_
    rotate_left 1
    · (intro w hSw; (try dsimp only at hSw); first | (go_simp; done) | (go_simp; with_reducible rfl))
    simp only [Act.put, List.getElem_toArray, List.getElem_cons_zero, List.setIfInBounds_toArray, List.set_cons_zero, List.set_cons_succ]
    refine wpAnyH_take (i := 1) (v := ?_) rfl (by kernel_rfl) (by kernel_rfl) (by kernel_rfl) (fun _ _ _ h => h) (Or.inl ⟨by rfl, ?_⟩) (by assumption) ?_
    rotate_left 1
    · (intro w hSw; (try dsimp only at hSw); first | (go_simp; done) | (go_simp; with_reducible rfl))
    simp only [Act.put, List.getElem_toArray, List.getElem_cons_zero, List.getElem_cons_succ, List.setIfInBounds_toArray, List.set_cons_zero, List.set_cons_succ]
    refine wpAnyH_take (i := 3) (v := ?_) rfl (by kernel_rfl) (by kernel_rfl) (by kernel_rfl) (fun _ _ _ h => h) (Or.inl ⟨by rfl, ?_⟩) (by assumption) ?_
    rotate_left 1
    · (intro w hSw; (try dsimp only at hSw); first | (go_simp; done) | (go_simp; with_reducible rfl))
    simp only [Act.put, List.getElem_toArray, List.getElem_cons_zero, List.getElem_cons_succ, List.setIfInBounds_toArray, List.set_cons_zero, List.set_cons_succ]
    refine wpAnyH_take (i := 4) (v := ?_) rfl (by kernel_rfl) (by kernel_rfl) (by kernel_rfl) (fun _ _ _ h => h) (Or.inl ⟨by rfl, ?_⟩) (by assumption) ?_
    rotate_left 1
    · (intro w hSw; (try dsimp only at hSw); first | (go_simp; done) | (go_simp; with_reducible rfl))
    simp only [Act.put, List.getElem_toArray, List.getElem_cons_zero, List.getElem_cons_succ, List.setIfInBounds_toArray, List.set_cons_zero, List.set_cons_succ]
    refine wpAnyH_ready (rs := [2, 5]) (by kernel_rfl) (by simp) ?_
    refine AllReadyH.cons rfl (fun K hK => ?_) (AllReadyH.cons rfl (fun K hK => ?_) AllReadyH.nil)
    · go_simp
      go_wp2_with (go_at_call 35; refine (DC.out _ hHeld.1).mono ?_; rintro e w9 ⟨u, rfl, ou, b9⟩)
      have BF : Hid (Below w2.heap.size w2 w9) := (Below.refl _ _).drew.trans b9
      have O9 := Lib.hid ou
      have U9 := Lib.hid ou.lt
      clear ou b9
      refine hK.out _ _ (KP.out w9 BF.out) (fun hHeld2 => ?_)
      clear hK K hHeld; have hHeld := hHeld2; clear hHeld2
      obtain ⟨W8, hW8⟩ : ∃ W8, w9.alloc (.cells #[.string key, .string val] 32) = W8 := ⟨_, rfl⟩
      have BA := Lib.hid (show Below w9.heap.size w9 W8 by rw [← hW8]; exact (Below.refl _ _).alloc (Nat.le_refl _) _)
      have BB8 := Lib.hid (BF.out.trans (BA.out.mono BF.out.size))
      have V8 := Lib.hid (show Row W8 w9.heap.size 32 [.string key, .string val] by rw [← hW8]; exact Row.new _ _ _)
      refine wpAnyH_ready (rs := [5]) (by kernel_rfl) (by simp) ?_
      refine AllReadyH.cons rfl (fun K hK => ?_) AllReadyH.nil
      go_simp
      refine hK.out _ _ (KP.out W8 BB8.out) (fun hHeld2 => ?_)
      clear hK K hHeld hW8; have hHeld := hHeld2; clear hHeld2
      have IN := Lib.hid (insert_any (O9.out.keep BA.out) ILE.out key val V8.out (fun e => by have := (U9.out _ e).2; omega) LLE.out (show w2.heap.size ≤ W8.heap.size from BB8.out.size))
      refine wpAnyH_ready (rs := [6]) (by kernel_rfl) (by simp) ?_
      refine AllReadyH.cons rfl (fun K hK => ?_) AllReadyH.nil
      go_simp
      go_wp2_with (go_at_call 34; refine IN.out.mono ?_; rintro e w10 ⟨u10, rfl, o10, b10⟩)
      have B10 : Hid (Below w2.heap.size w2 w10) := BB8.out.trans ⟨b10.os, b10.tape, b10.output, b10.size, fun k hk => b10.block k (hk)⟩
      have O10 := Lib.hid o10
      clear o10 b10
      refine hK.out _ _ (KP.out w10 B10.out) (fun hHeld2 => ?_)
      clear hK K hHeld; have hHeld := hHeld2; clear hHeld2
      refine wpAnyH_take (i := 7) (v := ?_) rfl (by kernel_rfl) (by kernel_rfl) (by kernel_rfl) (fun _ _ _ h => h) (Or.inl ⟨by rfl, ?_⟩) (by assumption) ?_
      rotate_left 1
      · (intro w hSw; (try dsimp only at hSw); first | (go_simp; done) | (go_simp; with_reducible rfl))
      simp only [Act.put, List.getElem_toArray, List.getElem_cons_zero, List.getElem_cons_succ, List.setIfInBounds_toArray, List.set_cons_zero, List.set_cons_succ]
      refine wpAnyH_done (by kernel_rfl) ?_ _
      clear hHeld
      go_wp2_with fail
      go_ret
      exact ⟨_, rfl, by rw [SP.out]; exact O10.out.at_, B2.out.trans (B10.out.mono (Nat.le_of_lt KB.out))⟩
    · go_simp
      obtain ⟨W8, hW8⟩ : ∃ W8, w2.drew.alloc (.cells #[.string key, .string val] 32) = W8 := ⟨_, rfl⟩
      have BB8 : Hid (Below w2.heap.size w2 W8) := by show Below _ _ _; rw [← hW8]; exact (Below.refl _ _).drew.alloc (Nat.le_refl _) _
      have V8 := Lib.hid (show Row W8 w2.heap.size 32 [.string key, .string val] by rw [← hW8]; exact Row.new w2.drew _ _)
      have Z8 := Lib.hid (show W8.heap.size = w2.heap.size + 1 by rw [← hW8]; simp)
      try rw [show (w2.alloc (.cells #[.string key, .string val] 32)).drew = W8 from hW8]
      try rw [hW8]
      refine hK.out _ _ (KP.out W8 BB8.out) (fun hHeld2 => ?_)
      clear hK K hHeld hW8; have hHeld := hHeld2; clear hHeld2
      refine wpAnyH_ready (rs := [2]) (by kernel_rfl) (by simp) ?_
      refine AllReadyH.cons rfl (fun K hK => ?_) AllReadyH.nil
      go_simp
      go_wp2_with (go_at_call 35; refine (DC.out _ hHeld.1).mono ?_; rintro e w9 ⟨u, rfl, ou, b9⟩)
      have BF : Hid (Below w2.heap.size w2 w9) := BB8.out.trans (b9.mono BB8.out.size)
      have O9 := Lib.hid ou
      have U9 := Lib.hid ou.lt
      have V9 := Lib.hid (V8.out.below b9 V8.out.lt)
      have N9 := Lib.hid b9.size
      clear ou b9
      refine hK.out _ _ (KP.out w9 BF.out) (fun hHeld2 => ?_)
      clear hK K hHeld; have hHeld := hHeld2; clear hHeld2
      have IN := Lib.hid (insert_any O9.out ILE.out key val V9.out (fun e => by have := (U9.out _ e).1; have := Z8.out; omega) LLE.out N9.out)
      refine wpAnyH_ready (rs := [6]) (by kernel_rfl) (by simp) ?_
      refine AllReadyH.cons rfl (fun K hK => ?_) AllReadyH.nil
      go_simp
      go_wp2_with (go_at_call 34; refine IN.out.mono ?_; rintro e w10 ⟨u10, rfl, o10, b10⟩)
      have B10 : Hid (Below w2.heap.size w2 w10) := BF.out.trans ⟨b10.os, b10.tape, b10.output, b10.size, fun k hk => b10.block k (by have := Z8.out; omega)⟩
      have O10 := Lib.hid o10
      clear o10 b10
      refine hK.out _ _ (KP.out w10 B10.out) (fun hHeld2 => ?_)
      clear hK K hHeld; have hHeld := hHeld2; clear hHeld2
      refine wpAnyH_take (i := 7) (v := ?_) rfl (by kernel_rfl) (by kernel_rfl) (by kernel_rfl) (fun _ _ _ h => h) (Or.inl ⟨by rfl, ?_⟩) (by assumption) ?_
      rotate_left 1
      · (intro w hSw; (try dsimp only at hSw); first | (go_simp; done) | (go_simp; with_reducible rfl))
      simp only [Act.put, List.getElem_toArray, List.getElem_cons_zero, List.getElem_cons_succ, List.setIfInBounds_toArray, List.set_cons_zero, List.set_cons_succ]
      refine wpAnyH_done (by kernel_rfl) ?_ _
      clear hHeld
      go_wp2_with fail
      go_ret
      exact ⟨_, rfl, by rw [SP.out]; exact O10.out.at_, B2.out.trans (B10.out.mono (Nat.le_of_lt KB.out))⟩
end Go.Proofs.YtgfhanhonfpngaaDoor

