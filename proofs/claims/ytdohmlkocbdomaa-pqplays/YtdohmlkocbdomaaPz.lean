/- pq: PqPlays. -/
import Derived.Test.YtdohmlkocbdomaaPy
import Derived.Deep.RegionHeld
namespace Go.Proofs.Ytdohmlkocbdomaa
open Go.ChangeShapes Go.WideShapes Go.ChangeAt Go.RowKit Go.Joins Go.Deep

def A3 (ib kb rb : Nat) : Nat → Prop := fun k => k = ib ∨ k = kb ∨ k = rb
set_option maxRecDepth 100000 in
set_option maxHeartbeats 16000000 in
theorem plays_main {w : World} {a1 : Option Addr} {c1 n m : Nat} {g : Nat → OpZ} (h1 : OpsAt w (.slice a1 m c1) m g) (hn : n ≤ 100) (hm : m ≤ 200) :
    Calls Try.prog 3 #[.int .i64 n, .slice a1 m c1] w fun e w' => e = .returned (.bool true) ∧ Below w.heap.size w w' := by
  have A1 := Lib.hid h1; have HM := Lib.hid hm
  have HN : Hid (n ≤ 1048576) := by show n ≤ _; omega
  have NE := Lib.hid (fun W => new_any n (by omega) W); have RN := Lib.hid (fun W => rnew_any n (by omega) W)
  have n0 : ¬ (n : Int) < 0 := by omega
  have n1 : ¬ (100 : Int) < (n : Int) := by omega
  have m1 : ¬ (200 : Int) < (m : Int) := by omega
  clear h1 hn hm
  go_enter Try.func3, Try.ntmps3
  go_wp2_with fail
  refine (NE.out _).mono ?_; rintro e w1 ⟨qb, F, rfl, I, b1, l1⟩
  have QQ := Lib.hid (And.intro I (And.intro b1 l1))
  clear I b1 l1
  go_wp2_with fail
  refine (RN.out _).mono ?_; rintro e w2 ⟨ib, kb, rfl, R, b2, g1, g2⟩
  obtain ⟨rb, hrb⟩ : ∃ rb, w2.heap.size = rb := ⟨_, rfl⟩
  obtain ⟨W3, hW3⟩ : ∃ W3, w2.alloc (.cells #[sl ib n, sl kb n] 29) = W3 := ⟨_, rfl⟩
  have C0 : Hid (Row W3 rb 29 [sl ib n, sl kb n]) := by show Row _ _ _ _; rw [← hW3, ← hrb]; exact Row.new _ _ _
  have GR : Hid (w.heap.size ≤ rb ∧ rb ≠ ib ∧ rb ≠ kb) := by
    have := QQ.out.2.1.size; have := b2.size; have := R.i.lt; have := R.k.lt
    exact ⟨by omega, by omega, by omega⟩
  have P0 : Hid (Play w W3 (A3 ib kb rb) qb ib kb n (List.replicate n false) (List.replicate n 0) (List.replicate n false) (List.replicate n 0)) := by
    obtain ⟨I, b1, l1⟩ := QQ.out
    have s1 := b1.size; have s2 := b2.size; have li := R.i.lt; have lk := R.k.lt
    have ba : Below w2.heap.size w2 W3 := by rw [← hW3]; exact (Below.refl _ _).alloc (Nat.le_refl _) _
    have sz : W3.heap.size = w2.heap.size + 1 := by rw [← hW3]; simp
    refine ⟨⟨F, (I.below b2).below ba, fun k h => ⟨l1 k h, fun h2 => ?_⟩⟩, R.below ba, Or.inl rfl, Or.inr (Or.inl rfl), fun k h => ?_, (b1.trans (b2.mono s1)).trans (ba.mono (by omega)), by omega, by omega, by simp⟩
    · have := I.lt k h
      rcases h2 with h2 | h2 | h2 <;> omega
    · rcases h with h | h | h <;> omega
  clear R b2 g1 g2 QQ
  go_wp2_with fail
  clear hW3 hrb
  go_loopw [7] (fun s7 wr => ∃ (j : Nat) (ins : List Bool) (ks : List Int), j ≤ m ∧ s7 = .int .i64 (j : Int) ∧ Hid (Play w wr (A3 ib kb rb) qb ib kb n ins ks ins ks ∧ Row wr rb 29 [sl ib n, sl kb n])) (fun s7 _ => m - (intOf s7).toNat)
  case atStart => exact ⟨0, _, _, Nat.zero_le _, rfl, P0.out, C0.out⟩
  case round =>
    clear P0 C0
    obtain ⟨j, ins, ks, hj, rfl, T⟩ := hrel
    by_cases hjm : j < m
    · obtain ⟨j1, hj1⟩ : ∃ j1, j + 1 = j1 := ⟨_, rfl⟩
      have HJ := Lib.hid hj1
      have j0 : (0 : Int) ≤ (j : Int) := by omega
      have jl : (j : Int) < (m : Int) := by omega
      have e1 : (j : Int) + 1 = (j1 : Int) := by omega
      have e2 : IntKind.i64.wrap (j1 : Int) = (j1 : Int) := by rw [IntKind.wrap_i64]; have := HM.out; omega
      obtain ⟨lb, off, rfl, o0, o1, o2⟩ := ops_at A1.out T.out.1.b hjm
      obtain ⟨⟨kd, it, ky⟩, hz⟩ : ∃ z, g j = z := ⟨_, rfl⟩
      rw [hz] at o0 o1 o2
      dsimp only at o0 o1 o2
      obtain ⟨xb, hxb⟩ : ∃ xb, wr.heap.size = xb := ⟨_, rfl⟩
      obtain ⟨W1, hW1⟩ : ∃ W1, wr.alloc (.cells #[.int .i64 kd, .int .i64 it, .int .i64 ky] 32) = W1 := ⟨_, rfl⟩
      have X1 : Hid (Row W1 xb 32 [.int .i64 kd, .int .i64 it, .int .i64 ky]) := by show Row _ _ _ _; rw [← hW1, ← hxb]; exact Row.new _ _ _
      have C1 : Hid (Row W1 rb 29 [sl ib n, sl kb n]) := by show Row _ _ _ _; rw [← hW1]; exact T.out.2.alloc _
      have P1 : Hid (Play w W1 (fun k => A3 ib kb rb k ∨ k = xb) qb ib kb n ins ks ins ks) := by show Play _ _ _ _ _ _ _ _ _ _ _; rw [← hW1, ← hxb]; exact T.out.1.spare _
      have XL : Hid (xb ≠ ib ∧ xb ≠ kb ∧ xb ≠ rb) := by
        have := T.out.1.r.i.lt; have := T.out.1.r.k.lt; have := T.out.2.lt
        exact ⟨by omega, by omega, by omega⟩
      have LS : Hid (∀ k, A3 ib kb rb k → A3 ib kb rb k ∨ k = xb) := fun k h => Or.inl h
      have x0 := X1.out.cell (i := 0) rfl; have x1 := X1.out.cell (i := 1) rfl; have x2 := X1.out.cell (i := 2) rfl
      clear hj1 hz T
      by_cases h0 : kd = 0
      · obtain rfl := h0
        go_wp2_with fail
        refine (play_set P1.out it ky).mono ?_; rintro e w2 ⟨b, ins2, ks2, sr, rfl, p2, k2⟩
        have X2 : Hid (Row w2 xb 32 [.int .i64 0, .int .i64 it, .int .i64 ky]) := X1.out.same (k2 _ (Or.inr rfl) X1.out.lt)
        have C2 : Hid (Row w2 rb 29 [sl ib n, sl kb n]) := C1.out.same (k2 _ (Or.inl (Or.inr (Or.inr rfl))) C1.out.lt)
        have P2 := Lib.hid p2; have SR := Lib.hid sr
        clear p2 k2 sr x0 x1 x2 X1 C1 P1
        have x0 := X2.out.cell (i := 0) rfl; have x1 := X2.out.cell (i := 1) rfl; have x2 := X2.out.cell (i := 2) rfl
        have r0 := C2.out.cell (i := 0) rfl; have r1 := C2.out.cell (i := 1) rfl
        go_wp2_with fail
        refine (play_rset P2.out it ky).mono ?_; rintro e w3 ⟨b', ins3, ks3, sr, rfl, p3, k3⟩
        obtain ⟨rfl, rfl, rfl⟩ := setr_same SR.out sr
        have c3' : Row w3 rb 29 [sl ib n, sl kb n] := C2.out.same (k3 _ C2.out.lt GR.out.2.1 GR.out.2.2)
        clear sr SR x0 x1 x2 r0 r1 X2 C2 P2 k3
        obtain ⟨tb, htb⟩ : ∃ tb, w3.heap.size = tb := ⟨_, rfl⟩
        obtain ⟨W4, hW4⟩ : ∃ W4, w3.alloc (.cells #[sl ib n, sl kb n] 29) = W4 := ⟨_, rfl⟩
        have t4 : Row W4 tb 29 [sl ib n, sl kb n] := by rw [← hW4, ← htb]; exact Row.new _ _ _
        have c4 : Row W4 rb 29 [sl ib n, sl kb n] := by rw [← hW4]; exact c3'.alloc _
        have p4 : Play w W4 (A3 ib kb rb) qb ib kb n ins3 ks3 ins3 ks3 := by rw [← hW4]; exact (p3.less LS.out (Or.inl rfl) (Or.inr (Or.inl rfl))).below ((Below.refl _ _).alloc (Nat.le_refl _) _)
        obtain ⟨W5, hW5, c5, p5, k5, _⟩ := back p4 c4 (Or.inr (Or.inr rfl)) GR.out.1 GR.out.2.1 GR.out.2.2
        have u0 := t4.cell (i := 0) rfl; have u1 := t4.cell (i := 1) rfl
        have v0 := c4.cell (i := 0) rfl; have v1 := c4.cell (i := 1) rfl; have vf0 := c4.fr (i := 0); have vf1 := c4.fr (i := 1)
        have PE := Lib.hid p5; have CE := Lib.hid c5
        clear p3 c3' t4 c4 p4 c5 p5 k5
        go_wp2_with fail
        have S0 : Hid (∀ W, W = W5.drew → Below W5.heap.size W5 W ∧ W.cell? ⟨rb, 0, none⟩ = some (sl ib n) ∧ W.cell? ⟨rb, 1, none⟩ = some (sl kb n)) := by
          intro W e0; subst e0
          exact ⟨(Below.refl _ _).drew, CE.out.cell (i := 0) rfl, CE.out.cell (i := 1) rfl⟩
        refine wp_region_held_drew (S := fun W => Below W5.heap.size W5 W ∧ W.cell? ⟨rb, 0, none⟩ = some (sl ib n) ∧ W.cell? ⟨rb, 1, none⟩ = some (sl kb n)) (by kernel_rfl) (S0.out _ rfl) (fun hHeld => ?_)
        clear S0
        refine wpAnyH_take (i := 0) (v := ?_) rfl (by kernel_rfl) (by kernel_rfl) (by kernel_rfl) (fun _ _ _ h => h) (Or.inl ⟨by rfl, ?_⟩) (by assumption) ?_
        rotate_left 1
        · (intro w hSw; (try dsimp only at hSw); first | (go_simp; done) | (go_simp; with_reducible rfl))
        simp only [Act.put, List.getElem_toArray, List.getElem_cons_zero, List.setIfInBounds_toArray, List.set_cons_zero, List.set_cons_succ]
        refine wpAnyH_take (i := 2) (v := ?_) rfl (by kernel_rfl) (by kernel_rfl) (by kernel_rfl) (fun _ _ _ h => h) (Or.inl ⟨by rfl, ?_⟩) (by assumption) ?_
        rotate_left 1
        · (intro w hSw; (try dsimp only at hSw); first | (go_simp; done) | (go_simp; with_reducible rfl))
        simp only [Act.put, List.getElem_toArray, List.getElem_cons_zero, List.getElem_cons_succ, List.setIfInBounds_toArray, List.set_cons_zero, List.set_cons_succ]
        refine wpAnyH_ready (rs := [1]) (by kernel_rfl) (by simp) ?_
        refine AllReadyH.cons rfl (fun K hK => ?_) AllReadyH.nil
        have hS1 := Lib.hid hHeld
        go_simp
        go_wp2_with (go_at_call 19; (with_reducible refine (PE.out.lenq hS1.out.1).mono ?_); rintro en w8 ⟨rfl, rfl⟩)
        refine hK.out _ _ hS1.out (fun hHeld2 => ?_)
        clear hK K hHeld hS1; have hHeld := hHeld2; clear hHeld2
        refine wpAnyH_ready (rs := [3]) (by kernel_rfl) (by simp) ?_
        refine AllReadyH.cons rfl (fun K hK => ?_) AllReadyH.nil
        have hS1 := Lib.hid hHeld
        go_simp
        go_wp2_with (go_at_call 20; (with_reducible refine (PE.out.lenr HN.out hS1.out.1).mono ?_); rintro en w8 ⟨rfl, b8⟩)
        have SK := Lib.hid (s_keep CE.out.lt b8 hS1.out)
        refine hK.out _ _ SK.out (fun hHeld2 => ?_)
        clear hK K hHeld hS1 b8; have hHeld := hHeld2; clear hHeld2
        refine wpAnyH_take (i := 4) (v := ?_) rfl (by kernel_rfl) (by kernel_rfl) (by kernel_rfl) (fun _ _ _ h => h) (Or.inl ⟨by rfl, ?_⟩) (by assumption) ?_
        rotate_left 1
        · (intro w hSw; (try dsimp only at hSw); first | (go_simp; done) | (go_simp; with_reducible rfl))
        simp only [Act.put, List.getElem_toArray, List.getElem_cons_zero, List.getElem_cons_succ, List.setIfInBounds_toArray, List.set_cons_zero, List.set_cons_succ]
        refine wpAnyH_done (by kernel_rfl) ?_ _
        clear hHeld
        go_wp2_with fail
        go_roundw
        case measure => simp [intOf]; have := HJ.out; omega
        case rel => exact ⟨j1, _, _, by have := HJ.out; omega, rfl, ⟨PE.out.below SK.out.1, CE.out.below SK.out.1 CE.out.lt⟩⟩
      · have d0 : (kd == 0) = false := by simpa using h0
        by_cases h1 : kd = 1
        · obtain rfl := h1
          obtain ⟨kv, hkv⟩ : ∃ kv, (if hasB ins it = true then ks.getD it.toNat 0 else 0) = kv := ⟨_, rfl⟩
          obtain ⟨hb, hhb⟩ : ∃ hb, hasB ins it = hb := ⟨_, rfl⟩
          have KQ := Lib.hid (play_key P1.out it); have KR := Lib.hid (fun W (b : Below W1.heap.size W1 W) => rkey_any (P1.out.below b).r it)
          rw [hkv, hhb] at KQ KR
          clear hkv hhb
          go_wp2_with fail
          refine KQ.out.mono ?_; rintro e w' ⟨rfl, rfl⟩
          have r0 := C1.out.cell (i := 0) rfl; have r1 := C1.out.cell (i := 1) rfl
          go_wp2_with fail
          refine (KR.out _ (Below.refl _ _)).mono ?_; rintro e w5 ⟨rfl, b⟩
          have PE := Lib.hid ((P1.out.below b).less LS.out (Or.inl rfl) (Or.inr (Or.inl rfl))); have CE := Lib.hid (C1.out.below b C1.out.lt)
          clear b x0 x1 x2 r0 r1 X1 C1 P1 KQ KR
          go_wp2_with fail
          have S0 : Hid (∀ W, W = w5.drew → Below w5.heap.size w5 W ∧ W.cell? ⟨rb, 0, none⟩ = some (sl ib n) ∧ W.cell? ⟨rb, 1, none⟩ = some (sl kb n)) := by
            intro W e0; subst e0
            exact ⟨(Below.refl _ _).drew, CE.out.cell (i := 0) rfl, CE.out.cell (i := 1) rfl⟩
          refine wp_region_held_drew (S := fun W => Below w5.heap.size w5 W ∧ W.cell? ⟨rb, 0, none⟩ = some (sl ib n) ∧ W.cell? ⟨rb, 1, none⟩ = some (sl kb n)) (by kernel_rfl) (S0.out _ rfl) (fun hHeld => ?_)
          clear S0
          refine wpAnyH_take (i := 0) (v := ?_) rfl (by kernel_rfl) (by kernel_rfl) (by kernel_rfl) (fun _ _ _ h => h) (Or.inl ⟨by rfl, ?_⟩) (by assumption) ?_
          rotate_left 1
          · (intro w hSw; (try dsimp only at hSw); first | (go_simp; done) | (go_simp; with_reducible rfl))
          simp only [Act.put, List.getElem_toArray, List.getElem_cons_zero, List.setIfInBounds_toArray, List.set_cons_zero, List.set_cons_succ]
          refine wpAnyH_take (i := 2) (v := ?_) rfl (by kernel_rfl) (by kernel_rfl) (by kernel_rfl) (fun _ _ _ h => h) (Or.inl ⟨by rfl, ?_⟩) (by assumption) ?_
          rotate_left 1
          · (intro w hSw; (try dsimp only at hSw); first | (go_simp; done) | (go_simp; with_reducible rfl))
          simp only [Act.put, List.getElem_toArray, List.getElem_cons_zero, List.getElem_cons_succ, List.setIfInBounds_toArray, List.set_cons_zero, List.set_cons_succ]
          refine wpAnyH_ready (rs := [1]) (by kernel_rfl) (by simp) ?_
          refine AllReadyH.cons rfl (fun K hK => ?_) AllReadyH.nil
          have hS1 := Lib.hid hHeld
          go_simp
          go_wp2_with (go_at_call 19; (with_reducible refine (PE.out.lenq hS1.out.1).mono ?_); rintro en w8 ⟨rfl, rfl⟩)
          refine hK.out _ _ hS1.out (fun hHeld2 => ?_)
          clear hK K hHeld hS1; have hHeld := hHeld2; clear hHeld2
          refine wpAnyH_ready (rs := [3]) (by kernel_rfl) (by simp) ?_
          refine AllReadyH.cons rfl (fun K hK => ?_) AllReadyH.nil
          have hS1 := Lib.hid hHeld
          go_simp
          go_wp2_with (go_at_call 20; (with_reducible refine (PE.out.lenr HN.out hS1.out.1).mono ?_); rintro en w8 ⟨rfl, b8⟩)
          have SK := Lib.hid (s_keep CE.out.lt b8 hS1.out)
          refine hK.out _ _ SK.out (fun hHeld2 => ?_)
          clear hK K hHeld hS1 b8; have hHeld := hHeld2; clear hHeld2
          refine wpAnyH_take (i := 4) (v := ?_) rfl (by kernel_rfl) (by kernel_rfl) (by kernel_rfl) (fun _ _ _ h => h) (Or.inl ⟨by rfl, ?_⟩) (by assumption) ?_
          rotate_left 1
          · (intro w hSw; (try dsimp only at hSw); first | (go_simp; done) | (go_simp; with_reducible rfl))
          simp only [Act.put, List.getElem_toArray, List.getElem_cons_zero, List.getElem_cons_succ, List.setIfInBounds_toArray, List.set_cons_zero, List.set_cons_succ]
          refine wpAnyH_done (by kernel_rfl) ?_ _
          clear hHeld
          go_wp2_with fail
          go_roundw
          case measure => simp [intOf]; have := HJ.out; omega
          case rel => exact ⟨j1, _, _, by have := HJ.out; omega, rfl, ⟨PE.out.below SK.out.1, CE.out.below SK.out.1 CE.out.lt⟩⟩
        · have d1 : (kd == 1) = false := by simpa using h1
          by_cases h2 : kd = 2
          · obtain rfl := h2
            go_wp2_with fail
            refine (play_drop P1.out it).mono ?_; rintro e w2 ⟨b, ins2, sr, rfl, p2, k2⟩
            have X2 : Hid (Row w2 xb 32 [.int .i64 2, .int .i64 it, .int .i64 ky]) := X1.out.same (k2 _ (Or.inr rfl) X1.out.lt)
            have C2 : Hid (Row w2 rb 29 [sl ib n, sl kb n]) := C1.out.same (k2 _ (Or.inl (Or.inr (Or.inr rfl))) C1.out.lt)
            have P2 := Lib.hid p2; have SR := Lib.hid sr
            clear p2 k2 sr x0 x1 x2 X1 C1 P1
            have x0 := X2.out.cell (i := 0) rfl; have x1 := X2.out.cell (i := 1) rfl; have x2 := X2.out.cell (i := 2) rfl
            have r0 := C2.out.cell (i := 0) rfl; have r1 := C2.out.cell (i := 1) rfl
            go_wp2_with fail
            refine (play_rdrop P2.out it).mono ?_; rintro e w3 ⟨b', ins3, sr, rfl, p3, k3⟩
            obtain ⟨rfl, rfl⟩ := dropr_same SR.out sr
            have c3' : Row w3 rb 29 [sl ib n, sl kb n] := C2.out.same (k3 _ C2.out.lt GR.out.2.1 GR.out.2.2)
            clear sr SR x0 x1 x2 r0 r1 X2 C2 P2 k3
            obtain ⟨tb, htb⟩ : ∃ tb, w3.heap.size = tb := ⟨_, rfl⟩
            obtain ⟨W4, hW4⟩ : ∃ W4, w3.alloc (.cells #[sl ib n, sl kb n] 29) = W4 := ⟨_, rfl⟩
            have t4 : Row W4 tb 29 [sl ib n, sl kb n] := by rw [← hW4, ← htb]; exact Row.new _ _ _
            have c4 : Row W4 rb 29 [sl ib n, sl kb n] := by rw [← hW4]; exact c3'.alloc _
            have p4 : Play w W4 (A3 ib kb rb) qb ib kb n ins3 ks ins3 ks := by rw [← hW4]; exact (p3.less LS.out (Or.inl rfl) (Or.inr (Or.inl rfl))).below ((Below.refl _ _).alloc (Nat.le_refl _) _)
            obtain ⟨W5, hW5, c5, p5, k5, _⟩ := back p4 c4 (Or.inr (Or.inr rfl)) GR.out.1 GR.out.2.1 GR.out.2.2
            have u0 := t4.cell (i := 0) rfl; have u1 := t4.cell (i := 1) rfl
            have v0 := c4.cell (i := 0) rfl; have v1 := c4.cell (i := 1) rfl; have vf0 := c4.fr (i := 0); have vf1 := c4.fr (i := 1)
            have PE := Lib.hid p5; have CE := Lib.hid c5
            clear p3 c3' t4 c4 p4 c5 p5 k5
            go_wp2_with fail
            have S0 : Hid (∀ W, W = W5.drew → Below W5.heap.size W5 W ∧ W.cell? ⟨rb, 0, none⟩ = some (sl ib n) ∧ W.cell? ⟨rb, 1, none⟩ = some (sl kb n)) := by
              intro W e0; subst e0
              exact ⟨(Below.refl _ _).drew, CE.out.cell (i := 0) rfl, CE.out.cell (i := 1) rfl⟩
            refine wp_region_held_drew (S := fun W => Below W5.heap.size W5 W ∧ W.cell? ⟨rb, 0, none⟩ = some (sl ib n) ∧ W.cell? ⟨rb, 1, none⟩ = some (sl kb n)) (by kernel_rfl) (S0.out _ rfl) (fun hHeld => ?_)
            clear S0
            refine wpAnyH_take (i := 0) (v := ?_) rfl (by kernel_rfl) (by kernel_rfl) (by kernel_rfl) (fun _ _ _ h => h) (Or.inl ⟨by rfl, ?_⟩) (by assumption) ?_
            rotate_left 1
            · (intro w hSw; (try dsimp only at hSw); first | (go_simp; done) | (go_simp; with_reducible rfl))
            simp only [Act.put, List.getElem_toArray, List.getElem_cons_zero, List.setIfInBounds_toArray, List.set_cons_zero, List.set_cons_succ]
            refine wpAnyH_take (i := 2) (v := ?_) rfl (by kernel_rfl) (by kernel_rfl) (by kernel_rfl) (fun _ _ _ h => h) (Or.inl ⟨by rfl, ?_⟩) (by assumption) ?_
            rotate_left 1
            · (intro w hSw; (try dsimp only at hSw); first | (go_simp; done) | (go_simp; with_reducible rfl))
            simp only [Act.put, List.getElem_toArray, List.getElem_cons_zero, List.getElem_cons_succ, List.setIfInBounds_toArray, List.set_cons_zero, List.set_cons_succ]
            refine wpAnyH_ready (rs := [1]) (by kernel_rfl) (by simp) ?_
            refine AllReadyH.cons rfl (fun K hK => ?_) AllReadyH.nil
            have hS1 := Lib.hid hHeld
            go_simp
            go_wp2_with (go_at_call 19; (with_reducible refine (PE.out.lenq hS1.out.1).mono ?_); rintro en w8 ⟨rfl, rfl⟩)
            refine hK.out _ _ hS1.out (fun hHeld2 => ?_)
            clear hK K hHeld hS1; have hHeld := hHeld2; clear hHeld2
            refine wpAnyH_ready (rs := [3]) (by kernel_rfl) (by simp) ?_
            refine AllReadyH.cons rfl (fun K hK => ?_) AllReadyH.nil
            have hS1 := Lib.hid hHeld
            go_simp
            go_wp2_with (go_at_call 20; (with_reducible refine (PE.out.lenr HN.out hS1.out.1).mono ?_); rintro en w8 ⟨rfl, b8⟩)
            have SK := Lib.hid (s_keep CE.out.lt b8 hS1.out)
            refine hK.out _ _ SK.out (fun hHeld2 => ?_)
            clear hK K hHeld hS1 b8; have hHeld := hHeld2; clear hHeld2
            refine wpAnyH_take (i := 4) (v := ?_) rfl (by kernel_rfl) (by kernel_rfl) (by kernel_rfl) (fun _ _ _ h => h) (Or.inl ⟨by rfl, ?_⟩) (by assumption) ?_
            rotate_left 1
            · (intro w hSw; (try dsimp only at hSw); first | (go_simp; done) | (go_simp; with_reducible rfl))
            simp only [Act.put, List.getElem_toArray, List.getElem_cons_zero, List.getElem_cons_succ, List.setIfInBounds_toArray, List.set_cons_zero, List.set_cons_succ]
            refine wpAnyH_done (by kernel_rfl) ?_ _
            clear hHeld
            go_wp2_with fail
            go_roundw
            case measure => simp [intOf]; have := HJ.out; omega
            case rel => exact ⟨j1, _, _, by have := HJ.out; omega, rfl, ⟨PE.out.below SK.out.1, CE.out.below SK.out.1 CE.out.lt⟩⟩
          · have d2 : (kd == 2) = false := by simpa using h2
            by_cases h3 : kd = 3
            · obtain rfl := h3
              go_wp2_with fail
              refine (play_pop P1.out).mono ?_; rintro e w2 ⟨pa, pk, pb, ins2, sr, rfl, p2, k2⟩
              have C2 : Hid (Row w2 rb 29 [sl ib n, sl kb n]) := C1.out.same (k2 _ (Or.inl (Or.inr (Or.inr rfl))) C1.out.lt)
              have P2 := Lib.hid p2; have SR := Lib.hid sr
              clear p2 k2 sr x0 x1 x2 X1 C1 P1
              have r0 := C2.out.cell (i := 0) rfl; have r1 := C2.out.cell (i := 1) rfl
              go_wp2_with fail
              refine (play_rpop P2.out HN.out).mono ?_; rintro e w3 ⟨pa', pk', pb', ins3, sr, rfl, p3, k3⟩
              obtain ⟨rfl, rfl, rfl, rfl, _⟩ := popr_same (agree_refl _ _) SR.out sr
              have c3' : Row w3 rb 29 [sl ib n, sl kb n] := C2.out.same (k3 _ C2.out.lt GR.out.2.1 GR.out.2.2)
              clear sr SR r0 r1 C2 P2 k3
              obtain ⟨tb, htb⟩ : ∃ tb, w3.heap.size = tb := ⟨_, rfl⟩
              obtain ⟨W4, hW4⟩ : ∃ W4, w3.alloc (.cells #[sl ib n, sl kb n] 29) = W4 := ⟨_, rfl⟩
              have z4 : W4.heap.size = tb + 1 := by rw [← hW4, ← htb]; simp
              obtain ⟨W6, hW6⟩ : ∃ W6, W4.alloc (.cells #[.int .i64 pa', .int .i64 pk', .bool pb'] 44) = W6 := ⟨_, rfl⟩
              have t4 : Row W6 tb 29 [sl ib n, sl kb n] := by rw [← hW6]; refine Row.alloc ?_ _; rw [← hW4, ← htb]; exact Row.new _ _ _
              have y4 : Row W6 (tb + 1) 44 [.int .i64 pa', .int .i64 pk', .bool pb'] := by rw [← hW6, ← z4]; exact Row.new _ _ _
              have c4 : Row W6 rb 29 [sl ib n, sl kb n] := by rw [← hW6]; refine Row.alloc ?_ _; rw [← hW4]; exact c3'.alloc _
              have p4 : Play w W6 (A3 ib kb rb) qb ib kb n ins3 ks ins3 ks := by
                have q4 : Play w W4 (A3 ib kb rb) qb ib kb n ins3 ks ins3 ks := by rw [← hW4]; exact (p3.less LS.out (Or.inl rfl) (Or.inr (Or.inl rfl))).below ((Below.refl _ _).alloc (Nat.le_refl _) _)
                rw [← hW6]; exact q4.below ((Below.refl _ _).alloc (Nat.le_refl _) _)
              obtain ⟨W5, hW5, c5, p5, k5, _⟩ := back p4 c4 (Or.inr (Or.inr rfl)) GR.out.1 GR.out.2.1 GR.out.2.2
              have rl := c3'.lt
              have y5 : Row W5 (tb + 1) 44 [.int .i64 pa', .int .i64 pk', .bool pb'] := y4.same (k5 _ y4.lt (by omega))
              have u0 := t4.cell (i := 0) rfl; have u1 := t4.cell (i := 1) rfl
              have v0 := c4.cell (i := 0) rfl; have v1 := c4.cell (i := 1) rfl; have vf0 := c4.fr (i := 0); have vf1 := c4.fr (i := 1)
              have y0 := y5.cell (i := 0) rfl; have y1 := y5.cell (i := 1) rfl; have y2 := y5.cell (i := 2) rfl
              have PE := Lib.hid p5; have CE := Lib.hid c5
              clear p3 c3' t4 c4 p4 c5 p5 k5 y4 y5 rl
              go_wp2_with fail
              have S0 : Hid (∀ W, W = W5.drew → Below W5.heap.size W5 W ∧ W.cell? ⟨rb, 0, none⟩ = some (sl ib n) ∧ W.cell? ⟨rb, 1, none⟩ = some (sl kb n)) := by
                intro W e0; subst e0
                exact ⟨(Below.refl _ _).drew, CE.out.cell (i := 0) rfl, CE.out.cell (i := 1) rfl⟩
              refine wp_region_held_drew (S := fun W => Below W5.heap.size W5 W ∧ W.cell? ⟨rb, 0, none⟩ = some (sl ib n) ∧ W.cell? ⟨rb, 1, none⟩ = some (sl kb n)) (by kernel_rfl) (S0.out _ rfl) (fun hHeld => ?_)
              clear S0
              refine wpAnyH_take (i := 0) (v := ?_) rfl (by kernel_rfl) (by kernel_rfl) (by kernel_rfl) (fun _ _ _ h => h) (Or.inl ⟨by rfl, ?_⟩) (by assumption) ?_
              rotate_left 1
              · (intro w hSw; (try dsimp only at hSw); first | (go_simp; done) | (go_simp; with_reducible rfl))
              simp only [Act.put, List.getElem_toArray, List.getElem_cons_zero, List.setIfInBounds_toArray, List.set_cons_zero, List.set_cons_succ]
              refine wpAnyH_take (i := 2) (v := ?_) rfl (by kernel_rfl) (by kernel_rfl) (by kernel_rfl) (fun _ _ _ h => h) (Or.inl ⟨by rfl, ?_⟩) (by assumption) ?_
              rotate_left 1
              · (intro w hSw; (try dsimp only at hSw); first | (go_simp; done) | (go_simp; with_reducible rfl))
              simp only [Act.put, List.getElem_toArray, List.getElem_cons_zero, List.getElem_cons_succ, List.setIfInBounds_toArray, List.set_cons_zero, List.set_cons_succ]
              refine wpAnyH_ready (rs := [1]) (by kernel_rfl) (by simp) ?_
              refine AllReadyH.cons rfl (fun K hK => ?_) AllReadyH.nil
              have hS1 := Lib.hid hHeld
              go_simp
              go_wp2_with (go_at_call 19; (with_reducible refine (PE.out.lenq hS1.out.1).mono ?_); rintro en w8 ⟨rfl, rfl⟩)
              refine hK.out _ _ hS1.out (fun hHeld2 => ?_)
              clear hK K hHeld hS1; have hHeld := hHeld2; clear hHeld2
              refine wpAnyH_ready (rs := [3]) (by kernel_rfl) (by simp) ?_
              refine AllReadyH.cons rfl (fun K hK => ?_) AllReadyH.nil
              have hS1 := Lib.hid hHeld
              go_simp
              go_wp2_with (go_at_call 20; (with_reducible refine (PE.out.lenr HN.out hS1.out.1).mono ?_); rintro en w8 ⟨rfl, b8⟩)
              have SK := Lib.hid (s_keep CE.out.lt b8 hS1.out)
              refine hK.out _ _ SK.out (fun hHeld2 => ?_)
              clear hK K hHeld hS1 b8; have hHeld := hHeld2; clear hHeld2
              refine wpAnyH_take (i := 4) (v := ?_) rfl (by kernel_rfl) (by kernel_rfl) (by kernel_rfl) (fun _ _ _ h => h) (Or.inl ⟨by rfl, ?_⟩) (by assumption) ?_
              rotate_left 1
              · (intro w hSw; (try dsimp only at hSw); first | (go_simp; done) | (go_simp; with_reducible rfl))
              simp only [Act.put, List.getElem_toArray, List.getElem_cons_zero, List.getElem_cons_succ, List.setIfInBounds_toArray, List.set_cons_zero, List.set_cons_succ]
              refine wpAnyH_done (by kernel_rfl) ?_ _
              clear hHeld
              go_wp2_with fail
              go_roundw
              case measure => simp [intOf]; have := HJ.out; omega
              case rel => exact ⟨j1, _, _, by have := HJ.out; omega, rfl, ⟨PE.out.below SK.out.1, CE.out.below SK.out.1 CE.out.lt⟩⟩
            · have d3 : (kd == 3) = false := by simpa using h3
              have PE := Lib.hid (P1.out.less LS.out (Or.inl rfl) (Or.inr (Or.inl rfl))); have CE := Lib.hid C1.out
              clear X1 C1 P1
              go_wp2_with fail
              have S0 : Hid (∀ W, W = W1.drew → Below W1.heap.size W1 W ∧ W.cell? ⟨rb, 0, none⟩ = some (sl ib n) ∧ W.cell? ⟨rb, 1, none⟩ = some (sl kb n)) := by
                intro W e0; subst e0
                exact ⟨(Below.refl _ _).drew, CE.out.cell (i := 0) rfl, CE.out.cell (i := 1) rfl⟩
              refine wp_region_held_drew (S := fun W => Below W1.heap.size W1 W ∧ W.cell? ⟨rb, 0, none⟩ = some (sl ib n) ∧ W.cell? ⟨rb, 1, none⟩ = some (sl kb n)) (by kernel_rfl) (S0.out _ rfl) (fun hHeld => ?_)
              clear S0
              refine wpAnyH_take (i := 0) (v := ?_) rfl (by kernel_rfl) (by kernel_rfl) (by kernel_rfl) (fun _ _ _ h => h) (Or.inl ⟨by rfl, ?_⟩) (by assumption) ?_
              rotate_left 1
              · (intro w hSw; (try dsimp only at hSw); first | (go_simp; done) | (go_simp; with_reducible rfl))
              simp only [Act.put, List.getElem_toArray, List.getElem_cons_zero, List.setIfInBounds_toArray, List.set_cons_zero, List.set_cons_succ]
              refine wpAnyH_take (i := 2) (v := ?_) rfl (by kernel_rfl) (by kernel_rfl) (by kernel_rfl) (fun _ _ _ h => h) (Or.inl ⟨by rfl, ?_⟩) (by assumption) ?_
              rotate_left 1
              · (intro w hSw; (try dsimp only at hSw); first | (go_simp; done) | (go_simp; with_reducible rfl))
              simp only [Act.put, List.getElem_toArray, List.getElem_cons_zero, List.getElem_cons_succ, List.setIfInBounds_toArray, List.set_cons_zero, List.set_cons_succ]
              refine wpAnyH_ready (rs := [1]) (by kernel_rfl) (by simp) ?_
              refine AllReadyH.cons rfl (fun K hK => ?_) AllReadyH.nil
              have hS1 := Lib.hid hHeld
              go_simp
              go_wp2_with (go_at_call 19; (with_reducible refine (PE.out.lenq hS1.out.1).mono ?_); rintro en w8 ⟨rfl, rfl⟩)
              refine hK.out _ _ hS1.out (fun hHeld2 => ?_)
              clear hK K hHeld hS1; have hHeld := hHeld2; clear hHeld2
              refine wpAnyH_ready (rs := [3]) (by kernel_rfl) (by simp) ?_
              refine AllReadyH.cons rfl (fun K hK => ?_) AllReadyH.nil
              have hS1 := Lib.hid hHeld
              go_simp
              go_wp2_with (go_at_call 20; (with_reducible refine (PE.out.lenr HN.out hS1.out.1).mono ?_); rintro en w8 ⟨rfl, b8⟩)
              have SK := Lib.hid (s_keep CE.out.lt b8 hS1.out)
              refine hK.out _ _ SK.out (fun hHeld2 => ?_)
              clear hK K hHeld hS1 b8; have hHeld := hHeld2; clear hHeld2
              refine wpAnyH_take (i := 4) (v := ?_) rfl (by kernel_rfl) (by kernel_rfl) (by kernel_rfl) (fun _ _ _ h => h) (Or.inl ⟨by rfl, ?_⟩) (by assumption) ?_
              rotate_left 1
              · (intro w hSw; (try dsimp only at hSw); first | (go_simp; done) | (go_simp; with_reducible rfl))
              simp only [Act.put, List.getElem_toArray, List.getElem_cons_zero, List.getElem_cons_succ, List.setIfInBounds_toArray, List.set_cons_zero, List.set_cons_succ]
              refine wpAnyH_done (by kernel_rfl) ?_ _
              clear hHeld
              go_wp2_with fail
              go_roundw
              case measure => simp [intOf]; have := HJ.out; omega
              case rel => exact ⟨j1, _, _, by have := HJ.out; omega, rfl, ⟨PE.out.below SK.out.1, CE.out.below SK.out.1 CE.out.lt⟩⟩
    · have jl : ¬ (j : Int) < (m : Int) := by omega
      go_wp2_with fail
      refine (lives_any _).mono ?_; rintro e w3 ⟨rfl, b⟩
      have BB := Lib.hid b
      clear b
      go_wp2_with fail
      go_ret
      exact ⟨rfl, T.out.1.b.trans (BB.out.mono T.out.1.b.size)⟩
theorem plays_no {w : World} {a1 : Option Addr} {c1 m : Nat} {x : Int} (h : x < 0 ∨ 100 < x ∨ 200 < m) : Calls Try.prog 3 #[.int .i64 x, .slice a1 m c1] w fun e w' => e = .returned (.bool true) ∧ Below w.heap.size w w' := by
  by_cases h0 : x < 0
  · clear h
    go_enter Try.func3, Try.ntmps3
    go_wp2_with fail
    refine (lives_any _).mono ?_; rintro e w3 ⟨rfl, b⟩
    go_wp2_with fail
    go_ret
    exact ⟨rfl, b⟩
  · by_cases h1 : 100 < x
    · clear h
      go_enter Try.func3, Try.ntmps3
      go_wp2_with fail
      refine (lives_any _).mono ?_; rintro e w3 ⟨rfl, b⟩
      go_wp2_with fail
      go_ret
      exact ⟨rfl, b⟩
    · have h2 : (200 : Int) < (m : Int) := by omega
      clear h
      go_enter Try.func3, Try.ntmps3
      go_wp2_with fail
      refine (lives_any _).mono ?_; rintro e w3 ⟨rfl, b⟩
      go_wp2_with fail
      go_ret
      exact ⟨rfl, b⟩
theorem pqPlays_walk (a0 : Int) (v1 : Value) (w : World) (_h0 : (Lit.int .i64 a0).wf = true) (h1 : ∃ n g, OpsAt w v1 n g) : Calls Try.prog 3 #[.int .i64 a0, v1] w fun e w' => e = .returned (.bool true) ∧ Below w.heap.size w w' := by
  obtain ⟨m, g, h1⟩ := h1
  have A1 := h1
  obtain ⟨a1, c1, rfl, _⟩ := h1
  by_cases h : a0 < 0 ∨ 100 < a0 ∨ 200 < m
  · exact plays_no h
  · obtain ⟨n, rfl⟩ : ∃ n : Nat, a0 = (n : Int) := ⟨a0.toNat, by omega⟩
    exact plays_main A1 (by omega) (by omega)
theorem pqPlays_open1 {H : Type} {enc : TypeId × Value → H} {W : World} {base b0 : Nat} {spare : Nat → Bool} {held : Bool} {r : Reach} {v : Value} {d : DataW H} {p : List MemPlace}
    (hv : Value.okWide Try.prog W r b0 22 v) (h : DataW.Trod enc Try.prog W base spare held 22 v d p) : ∃ n g, OpsAt W v n g := ops_open hv h
end Go.Proofs.Ytdohmlkocbdomaa
