/- tags: TagsSets. -/
import Derived.Test.YtlojecpladckiaaTu
namespace Go.Proofs.Ytlojecpladckiaa
open Go.ChangeShapes Go.WideShapes Go.ChangeAt Go.RowKit Go.Joins Go.Deep

open Go.Proofs.TagM Go.Shelf Go.Sort

theorem chk_one (k v : ByteArray) : chkT [(k, v)] = if vld (k, v) then 0 else 10 := by
  by_cases h : vld (k, v)
  · rw [if_pos h]; exact (chk_zero (by simp)).2 ⟨fun t ht => by rw [List.mem_singleton.1 ht]; exact h, List.pairwise_singleton _ _⟩
  · rw [if_neg h, chkT_from (by simp)]; exact chkAt_bad (k := 0) (by simp) h
theorem check_one (k v : ByteArray) (w : World) : Calls Try.prog 12 #[.slice (some ⟨w.heap.size, 0, none⟩) 1 1] (w.alloc (.cells #[.string k, .string v] 42)) fun e w' => e = .returned (.int .i64 (if vld (k, v) then 0 else 10)) ∧ Below w.heap.size w w' := by
  refine (check_any (lit_at w [(k, v)] 1 rfl)).mono fun e w' => ?_
  rintro ⟨he, hb⟩
  rw [chk_one] at he
  exact ⟨he, ((Below.refl _ w).alloc (Nat.le_refl _) _).trans (hb.mono (by simp))⟩
theorem alive {w w1 : World} (b : Below w.heap.size w w1) : Calls Try.prog 9 #[] w1 fun e w' => e = .returned (.bool true) ∧ Below w.heap.size w w' :=
  (lives_any w1).mono fun _ _ ⟨he, hb⟩ => ⟨he, b.trans (hb.mono b.size)⟩
set_option maxRecDepth 100000 in
set_option maxHeartbeats 8000000 in
theorem tagsSets_walk (v : Value) (key val other : ByteArray) (w : World) (hv : OpenT w v) (_hk : key.size ≤ maxLen) (_hv : val.size ≤ maxLen) (_ho : other.size ≤ maxLen) : Calls Try.prog 6 #[v, .string key, .string val, .string other] w fun e w' => e = .returned (.bool true) ∧ Below w.heap.size w w' := by
  obtain ⟨l, h⟩ := hv
  have A0 := Lib.hid h
  have SM := Lib.hid (small_any h)
  obtain ⟨av, cv, rfl, _⟩ := h
  obtain ⟨n, hn⟩ : ∃ n, l.length = n := ⟨_, rfl⟩
  have HN := Lib.hid hn
  rw [hn] at A0 SM ⊢
  clear _hk _hv _ho hn
  go_enter Try.func6, Try.ntmps6
  go_wp2_with fail
  refine SM.out.mono ?_; rintro e w1 ⟨b, rfl, hb, rfl⟩
  have BR := Lib.hid (Below.refl w1.heap.size w1)
  cases b with
  | false =>
    clear hb
    go_wp2_with fail
    refine (alive BR.out).mono ?_; rintro e w2 ⟨rfl, b2⟩
    go_wp2_with fail
    go_ret
    exact ⟨rfl, b2⟩
  | true =>
    have LL : Hid (l.length ≤ 1000000) := by have := hb rfl; show _ ≤ _; omega
    have LS : Hid ((st l key val).length ≤ 1000000) := by have := hb rfl; have := st_le l key val; show _ ≤ _; omega
    have LF : Hid ((fl key (st l key val)).length ≤ 1000000) := by have := hb rfl; have := st_le l key val; have := fl_len key (st l key val); show _ ≤ _; omega
    clear hb SM
    by_cases c1 : 200 < (key.size : Int)
    · go_wp2_with fail
      refine (alive BR.out).mono ?_; rintro e w3 ⟨rfl, b3⟩
      go_wp2_with fail
      go_ret
      exact ⟨rfl, b3⟩
    · by_cases c2 : 200 < (val.size : Int)
      · go_wp2_with fail
        refine (alive BR.out).mono ?_; rintro e w3 ⟨rfl, b3⟩
        go_wp2_with fail
        go_ret
        exact ⟨rfl, b3⟩
      · by_cases c3 : 200 < (other.size : Int)
        · go_wp2_with fail
          refine (alive BR.out).mono ?_; rintro e w3 ⟨rfl, b3⟩
          go_wp2_with fail
          go_ret
          exact ⟨rfl, b3⟩
        · have CK := Lib.hid (check_any A0.out)
          by_cases hc : chkT l = 0
          · rw [hc] at CK
            go_wp2_with fail
            refine CK.out.mono ?_; rintro e w2 ⟨rfl, b2⟩
            have B2 := Lib.hid b2
            have C1 := Lib.hid (check_one key val w2)
            clear b2
            by_cases hvd : vld (key, val)
            · rw [if_pos hvd] at C1
              have hl16 : l.length ≤ 16 := by
                by_cases h16 : 16 < l.length
                · rw [chkT_long h16] at hc; exact absurd hc (by decide)
                · omega
              obtain ⟨hv1, hv2⟩ := (chk_zero hl16).1 hc
              have OKS := Lib.hid (st_ok hv2 hv1 hvd)
              clear hc hvd hl16 hv1 hv2 CK
              go_wp2_with fail
              refine C1.out.mono ?_; rintro e w3 ⟨rfl, b3⟩
              have B3 := Lib.hid (B2.out.trans (b3.mono B2.out.size))
              clear b3
              go_wp2_with fail
              refine (set_any key val (A0.out.below B3.out) LL.out).mono ?_; rintro e w4 ⟨u, rfl, ha, b4⟩
              have U4 := Lib.hid ha; have B4 := Lib.hid (B3.out.trans (b4.mono B3.out.size))
              clear ha b4
              have G4 := Lib.hid (get_any key U4.out LS.out)
              rw [st_gt] at G4
              obtain ⟨m, hm⟩ : ∃ m, (st l key val).length = m := ⟨_, rfl⟩
              have HM := Lib.hid hm
              obtain ⟨au, cu, hu, _⟩ := U4.out
              rw [hm] at hu
              subst hu
              clear hm
              go_wp2_with fail
              refine G4.out.mono ?_; rintro e w5 ⟨rfl, b5⟩
              have B5 := Lib.hid (B4.out.trans (b5.mono B4.out.size)); have U5 := Lib.hid (U4.out.below b5)
              clear b5
              have G5 := Lib.hid (get_any key (A0.out.below B5.out) LL.out)
              obtain ⟨⟨sv, had⟩, hs⟩ : ∃ z, gt l key = z := ⟨_, rfl⟩
              rw [hs] at G5 OKS
              dsimp only at G5 OKS
              have HGL := Lib.hid hs
              clear hs
              go_wp2_with fail
              refine G5.out.mono ?_; rintro e w6 ⟨rfl, b6⟩
              have B6 := Lib.hid (B5.out.trans (b6.mono B5.out.size)); have U6 := Lib.hid (U5.out.below b6)
              clear b6
              have CM := Lib.hid (check_any U6.out)
              by_cases m16 : (m : Int) ≤ 16
              · skip
                cases had with
                | true =>
                  have mn : m = n := by rw [← HM.out, ← HN.out]; exact OKS.out.2.2.1 rfl
                  have nn : ((m : Int) == (n : Int)) = true := by rw [mn]; simp
                  clear mn
                  have KZ : chkT (st l key val) = 0 := (chk_zero (by rw [HM.out]; omega)).2 ⟨OKS.out.1, OKS.out.2.1⟩
                  rw [KZ] at CM
                  clear KZ
                  go_wp2_with fail
                  refine CM.out.mono ?_; rintro e w7 ⟨rfl, b7⟩
                  have B7 := Lib.hid (B6.out.trans (b7.mono B6.out.size)); have U7 := Lib.hid (U6.out.below b7)
                  clear b7
                  clear OKS
                  by_cases ho : other = key
                  · obtain rfl := ho
                    go_wp2_with fail
                    refine (get_any other (A0.out.below B7.out) LL.out).mono ?_; rintro e x1 ⟨rfl, b1⟩
                    have X1 := Lib.hid (B7.out.trans (b1.mono B7.out.size)); have Y1 := Lib.hid (U7.out.below b1)
                    clear b1
                    have GO := Lib.hid (get_any other Y1.out LS.out)
                    obtain ⟨⟨sx, hx⟩, hsx⟩ : ∃ z, gt l other = z := ⟨_, rfl⟩
                    obtain ⟨⟨sy, hy⟩, hsy⟩ : ∃ z, gt (st l other val) other = z := ⟨_, rfl⟩
                    rw [hsy] at GO
                    rw [hsx]
                    dsimp only at GO ⊢
                    clear hsx hsy
                    go_wp2_with fail
                    refine GO.out.mono ?_; rintro e x2 ⟨rfl, b2⟩
                    have X2 := Lib.hid (X1.out.trans (b2.mono X1.out.size))
                    clear b2
                    go_wp2_with fail
                    refine (drop_any other (A0.out.below X2.out) LL.out).mono ?_; rintro e x3 ⟨u3, rfl, ha, b3⟩
                    have X3 := Lib.hid (X2.out.trans (b3.mono X2.out.size))
                    have GF := Lib.hid (get_any other ha.at_ (Nat.le_trans (fl_len other l) LL.out))
                    rw [fl_left] at GF
                    clear ha b3
                    obtain ⟨sf, hsf⟩ : ∃ z, (gt (fl other l) other).1 = z := ⟨_, rfl⟩
                    rw [hsf] at GF
                    clear hsf
                    go_wp2_with fail
                    refine GF.out.mono ?_; rintro e x4 ⟨rfl, b4⟩
                    have X4 := Lib.hid (X3.out.trans (b4.mono X3.out.size))
                    clear b4
                    go_wp2_with fail
                    refine (alive X4.out).mono ?_; rintro e x5 ⟨rfl, b5⟩
                    go_wp2_with fail
                    go_ret
                    exact ⟨rfl, b5⟩
                  · have hoe := str_ne ho
                    go_wp2_with fail
                    refine (get_any other (A0.out.below B7.out) LL.out).mono ?_; rintro e x1 ⟨rfl, b1⟩
                    have X1 := Lib.hid (B7.out.trans (b1.mono B7.out.size)); have Y1 := Lib.hid (U7.out.below b1)
                    clear b1
                    have GO := Lib.hid (get_any other Y1.out LS.out)
                    rw [st_other ho] at GO
                    clear ho
                    obtain ⟨⟨sx, hx⟩, hsx⟩ : ∃ z, gt l other = z := ⟨_, rfl⟩
                    rw [hsx] at GO ⊢
                    dsimp only at GO ⊢
                    clear hsx
                    go_wp2_with fail
                    refine GO.out.mono ?_; rintro e x2 ⟨rfl, b2⟩
                    have X2 := Lib.hid (X1.out.trans (b2.mono X1.out.size))
                    clear b2
                    go_wp2_with fail
                    refine (drop_any key (A0.out.below X2.out) LL.out).mono ?_; rintro e x3 ⟨u3, rfl, ha, b3⟩
                    have X3 := Lib.hid (X2.out.trans (b3.mono X2.out.size))
                    have GF := Lib.hid (get_any key ha.at_ (Nat.le_trans (fl_len key l) LL.out))
                    rw [fl_left] at GF
                    clear ha b3
                    obtain ⟨sf, hsf⟩ : ∃ z, (gt (fl key l) key).1 = z := ⟨_, rfl⟩
                    rw [hsf] at GF
                    clear hsf
                    go_wp2_with fail
                    refine GF.out.mono ?_; rintro e x4 ⟨rfl, b4⟩
                    have X4 := Lib.hid (X3.out.trans (b4.mono X3.out.size))
                    clear b4
                    go_wp2_with fail
                    refine (alive X4.out).mono ?_; rintro e x5 ⟨rfl, b5⟩
                    go_wp2_with fail
                    go_ret
                    exact ⟨rfl, b5⟩
                | false =>
                  have mn : m = n + 1 := by rw [← HM.out, ← HN.out]; exact (OKS.out.2.2.2 rfl).1
                  have nn : ((m : Int) == (n : Int)) = false := by rw [mn]; simp; omega
                  have FE := Lib.hid (OKS.out.2.2.2 rfl).2
                  clear mn
                  have KZ : chkT (st l key val) = 0 := (chk_zero (by rw [HM.out]; omega)).2 ⟨OKS.out.1, OKS.out.2.1⟩
                  rw [KZ] at CM
                  clear KZ
                  go_wp2_with fail
                  refine CM.out.mono ?_; rintro e w7 ⟨rfl, b7⟩
                  have B7 := Lib.hid (B6.out.trans (b7.mono B6.out.size)); have U7 := Lib.hid (U6.out.below b7)
                  clear b7
                  clear OKS
                  go_wp2_with fail
                  refine (drop_any key U7.out LS.out).mono ?_; rintro e w8 ⟨u8, rfl, ha, b8⟩
                  have S8 := Lib.hid (samer_any ha.at_ (A0.out.below (B7.out.trans (b8.mono B7.out.size))) LF.out)
                  rw [decide_eq_true FE.out] at S8
                  have B8 := Lib.hid (B7.out.trans (b8.mono B7.out.size)); have U8 := Lib.hid (U7.out.below b8)
                  clear ha b8
                  go_wp2_with fail
                  refine S8.out.mono ?_; rintro e w9 ⟨rfl, q9, rfl⟩
                  have B9 := Lib.hid (below_drewN B8.out q9); have U9 := Lib.hid (U8.out.below (below_drewN (Below.refl _ _) q9))
                  by_cases ho : other = key
                  · obtain rfl := ho
                    go_wp2_with fail
                    refine (get_any other (A0.out.below B9.out) LL.out).mono ?_; rintro e x1 ⟨rfl, b1⟩
                    have X1 := Lib.hid (B9.out.trans (b1.mono B9.out.size)); have Y1 := Lib.hid (U9.out.below b1)
                    clear b1
                    have GO := Lib.hid (get_any other Y1.out LS.out)
                    obtain ⟨⟨sx, hx⟩, hsx⟩ : ∃ z, gt l other = z := ⟨_, rfl⟩
                    obtain ⟨⟨sy, hy⟩, hsy⟩ : ∃ z, gt (st l other val) other = z := ⟨_, rfl⟩
                    rw [hsy] at GO
                    rw [hsx]
                    dsimp only at GO ⊢
                    clear hsx hsy
                    go_wp2_with fail
                    refine GO.out.mono ?_; rintro e x2 ⟨rfl, b2⟩
                    have X2 := Lib.hid (X1.out.trans (b2.mono X1.out.size))
                    clear b2
                    go_wp2_with fail
                    refine (drop_any other (A0.out.below X2.out) LL.out).mono ?_; rintro e x3 ⟨u3, rfl, ha, b3⟩
                    have X3 := Lib.hid (X2.out.trans (b3.mono X2.out.size))
                    have GF := Lib.hid (get_any other ha.at_ (Nat.le_trans (fl_len other l) LL.out))
                    rw [fl_left] at GF
                    clear ha b3
                    obtain ⟨sf, hsf⟩ : ∃ z, (gt (fl other l) other).1 = z := ⟨_, rfl⟩
                    rw [hsf] at GF
                    clear hsf
                    go_wp2_with fail
                    refine GF.out.mono ?_; rintro e x4 ⟨rfl, b4⟩
                    have X4 := Lib.hid (X3.out.trans (b4.mono X3.out.size))
                    clear b4
                    go_wp2_with fail
                    refine (alive X4.out).mono ?_; rintro e x5 ⟨rfl, b5⟩
                    go_wp2_with fail
                    go_ret
                    exact ⟨rfl, b5⟩
                  · have hoe := str_ne ho
                    go_wp2_with fail
                    refine (get_any other (A0.out.below B9.out) LL.out).mono ?_; rintro e x1 ⟨rfl, b1⟩
                    have X1 := Lib.hid (B9.out.trans (b1.mono B9.out.size)); have Y1 := Lib.hid (U9.out.below b1)
                    clear b1
                    have GO := Lib.hid (get_any other Y1.out LS.out)
                    rw [st_other ho] at GO
                    clear ho
                    obtain ⟨⟨sx, hx⟩, hsx⟩ : ∃ z, gt l other = z := ⟨_, rfl⟩
                    rw [hsx] at GO ⊢
                    dsimp only at GO ⊢
                    clear hsx
                    go_wp2_with fail
                    refine GO.out.mono ?_; rintro e x2 ⟨rfl, b2⟩
                    have X2 := Lib.hid (X1.out.trans (b2.mono X1.out.size))
                    clear b2
                    go_wp2_with fail
                    refine (drop_any key (A0.out.below X2.out) LL.out).mono ?_; rintro e x3 ⟨u3, rfl, ha, b3⟩
                    have X3 := Lib.hid (X2.out.trans (b3.mono X2.out.size))
                    have GF := Lib.hid (get_any key ha.at_ (Nat.le_trans (fl_len key l) LL.out))
                    rw [fl_left] at GF
                    clear ha b3
                    obtain ⟨sf, hsf⟩ : ∃ z, (gt (fl key l) key).1 = z := ⟨_, rfl⟩
                    rw [hsf] at GF
                    clear hsf
                    go_wp2_with fail
                    refine GF.out.mono ?_; rintro e x4 ⟨rfl, b4⟩
                    have X4 := Lib.hid (X3.out.trans (b4.mono X3.out.size))
                    clear b4
                    go_wp2_with fail
                    refine (alive X4.out).mono ?_; rintro e x5 ⟨rfl, b5⟩
                    go_wp2_with fail
                    go_ret
                    exact ⟨rfl, b5⟩
              · skip
                cases had with
                | true =>
                  have mn : m = n := by rw [← HM.out, ← HN.out]; exact OKS.out.2.2.1 rfl
                  have nn : ((m : Int) == (n : Int)) = true := by rw [mn]; simp
                  clear mn
                  have B7 := B6; have U7 := U6
                  clear OKS CM B6 U6
                  by_cases ho : other = key
                  · obtain rfl := ho
                    go_wp2_with fail
                    refine (get_any other (A0.out.below B7.out) LL.out).mono ?_; rintro e x1 ⟨rfl, b1⟩
                    have X1 := Lib.hid (B7.out.trans (b1.mono B7.out.size)); have Y1 := Lib.hid (U7.out.below b1)
                    clear b1
                    have GO := Lib.hid (get_any other Y1.out LS.out)
                    obtain ⟨⟨sx, hx⟩, hsx⟩ : ∃ z, gt l other = z := ⟨_, rfl⟩
                    obtain ⟨⟨sy, hy⟩, hsy⟩ : ∃ z, gt (st l other val) other = z := ⟨_, rfl⟩
                    rw [hsy] at GO
                    rw [hsx]
                    dsimp only at GO ⊢
                    clear hsx hsy
                    go_wp2_with fail
                    refine GO.out.mono ?_; rintro e x2 ⟨rfl, b2⟩
                    have X2 := Lib.hid (X1.out.trans (b2.mono X1.out.size))
                    clear b2
                    go_wp2_with fail
                    refine (drop_any other (A0.out.below X2.out) LL.out).mono ?_; rintro e x3 ⟨u3, rfl, ha, b3⟩
                    have X3 := Lib.hid (X2.out.trans (b3.mono X2.out.size))
                    have GF := Lib.hid (get_any other ha.at_ (Nat.le_trans (fl_len other l) LL.out))
                    rw [fl_left] at GF
                    clear ha b3
                    obtain ⟨sf, hsf⟩ : ∃ z, (gt (fl other l) other).1 = z := ⟨_, rfl⟩
                    rw [hsf] at GF
                    clear hsf
                    go_wp2_with fail
                    refine GF.out.mono ?_; rintro e x4 ⟨rfl, b4⟩
                    have X4 := Lib.hid (X3.out.trans (b4.mono X3.out.size))
                    clear b4
                    go_wp2_with fail
                    refine (alive X4.out).mono ?_; rintro e x5 ⟨rfl, b5⟩
                    go_wp2_with fail
                    go_ret
                    exact ⟨rfl, b5⟩
                  · have hoe := str_ne ho
                    go_wp2_with fail
                    refine (get_any other (A0.out.below B7.out) LL.out).mono ?_; rintro e x1 ⟨rfl, b1⟩
                    have X1 := Lib.hid (B7.out.trans (b1.mono B7.out.size)); have Y1 := Lib.hid (U7.out.below b1)
                    clear b1
                    have GO := Lib.hid (get_any other Y1.out LS.out)
                    rw [st_other ho] at GO
                    clear ho
                    obtain ⟨⟨sx, hx⟩, hsx⟩ : ∃ z, gt l other = z := ⟨_, rfl⟩
                    rw [hsx] at GO ⊢
                    dsimp only at GO ⊢
                    clear hsx
                    go_wp2_with fail
                    refine GO.out.mono ?_; rintro e x2 ⟨rfl, b2⟩
                    have X2 := Lib.hid (X1.out.trans (b2.mono X1.out.size))
                    clear b2
                    go_wp2_with fail
                    refine (drop_any key (A0.out.below X2.out) LL.out).mono ?_; rintro e x3 ⟨u3, rfl, ha, b3⟩
                    have X3 := Lib.hid (X2.out.trans (b3.mono X2.out.size))
                    have GF := Lib.hid (get_any key ha.at_ (Nat.le_trans (fl_len key l) LL.out))
                    rw [fl_left] at GF
                    clear ha b3
                    obtain ⟨sf, hsf⟩ : ∃ z, (gt (fl key l) key).1 = z := ⟨_, rfl⟩
                    rw [hsf] at GF
                    clear hsf
                    go_wp2_with fail
                    refine GF.out.mono ?_; rintro e x4 ⟨rfl, b4⟩
                    have X4 := Lib.hid (X3.out.trans (b4.mono X3.out.size))
                    clear b4
                    go_wp2_with fail
                    refine (alive X4.out).mono ?_; rintro e x5 ⟨rfl, b5⟩
                    go_wp2_with fail
                    go_ret
                    exact ⟨rfl, b5⟩
                | false =>
                  have mn : m = n + 1 := by rw [← HM.out, ← HN.out]; exact (OKS.out.2.2.2 rfl).1
                  have nn : ((m : Int) == (n : Int)) = false := by rw [mn]; simp; omega
                  have FE := Lib.hid (OKS.out.2.2.2 rfl).2
                  clear mn
                  have B7 := B6; have U7 := U6
                  clear OKS CM B6 U6
                  go_wp2_with fail
                  refine (drop_any key U7.out LS.out).mono ?_; rintro e w8 ⟨u8, rfl, ha, b8⟩
                  have S8 := Lib.hid (samer_any ha.at_ (A0.out.below (B7.out.trans (b8.mono B7.out.size))) LF.out)
                  rw [decide_eq_true FE.out] at S8
                  have B8 := Lib.hid (B7.out.trans (b8.mono B7.out.size)); have U8 := Lib.hid (U7.out.below b8)
                  clear ha b8
                  go_wp2_with fail
                  refine S8.out.mono ?_; rintro e w9 ⟨rfl, q9, rfl⟩
                  have B9 := Lib.hid (below_drewN B8.out q9); have U9 := Lib.hid (U8.out.below (below_drewN (Below.refl _ _) q9))
                  by_cases ho : other = key
                  · obtain rfl := ho
                    go_wp2_with fail
                    refine (get_any other (A0.out.below B9.out) LL.out).mono ?_; rintro e x1 ⟨rfl, b1⟩
                    have X1 := Lib.hid (B9.out.trans (b1.mono B9.out.size)); have Y1 := Lib.hid (U9.out.below b1)
                    clear b1
                    have GO := Lib.hid (get_any other Y1.out LS.out)
                    obtain ⟨⟨sx, hx⟩, hsx⟩ : ∃ z, gt l other = z := ⟨_, rfl⟩
                    obtain ⟨⟨sy, hy⟩, hsy⟩ : ∃ z, gt (st l other val) other = z := ⟨_, rfl⟩
                    rw [hsy] at GO
                    rw [hsx]
                    dsimp only at GO ⊢
                    clear hsx hsy
                    go_wp2_with fail
                    refine GO.out.mono ?_; rintro e x2 ⟨rfl, b2⟩
                    have X2 := Lib.hid (X1.out.trans (b2.mono X1.out.size))
                    clear b2
                    go_wp2_with fail
                    refine (drop_any other (A0.out.below X2.out) LL.out).mono ?_; rintro e x3 ⟨u3, rfl, ha, b3⟩
                    have X3 := Lib.hid (X2.out.trans (b3.mono X2.out.size))
                    have GF := Lib.hid (get_any other ha.at_ (Nat.le_trans (fl_len other l) LL.out))
                    rw [fl_left] at GF
                    clear ha b3
                    obtain ⟨sf, hsf⟩ : ∃ z, (gt (fl other l) other).1 = z := ⟨_, rfl⟩
                    rw [hsf] at GF
                    clear hsf
                    go_wp2_with fail
                    refine GF.out.mono ?_; rintro e x4 ⟨rfl, b4⟩
                    have X4 := Lib.hid (X3.out.trans (b4.mono X3.out.size))
                    clear b4
                    go_wp2_with fail
                    refine (alive X4.out).mono ?_; rintro e x5 ⟨rfl, b5⟩
                    go_wp2_with fail
                    go_ret
                    exact ⟨rfl, b5⟩
                  · have hoe := str_ne ho
                    go_wp2_with fail
                    refine (get_any other (A0.out.below B9.out) LL.out).mono ?_; rintro e x1 ⟨rfl, b1⟩
                    have X1 := Lib.hid (B9.out.trans (b1.mono B9.out.size)); have Y1 := Lib.hid (U9.out.below b1)
                    clear b1
                    have GO := Lib.hid (get_any other Y1.out LS.out)
                    rw [st_other ho] at GO
                    clear ho
                    obtain ⟨⟨sx, hx⟩, hsx⟩ : ∃ z, gt l other = z := ⟨_, rfl⟩
                    rw [hsx] at GO ⊢
                    dsimp only at GO ⊢
                    clear hsx
                    go_wp2_with fail
                    refine GO.out.mono ?_; rintro e x2 ⟨rfl, b2⟩
                    have X2 := Lib.hid (X1.out.trans (b2.mono X1.out.size))
                    clear b2
                    go_wp2_with fail
                    refine (drop_any key (A0.out.below X2.out) LL.out).mono ?_; rintro e x3 ⟨u3, rfl, ha, b3⟩
                    have X3 := Lib.hid (X2.out.trans (b3.mono X2.out.size))
                    have GF := Lib.hid (get_any key ha.at_ (Nat.le_trans (fl_len key l) LL.out))
                    rw [fl_left] at GF
                    clear ha b3
                    obtain ⟨sf, hsf⟩ : ∃ z, (gt (fl key l) key).1 = z := ⟨_, rfl⟩
                    rw [hsf] at GF
                    clear hsf
                    go_wp2_with fail
                    refine GF.out.mono ?_; rintro e x4 ⟨rfl, b4⟩
                    have X4 := Lib.hid (X3.out.trans (b4.mono X3.out.size))
                    clear b4
                    go_wp2_with fail
                    refine (alive X4.out).mono ?_; rintro e x5 ⟨rfl, b5⟩
                    go_wp2_with fail
                    go_ret
                    exact ⟨rfl, b5⟩
            · rw [if_neg hvd] at C1
              clear hc hvd CK
              go_wp2_with fail
              refine C1.out.mono ?_; rintro e w3 ⟨rfl, b3⟩
              have B3 := Lib.hid (B2.out.trans (b3.mono B2.out.size))
              clear b3
              go_wp2_with fail
              refine (alive B3.out).mono ?_; rintro e w4 ⟨rfl, b4⟩
              go_wp2_with fail
              go_ret
              exact ⟨rfl, b4⟩
          · obtain ⟨c, hcc⟩ : ∃ c, chkT l = c := ⟨_, rfl⟩
            rw [hcc] at CK hc
            have c4 : (c == 0) = false := by simpa using hc
            have c5 : (c != 0) = true := by simpa using hc
            clear hcc
            go_wp2_with fail
            refine CK.out.mono ?_; rintro e w2 ⟨rfl, b2⟩
            have B2 := Lib.hid b2
            clear b2
            go_wp2_with fail
            refine (alive B2.out).mono ?_; rintro e w4 ⟨rfl, b4⟩
            go_wp2_with fail
            go_ret
            exact ⟨rfl, b4⟩
end Go.Proofs.Ytlojecpladckiaa
