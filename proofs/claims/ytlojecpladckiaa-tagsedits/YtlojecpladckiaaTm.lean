/- tags: TagsChecks, TagsLooks, TagsCanon. -/
import Derived.Test.YtlojecpladckiaaTl
namespace Go.Proofs.Ytlojecpladckiaa
open Go.ChangeShapes Go.WideShapes Go.ChangeAt Go.RowKit Go.Joins Go.Deep

open Go.Proofs.TagM Go.Shelf Go.Sort

def OpenT (w : World) (v : Value) : Prop := ∃ l, TagsAt w v l
theorem tagsChecks_open0 {H : Type} {enc : TypeId × Value → H} {W : World} {base b0 : Nat} {spare : Nat → Bool} {held : Bool} {r : Reach} {v : Value} {d : DataW H} {p : List MemPlace}
    (hv : Value.okWide Try.prog W r b0 22 v) (h : DataW.Trod enc Try.prog W base spare held 22 v d p) : OpenT W v := tags_open hv h
theorem tagsLooks_open0 {H : Type} {enc : TypeId × Value → H} {W : World} {base b0 : Nat} {spare : Nat → Bool} {held : Bool} {r : Reach} {v : Value} {d : DataW H} {p : List MemPlace}
    (hv : Value.okWide Try.prog W r b0 22 v) (h : DataW.Trod enc Try.prog W base spare held 22 v d p) : OpenT W v := tags_open hv h
theorem tagsLooks_open1 {H : Type} {enc : TypeId × Value → H} {W : World} {base b0 : Nat} {spare : Nat → Bool} {held : Bool} {r : Reach} {v : Value} {d : DataW H} {p : List MemPlace}
    (hv : Value.okWide Try.prog W r b0 22 v) (h : DataW.Trod enc Try.prog W base spare held 22 v d p) : OpenT W v := tags_open hv h
theorem tagsCanon_open0 {H : Type} {enc : TypeId × Value → H} {W : World} {base b0 : Nat} {spare : Nat → Bool} {held : Bool} {r : Reach} {v : Value} {d : DataW H} {p : List MemPlace}
    (hv : Value.okWide Try.prog W r b0 22 v) (h : DataW.Trod enc Try.prog W base spare held 22 v d p) : OpenT W v := tags_open hv h
theorem TagsAt.len {w : World} {a : Option Addr} {n cap : Nat} {l : List Tg} (h : TagsAt w (.slice a n cap) l) : l.length = n := by
  obtain ⟨a', cap', e, _⟩ := h
  injection e with e1 e2 e3
  exact e2.symm
set_option maxRecDepth 100000 in
set_option maxHeartbeats 4000000 in
theorem tagsChecks_walk (v : Value) (w : World) (h : OpenT w v) : Calls Try.prog 3 #[v] w fun e w' => e = .returned (.bool true) ∧ Below w.heap.size w w' := by
  obtain ⟨l, h⟩ := h
  have A0 := Lib.hid h
  have SM := Lib.hid (small_any h)
  clear h
  go_enter Try.func3, Try.ntmps3
  go_wp2_with fail
  refine SM.out.mono ?_; rintro e w1 ⟨b, rfl, hb, rfl⟩
  cases b with
  | false =>
    clear hb
    go_wp2_with fail
    refine (lives_any w1).mono ?_; rintro e w2 ⟨rfl, b2⟩
    go_wp2_with fail
    go_ret
    exact ⟨rfl, b2⟩
  | true =>
    clear hb SM
    go_wp2_with fail
    refine (canon_any A0.out).mono ?_; rintro e w2 ⟨u, r, f, rfl, ha, hc, b2⟩
    have U2 := Lib.hid ha; have C2 := Lib.hid hc; have B2 := Lib.hid b2
    clear ha hc b2
    go_wp2_with fail
    refine (canonr_any (A0.out.below B2.out)).mono ?_; rintro e w3 ⟨u', r', f', rfl, ha, hc, b3⟩
    obtain ⟨rfl, rfl⟩ := C2.out.unique hc (List.Perm.refl _)
    have U3 := Lib.hid (U2.out.below b3); have V3 := Lib.hid ha; have B3 := Lib.hid (B2.out.trans (b3.mono B2.out.size))
    have LR : Hid (r.length ≤ 1000000) := by
      show _ ≤ _
      by_cases h1 : 16 < l.length
      · rw [(hc.long h1).2]; simp
      · by_cases h2 : ∃ t ∈ l, ¬ vld t
        · rw [(hc.bad (by omega) h2).2]; simp
        · by_cases h3 : (l.map (·.1)).Nodup
          · rw [((hc.fine (by omega) (fun t ht => by by_cases hv : vld t; exact hv; exact absurd ⟨t, ht, hv⟩ h2) h3).2.2).length_eq]; omega
          · rw [(hc.twice (by omega) (fun t ht => by by_cases hv : vld t; exact hv; exact absurd ⟨t, ht, hv⟩ h2) h3).2]; simp
    clear ha hc b3 C2
    go_wp2_with fail
    refine (check_any (A0.out.below B3.out)).mono ?_; rintro e w4 ⟨rfl, b4⟩
    have B4 := Lib.hid (B3.out.trans (b4.mono B3.out.size)); have U4 := Lib.hid (U3.out.below b4); have V4 := Lib.hid (V3.out.below b4)
    clear b4
    go_wp2_with fail
    refine (checkr_any (A0.out.below B4.out)).mono ?_; rintro e w5 ⟨rfl, b5⟩
    have B5 := Lib.hid (B4.out.trans (b5.mono B4.out.size)); have U5 := Lib.hid (U4.out.below b5); have V5 := Lib.hid (V4.out.below b5)
    clear b5
    have SS := Lib.hid (samer_any U5.out V5.out LR.out)
    rw [decide_eq_true rfl] at SS
    go_wp2_with fail
    refine SS.out.mono ?_; rintro e w6 ⟨rfl, q, rfl⟩
    go_wp2_with fail
    refine (lives_any _).mono ?_; rintro e w7 ⟨rfl, b7⟩
    have B6 : Below w1.heap.size w1 (w5.drewN q) := below_drewN B5.out q
    have B7 := Lib.hid (B6.trans (b7.mono B6.size))
    clear b7 B6
    go_wp2_with fail
    go_ret
    exact ⟨rfl, B7.out⟩
set_option maxRecDepth 100000 in
set_option maxHeartbeats 4000000 in
theorem tagsLooks_walk (v u : Value) (key : ByteArray) (w : World) (hv : OpenT w v) (hu : OpenT w u) (_hk : key.size ≤ maxLen) : Calls Try.prog 4 #[v, u, .string key] w fun e w' => e = .returned (.bool true) ∧ Below w.heap.size w w' := by
  obtain ⟨l, h⟩ := hv; obtain ⟨m, k⟩ := hu
  have A0 := Lib.hid h; have C0 := Lib.hid k
  have SM := Lib.hid (small_any h); have SN := Lib.hid (small_any k)
  clear h k
  go_enter Try.func4, Try.ntmps4
  go_wp2_with fail
  refine SM.out.mono ?_; rintro e w1 ⟨b, rfl, hb, rfl⟩
  cases b with
  | false =>
    clear hb
    go_wp2_with fail
    refine (lives_any w1).mono ?_; rintro e w2 ⟨rfl, b2⟩
    go_wp2_with fail
    go_ret
    exact ⟨rfl, b2⟩
  | true =>
    have LL : Hid (l.length ≤ 1000000) := by have := hb rfl; show _ ≤ _; omega
    clear hb SM
    go_wp2_with fail
    refine SN.out.mono ?_; rintro e w2 ⟨b, rfl, hb, rfl⟩
    cases b with
    | false =>
      clear hb
      go_wp2_with fail
      refine (lives_any w2).mono ?_; rintro e w3 ⟨rfl, b3⟩
      go_wp2_with fail
      go_ret
      exact ⟨rfl, b3⟩
    | true =>
      have LM : Hid (m.length ≤ 1000000) := by have := hb rfl; show _ ≤ _; omega
      clear hb SN
      by_cases c1 : 200 < (key.size : Int)
      · go_wp2_with fail
        refine (lives_any w2).mono ?_; rintro e w3 ⟨rfl, b3⟩
        go_wp2_with fail
        go_ret
        exact ⟨rfl, b3⟩
      · go_wp2_with fail
        refine (get_any key A0.out LL.out).mono ?_; rintro e w3 ⟨rfl, b3⟩
        have B3 := Lib.hid b3
        clear b3
        go_wp2_with fail
        refine (getr_any key (A0.out.below B3.out) LL.out).mono ?_; rintro e w4 ⟨rfl, rfl⟩
        go_wp2_with fail
        refine (number_any key (A0.out.below B3.out) LL.out).mono ?_; rintro e w5 ⟨rfl, b5⟩
        have B5 := Lib.hid (B3.out.trans (b5.mono B3.out.size))
        clear b5
        go_wp2_with fail
        refine (numberr_any key (A0.out.below B5.out) LL.out).mono ?_; rintro e w6 ⟨rfl, rfl⟩
        have SA := Lib.hid (same_any (A0.out.below B5.out) (C0.out.below B5.out) LL.out)
        have SB := Lib.hid (fun W (b : Below w2.heap.size w2 W) => samer_any (A0.out.below b) (C0.out.below b) LL.out)
        have SC := Lib.hid (fun W (b : Below w2.heap.size w2 W) => same_any (A0.out.below b) (A0.out.below b) LL.out)
        simp only [decide_true] at SC
        obtain ⟨d, hd⟩ : ∃ d, decide (l = m) = d := ⟨_, rfl⟩
        rw [hd] at SA SB
        clear hd
        go_wp2_with fail
        refine SA.out.mono ?_; rintro e w7 ⟨rfl, q, rfl⟩
        have B7 := Lib.hid (below_drewN B5.out q)
        go_wp2_with fail
        refine (SB.out _ B7.out).mono ?_; rintro e w8 ⟨rfl, q2, rfl⟩
        have B8 := Lib.hid (below_drewN B7.out q2)
        go_wp2_with fail
        refine (SC.out _ (below_drewN B5.out _)).mono ?_; rintro e w9 ⟨rfl, q3, rfl⟩
        go_wp2_with fail
        refine (lives_any _).mono ?_; rintro e w10 ⟨rfl, b10⟩
        have B10 := Lib.hid ((below_drewN B5.out _).trans (b10.mono (below_drewN B5.out _).size))
        clear b10
        go_wp2_with fail
        go_ret
        exact ⟨rfl, B10.out⟩
theorem cp_cases {l r : List Tg} {e : Int} (h : CP l r e) : (e ≠ 0 ∧ r = []) ∨ (e = 0 ∧ l.length ≤ 16 ∧ (∀ t ∈ l, vld t) ∧ SK r ∧ r.Perm l) := by
  by_cases h1 : 16 < l.length
  · left; obtain ⟨rfl, rfl⟩ := h.long h1; exact ⟨by decide, rfl⟩
  · by_cases h2 : ∃ t ∈ l, ¬ vld t
    · left; obtain ⟨rfl, rfl⟩ := h.bad (by omega) h2; exact ⟨by decide, rfl⟩
    · have h4 : ∀ t ∈ l, vld t := fun t ht => by by_cases hv : vld t; exact hv; exact absurd ⟨t, ht, hv⟩ h2
      by_cases h3 : (l.map (·.1)).Nodup
      · right; obtain ⟨rfl, a, b⟩ := h.fine (by omega) h4 h3; exact ⟨rfl, by omega, h4, a, b⟩
      · left; obtain ⟨rfl, rfl⟩ := h.twice (by omega) h4 h3; exact ⟨by decide, rfl⟩
theorem back_step {l : List Tg} {j : Nat} (h : j < l.length) : (l.drop j).reverse = (l.drop (j + 1)).reverse ++ [l.getD j default] := by
  rw [drop_at h, List.reverse_cons]
set_option maxRecDepth 100000 in
set_option maxHeartbeats 4000000 in
theorem tagsCanon_walk (v : Value) (w : World) (h : OpenT w v) : Calls Try.prog 7 #[v] w fun e w' => e = .returned (.bool true) ∧ Below w.heap.size w w' := by
  obtain ⟨i0, hi, hz0, hz1, hz2⟩ := Go.info_parts info42
  have II := Lib.hid hi; have Z0 := Lib.hid hz0; have Z1 := Lib.hid hz1; have Z2 := Lib.hid hz2
  clear hi hz0 hz1 hz2
  obtain ⟨l, h⟩ := h
  have A0 := Lib.hid h
  have SM := Lib.hid (small_any h)
  obtain ⟨a, cap, rfl, _⟩ := h
  obtain ⟨n, hn⟩ : ∃ n, l.length = n := ⟨_, rfl⟩
  have HN := Lib.hid hn
  rw [hn] at A0 SM ⊢
  clear hn
  go_enter Try.func7, Try.ntmps7
  go_wp2_with fail
  refine SM.out.mono ?_; rintro e w1 ⟨b, rfl, hb, rfl⟩
  cases b with
  | false =>
    clear hb
    go_wp2_with fail
    refine (lives_any w1).mono ?_; rintro e w2 ⟨rfl, b2⟩
    go_wp2_with fail
    go_ret
    exact ⟨rfl, b2⟩
  | true =>
    have HL : Hid (n ≤ 40) := by have := hb rfl; rw [HN.out] at this; exact this
    clear hb SM
    go_wp2_with fail
    refine (canon_any A0.out).mono ?_; rintro e w2 ⟨u, r, f, rfl, ha, hc, b2⟩
    have U2 := Lib.hid ha; have C2 := Lib.hid hc; have B2 := Lib.hid b2
    clear ha hc b2
    obtain ⟨z0, hz0⟩ : ∃ z0, (n : Int) - 1 = z0 := ⟨_, rfl⟩
    have wz0 : IntKind.i64.wrap z0 = z0 := by rw [IntKind.wrap_i64]; have := HL.out; omega
    have HZ0 := Lib.hid hz0
    go_wp2_with fail
    clear hz0 wz0
    go_loopw [6, 5] (fun s t wr => ∃ (k : Nat) (z : Int) (out : List Tg), k ≤ n ∧ s = .int .i64 z ∧ Hid (z = (k : Int) - 1) ∧ Hid (TOwn wr w2.heap.size t out) ∧ Hid ((l.drop k).reverse = out ∧ out.length ≤ n - k) ∧ Hid (Below w2.heap.size w2 wr)) (fun s _ _ => (intOf s + 1).toNat)
    case atStart => exact ⟨n, z0, [], Nat.le_refl _, rfl, HZ0.out.symm, World.ownsRow_nil _ _ _ _, ⟨by rw [List.drop_eq_nil_of_le (by rw [HN.out]; omega)]; rfl, by simp⟩, Below.refl _ _⟩
    case round =>
      obtain ⟨k, z, out, hk, rfl, HZ, OW, FO, BX⟩ := hrel
      obtain ⟨au, cu, rfl⟩ := OW.out.form
      obtain ⟨m, hm⟩ : ∃ m, out.length = m := ⟨_, rfl⟩
      have HM := Lib.hid hm
      have O1 : Hid (wr.ownsRow w2.heap.size 42 2 (.slice au m cu) m (tcs out)) := by have h := OW.out; unfold TOwn at h; rw [HM.out] at h; exact h
      rw [hm]
      have LM := Lib.hid (show m ≤ 40 by have := FO.out.2; have := HL.out; omega)
      have BW := Lib.hid (B2.out.trans (BX.out.mono B2.out.size))
      clear hm
      by_cases hz : 0 ≤ z
      · obtain ⟨j, hj⟩ : ∃ j : Nat, z = (j : Int) := ⟨z.toNat, by omega⟩
        subst hj
        have hkj : k = j + 1 := by have := HZ.out; omega
        subst hkj
        have hlj : j < l.length := by rw [HN.out]; omega
        obtain ⟨b, off, rfl, hbl, o0, o1⟩ := (A0.out.below BW.out).at_ (j := j) hlj
        have BS := Lib.hid (back_step hlj)
        obtain ⟨⟨x, y⟩, hz⟩ : ∃ z, l.getD j default = z := ⟨_, rfl⟩
        rw [hz] at o0 o1 BS
        dsimp only at o0 o1
        obtain ⟨z1, hz1⟩ : ∃ z1, (j : Int) - 1 = z1 := ⟨_, rfl⟩
        have HZ1 := Lib.hid hz1
        have k0 : (0 : Int) ≤ (j : Int) := by omega
        have kl : (j : Int) < (n : Int) := by omega
        have e2 : IntKind.i64.wrap z1 = z1 := by rw [IntKind.wrap_i64]; have := HL.out; omega
        have hjn : j ≤ n := by omega
        have F2 : Hid ((l.drop j).reverse = out ++ [(x, y)] ∧ (out ++ [(x, y)]).length ≤ n - j) := by
          refine ⟨BS.out.trans (by rw [FO.out.1]), by rw [List.length_append]; have := FO.out.2; simp; omega⟩
        clear hz hlj hbl FO OW BS HZ
        go_wp2_with (at_builtin; refine wpList_append_own_at _ rfl _ _ 22 rfl w2.heap.size 42 i0 zt 2 32 Try.underlying22 II.out Z0.out Z1.out Z2.out rfl (by decide) (.slice au m cu) m (tcs out) rfl (O1.out.alloc _) ⟨wr.heap.size, 0, none⟩ 1 1 [.string x, .string y] rfl rfl (two_new _ _ _ _) (by simp [Value.oneCell']) (by have := LM.out; unfold maxLen; omega) (by have := LM.out; omega) (by have := BX.out.size; simp; omega) ?_; intro v7 w7 hown' hgrow hnil hloc; have R7 := Lib.hid hown'; have G7 := Lib.hid hgrow; clear hown' hgrow hnil hloc)
        have O7 : Hid (TOwn w7 w2.heap.size v7 (out ++ [(x, y)])) := own_add HM.out R7.out
        have B7 : Hid (Below w2.heap.size w2 w7) := (BX.out.alloc BX.out.size _).grown G7.out (by have := BX.out.size; simp; omega) (fun q e => (O1.out.lt q e).1)
        clear R7 G7 O1 BX BW
        go_roundw
        case measure => simp [intOf]; have := HZ1.out; omega
        case rel => exact ⟨j, z1, out ++ [(x, y)], hjn, rfl, HZ1.out.symm, O7, F2, B7⟩
      · have hk0 : k = 0 := by have := HZ.out; omega
        subst hk0
        have REV : Hid (l.reverse = out) := by have h := FO.out.1; rw [List.drop_zero] at h; exact h
        have AB := Lib.hid OW.out.at_
        have U2r := Lib.hid (U2.out.below BX.out)
        have CB := Lib.hid (canon_any AB.out)
        rw [HM.out] at CB
        clear FO OW O1 BX HZ
        go_wp2_with fail
        refine CB.out.mono ?_; rintro e w3 ⟨u', r', f', rfl, ha, hc, b3⟩
        obtain ⟨rfl, rfl⟩ := C2.out.unique hc (by rw [← REV.out]; exact l.reverse_perm.symm)
        have U3 := Lib.hid (U2r.out.below b3); have V3 := Lib.hid ha; have B3 := Lib.hid (BW.out.trans (b3.mono BW.out.size))
        have CC := Lib.hid (cp_cases C2.out)
        have LR : Hid (r.length ≤ 1000000) := by
          show _ ≤ _
          rcases CC.out with ⟨_, rfl⟩ | ⟨_, h1, _, _, h2⟩
          · simp
          · rw [h2.length_eq]; omega
        have SS := Lib.hid (samer_any U3.out V3.out LR.out)
        rw [decide_eq_true rfl] at SS
        clear ha hc b3 U2r BW
        go_wp2_with fail
        refine SS.out.mono ?_; rintro e w4 ⟨rfl, q, rfl⟩
        have B4 := Lib.hid (below_drewN B3.out q); have U4 := Lib.hid (U3.out.below (below_drewN (Below.refl _ _) q))
        rcases CC.out with ⟨hf, rfl⟩ | ⟨rfl, h1, h2, h3, h4⟩
        · have f1 : (f == 0) = false := by simpa using hf
          obtain ⟨au', cu', rfl, _⟩ := U4.out
          clear hf
          go_wp2_with fail
          refine (lives_any _).mono ?_; rintro e w5 ⟨rfl, b5⟩
          have B5 := Lib.hid (B4.out.trans (b5.mono B4.out.size))
          clear b5
          go_wp2_with fail
          go_ret
          exact ⟨rfl, B5.out⟩
        · have CR := Lib.hid (cp_fine (l := r) (r := r) (by rw [h4.length_eq]; omega) (fun t ht => h2 t (h4.mem_iff.1 ht)) h3 (List.Perm.refl _))
          have KR := Lib.hid ((chk_zero (l := r) (by rw [h4.length_eq]; omega)).2 ⟨fun t ht => h2 t (h4.mem_iff.1 ht), h3⟩)
          have LN : Hid (r.length = n) := h4.length_eq.trans HN.out
          clear h1 h2 h3 h4
          go_wp2_with fail
          refine (canon_any U4.out).mono ?_; rintro e w5 ⟨u5, r5, f5, rfl, ha, hc, b5⟩
          obtain ⟨rfl, rfl⟩ := hc.unique CR.out (List.Perm.refl _)
          have U5 := Lib.hid (U4.out.below b5); have V5 := Lib.hid ha; have B5 := Lib.hid (B4.out.trans (b5.mono B4.out.size))
          have CK := Lib.hid (check_any U5.out)
          rw [KR.out] at CK
          clear ha hc b5
          go_wp2_with fail
          refine CK.out.mono ?_; rintro e w6 ⟨rfl, b6⟩
          have U6 := Lib.hid (U5.out.below b6); have V6 := Lib.hid (V5.out.below b6); have B6 := Lib.hid (B5.out.trans (b6.mono B5.out.size))
          have S6 := Lib.hid (samer_any U6.out V6.out LR.out)
          rw [decide_eq_true rfl] at S6
          clear b6
          obtain ⟨au', cu', hu', _⟩ := U6.out
          rw [LN.out] at hu'
          subst hu'
          have nn : ((n : Int) == (n : Int)) = true := by simp
          go_wp2_with fail
          refine S6.out.mono ?_; rintro e w7 ⟨rfl, q7, rfl⟩
          have B7 := Lib.hid (below_drewN B6.out q7)
          go_wp2_with fail
          refine (lives_any _).mono ?_; rintro e w8 ⟨rfl, b8⟩
          have B8 := Lib.hid (B7.out.trans (b8.mono B7.out.size))
          clear b8
          go_wp2_with fail
          go_ret
          exact ⟨rfl, B8.out⟩
end Go.Proofs.Ytlojecpladckiaa
