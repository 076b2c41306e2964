/- tags: Check, the program's and the reference's. -/
import Derived.Test.YtlojecpladckiaaTa
namespace Go.Proofs.Ytlojecpladckiaa
open Go.ChangeShapes Go.WideShapes Go.ChangeAt Go.RowKit Go.Joins Go.Deep

open Go.Proofs.TagM

theorem bl_lt {a b : ByteArray} (h : klt a b = true) : Op.bytesLess a.toList b.toList = true := by
  rw [bytesLess_eq, Lib.toList_data, Lib.toList_data]; exact h
theorem bl_nlt {a b : ByteArray} (h : klt a b = false) : Op.bytesLess a.toList b.toList = false := by
  rw [bytesLess_eq, Lib.toList_data, Lib.toList_data]; exact h
theorem chkT_long {l : List Tg} (h : 16 < l.length) : chkT l = 5 := if_pos h
theorem chkT_from {l : List Tg} (h : ¬ 16 < l.length) : chkT l = chkAt l 0 := if_neg h
theorem chkAt_bad {l : List Tg} {k : Nat} (h : k < l.length) (hv : ¬ vld (l.getD k default)) : chkAt l k = 10 := by
  rw [chkAt, dif_pos h, if_pos hv]
theorem chkAt_ord {l : List Tg} {k : Nat} (h : k < l.length) (hv : vld (l.getD k default)) (h0 : 0 < k) (ho : klt (l.getD (k - 1) default).1 (l.getD k default).1 = false) : chkAt l k = 6 := by
  rw [chkAt, dif_pos h, if_neg (by simpa using hv), if_pos ⟨h0, ho⟩]
theorem chkAt_step {l : List Tg} {k : Nat} (h : k < l.length) (hv : vld (l.getD k default)) (ho : 0 < k → klt (l.getD (k - 1) default).1 (l.getD k default).1 = true) : chkAt l k = chkAt l (k + 1) := by
  rw [chkAt, dif_pos h, if_neg (by simpa using hv), if_neg]
  rintro ⟨h0, h1⟩; rw [ho h0] at h1; cases h1
theorem chkAt_end {l : List Tg} {k : Nat} (h : ¬ k < l.length) : chkAt l k = 0 := by rw [chkAt, dif_neg h]
theorem check_long {n cap : Nat} {a : Option Addr} (hl : 16 < (n : Int)) (w : World) : Calls Try.prog 12 #[.slice a n cap] w fun e w' => e = .returned (.int .i64 5) ∧ Below w.heap.size w w' := by
  go_enter Try.func12, Try.ntmps12
  go_wp2_with fail
  go_ret
  exact ⟨rfl, Below.refl _ _⟩
theorem checkr_long {n cap : Nat} {a : Option Addr} (hl : 16 < (n : Int)) (w : World) : Calls Try.prog 13 #[.slice a n cap] w fun e w' => e = .returned (.int .i64 5) ∧ Below w.heap.size w w' := by
  go_enter Try.func13, Try.ntmps13
  go_wp2_with fail
  go_ret
  exact ⟨rfl, Below.refl _ _⟩
set_option maxRecDepth 100000 in
set_option maxHeartbeats 4000000 in
theorem check_any {w : World} {v : Value} {l : List Tg} (h : TagsAt w v l) : Calls Try.prog 12 #[v] w fun e w' => e = .returned (.int .i64 (chkT l)) ∧ Below w.heap.size w w' := by
  have A0 := h
  obtain ⟨a, cap, rfl, _⟩ := h
  by_cases hl : 16 < l.length
  · rw [chkT_long hl]; exact check_long (by omega) w
  · have F0 := Lib.hid (chkT_from hl)
    have AA := Lib.hid A0
    obtain ⟨n, hn⟩ : ∃ n, l.length = n := ⟨_, rfl⟩
    have HN := Lib.hid hn
    rw [hn] at hl AA ⊢
    have n2 : ¬ 16 < (n : Int) := by omega
    have HC := Lib.hid n2
    clear A0 hn hl
    go_enter Try.func12, Try.ntmps12
    go_wp2_with fail
    go_loopw [10] (fun s wr => ∃ k : Nat, k ≤ n ∧ s = .int .i64 (k : Int) ∧ Hid (chkT l = chkAt l k) ∧ Hid (Below w.heap.size w wr)) (fun s _ => n - (intOf s).toNat)
    case atStart => exact ⟨0, Nat.zero_le _, rfl, F0.out, Below.refl _ _⟩
    case round =>
      obtain ⟨k, hk, rfl, GG, BX⟩ := hrel
      by_cases hkn : k < n
      · obtain ⟨b, off, rfl, hbl, o0, o1⟩ := (AA.out.below BX.out).at_ (j := k) (by rw [HN.out]; exact hkn)
        have hlk : k < l.length := by rw [HN.out]; exact hkn
        have BD := Lib.hid (fun hv => chkAt_bad hlk hv)
        have OR := Lib.hid (fun hv => chkAt_ord hlk hv)
        have ST := Lib.hid (fun hv => chkAt_step hlk hv)
        have PV : Hid (∀ W, Below wr.heap.size wr W → 0 < k → W.cell? ⟨b, off + (k - 1) * 2, none⟩ = some (.string (l.getD (k - 1) default).1)) := by
          intro W hb h0
          obtain ⟨b', off', e, _, p0, _⟩ := (AA.out.below BX.out).at_ (j := k - 1) (by rw [HN.out]; omega)
          injection e with e; injection e with e1 e2; subst e1 e2
          rw [hb.cell (by exact hbl)]; exact p0
        obtain ⟨⟨x, y⟩, hz⟩ : ∃ z, l.getD k default = z := ⟨_, rfl⟩
        rw [hz] at o0 o1 BD OR ST
        dsimp only at o0 o1 OR ST
        obtain ⟨k1, hk1⟩ : ∃ k1, k + 1 = k1 := ⟨_, rfl⟩
        rw [hk1] at ST
        have HK := Lib.hid hk1
        have k0 : (0 : Int) ≤ (k : Int) := by omega
        have kl : (k : Int) < (n : Int) := by omega
        have e1 : (k : Int) + 1 = (k1 : Int) := by omega
        have e2 : IntKind.i64.wrap (k1 : Int) = (k1 : Int) := by rw [IntKind.wrap_i64]; have := HC.out; omega
        obtain ⟨xb, hxb⟩ : ∃ xb, wr.heap.size = xb := ⟨_, rfl⟩
        have HXB := Lib.hid hxb
        obtain ⟨W2, hW2⟩ : ∃ W2, wr.alloc (.cells #[.string x, .string y] 42) = W2 := ⟨_, rfl⟩
        have r2 : Row W2 xb 42 [.string x, .string y] := by rw [← hW2, ← hxb]; exact Row.new _ _ _
        have b2 : Below wr.heap.size wr W2 := by rw [← hW2]; exact (Below.refl _ _).alloc (Nat.le_refl _) _
        have x0 := r2.cell (i := 0) rfl; have x1 := r2.cell (i := 1) rfl
        have R2 := Lib.hid r2; have B2 := Lib.hid b2
        have VV := Lib.hid (valid_any (x, y) W2)
        clear r2 b2 hz hk1 hlk
        by_cases hv : vld (x, y)
        · rw [decide_eq_true hv] at VV
          have BD := Lib.hid (BX.out.trans (B2.out.mono BX.out.size))
          have OR' := Lib.hid (OR.out hv); have ST' := Lib.hid (ST.out hv)
          clear OR ST hv
          go_wp2_with fail
          refine VV.out.mono ?_; rintro e w3 ⟨rfl, b3⟩
          have bb : Below w.heap.size w w3 := BD.out.trans (b3.mono BD.out.size)
          have br : Below wr.heap.size wr w3 := B2.out.trans (b3.mono B2.out.size)
          have x0 : w3.cell? ⟨xb, 0, none⟩ = some (.string x) := by rw [b3.cell (by exact R2.out.lt)]; exact R2.out.cell (i := 0) rfl
          have PP := Lib.hid (PV.out w3 br)
          have B3 := Lib.hid bb
          clear bb br b3 hW2 x1 o0 o1
          by_cases h0 : k = 0
          · subst h0
            have G2 : Hid (chkT l = chkAt l k1) := GG.out.trans (ST'.out (fun h => absurd h (by omega)))
            have B4 := Lib.hid B3.out.drew
            obtain rfl : k1 = 1 := by have := HK.out; omega
            clear GG
            go_wp2_with fail
            go_quiet (fail)
            go_wp2_with fail
            go_roundw
            case measure => simp [intOf]; omega
            case rel => exact ⟨1, by omega, rfl, G2, below_drewN B3.out _⟩
          · have hp : 0 < k := by omega
            obtain ⟨k2, hk2⟩ : ∃ k2, k - 1 = k2 := ⟨_, rfl⟩
            have HK2 := Lib.hid hk2
            have p0 := PP.out hp
            rw [hk2] at p0 OR' ST'
            obtain ⟨p, hpp⟩ : ∃ p, (l.getD k2 default).1 = p := ⟨_, rfl⟩
            rw [hpp] at p0 OR' ST'
            have q1 : (k : Int) - 1 = (k2 : Int) := by omega
            have q2 : IntKind.i64.wrap (k2 : Int) = (k2 : Int) := by rw [IntKind.wrap_i64]; have := HC.out; have := HK2.out; omega
            have q3 : (k2 : Int) < (n : Int) := by omega
            have q4 : (0 : Int) ≤ (k2 : Int) := by omega
            clear PP hk2 hpp
            cases hlt : klt p x with
            | true =>
              have G2 : Hid (chkT l = chkAt l k1) := GG.out.trans (ST'.out (fun _ => hlt))
              have t1 := bl_nlt (klt_asymm hlt)
              have t2 := str_ne (klt_ne hlt).symm
              clear GG OR' ST' hlt
              go_wp2_with fail
              go_quiet (fail)
              go_wp2_with fail
              go_roundw
              case measure => simp [intOf]; have := HK.out; omega
              case rel => exact ⟨k1, by have := HK.out; omega, rfl, G2, below_drewN B3.out _⟩
            | false =>
              have RV : Hid (chkT l = 6) := GG.out.trans (OR'.out hp hlt)
              clear GG OR' ST'
              cases hlt2 : klt x p with
              | true =>
                have t1 := bl_lt hlt2
                go_wp2_with fail
                go_quiet (fail)
                go_wp2_with fail
                go_ret
                exact ⟨by rw [RV.out]; rfl, below_drewN B3.out _⟩
              | false =>
                obtain rfl := klt_tri hlt hlt2
                go_wp2_with fail
                go_quiet (fail)
                go_wp2_with fail
                go_ret
                exact ⟨by rw [RV.out]; rfl, below_drewN B3.out _⟩
        · rw [decide_eq_false hv] at VV
          have RV : Hid (chkT l = 10) := GG.out.trans (BD.out hv)
          have BD := Lib.hid (BX.out.trans (B2.out.mono BX.out.size))
          clear OR ST hv GG
          go_wp2_with fail
          refine VV.out.mono ?_; rintro e w3 ⟨rfl, b3⟩
          have bb := Lib.hid (BD.out.trans (b3.mono BD.out.size))
          clear b3
          go_wp2_with fail
          go_ret
          exact ⟨by rw [RV.out]; rfl, bb.out⟩
      · have kl : ¬ (k : Int) < (n : Int) := by omega
        have RV : Hid (chkT l = 0) := GG.out.trans (chkAt_end (by rw [HN.out]; exact hkn))
        go_wp2_with fail
        go_ret
        exact ⟨by rw [RV.out]; rfl, BX.out⟩
set_option maxRecDepth 100000 in
set_option maxHeartbeats 4000000 in
theorem checkr_any {w : World} {v : Value} {l : List Tg} (h : TagsAt w v l) : Calls Try.prog 13 #[v] w fun e w' => e = .returned (.int .i64 (chkT l)) ∧ Below w.heap.size w w' := by
  have A0 := h
  obtain ⟨a, cap, rfl, _⟩ := h
  by_cases hl : 16 < l.length
  · rw [chkT_long hl]; exact checkr_long (by omega) w
  · have F0 := Lib.hid (chkT_from hl)
    have AA := Lib.hid A0
    obtain ⟨n, hn⟩ : ∃ n, l.length = n := ⟨_, rfl⟩
    have HN := Lib.hid hn
    rw [hn] at hl AA ⊢
    have n2 : ¬ 16 < (n : Int) := by omega
    have HC := Lib.hid n2
    clear A0 hn hl
    go_enter Try.func13, Try.ntmps13
    go_wp2_with fail
    go_loopw [3] (fun s wr => ∃ k : Nat, k ≤ n ∧ s = .int .i64 (k : Int) ∧ Hid (chkT l = chkAt l k) ∧ Hid (Below w.heap.size w wr)) (fun s _ => n - (intOf s).toNat)
    case atStart => exact ⟨0, Nat.zero_le _, rfl, F0.out, Below.refl _ _⟩
    case round =>
      obtain ⟨k, hk, rfl, GG, BX⟩ := hrel
      by_cases hkn : k < n
      · obtain ⟨b, off, rfl, hbl, o0, o1⟩ := (AA.out.below BX.out).at_ (j := k) (by rw [HN.out]; exact hkn)
        have hlk : k < l.length := by rw [HN.out]; exact hkn
        have BD := Lib.hid (fun hv => chkAt_bad hlk hv)
        have OR := Lib.hid (fun hv => chkAt_ord hlk hv)
        have ST := Lib.hid (fun hv => chkAt_step hlk hv)
        have PV : Hid (∀ W, Below wr.heap.size wr W → 0 < k → W.cell? ⟨b, off + (k - 1) * 2, none⟩ = some (.string (l.getD (k - 1) default).1)) := by
          intro W hb h0
          obtain ⟨b', off', e, _, p0, _⟩ := (AA.out.below BX.out).at_ (j := k - 1) (by rw [HN.out]; omega)
          injection e with e; injection e with e1 e2; subst e1 e2
          rw [hb.cell (by exact hbl)]; exact p0
        obtain ⟨⟨x, y⟩, hz⟩ : ∃ z, l.getD k default = z := ⟨_, rfl⟩
        rw [hz] at o0 o1 BD OR ST
        dsimp only at o0 o1 OR ST
        obtain ⟨k1, hk1⟩ : ∃ k1, k + 1 = k1 := ⟨_, rfl⟩
        rw [hk1] at ST
        have HK := Lib.hid hk1
        have k0 : (0 : Int) ≤ (k : Int) := by omega
        have kl : (k : Int) < (n : Int) := by omega
        have e1 : (k : Int) + 1 = (k1 : Int) := by omega
        have e2 : IntKind.i64.wrap (k1 : Int) = (k1 : Int) := by rw [IntKind.wrap_i64]; have := HC.out; omega
        have B2 := Lib.hid (Below.refl wr.heap.size wr)
        have HBL := Lib.hid hbl
        have O0 := Lib.hid o0
        have VV := Lib.hid (inTag_any (x, y) wr)
        clear hz hk1 hlk hbl
        by_cases hv : vld (x, y)
        · rw [decide_eq_true hv] at VV
          have BD := Lib.hid (BX.out.trans (B2.out.mono BX.out.size))
          have OR' := Lib.hid (OR.out hv); have ST' := Lib.hid (ST.out hv)
          clear OR ST hv
          go_wp2_with fail
          refine VV.out.mono ?_; rintro e w3 ⟨rfl, b3⟩
          have bb : Below w.heap.size w w3 := BD.out.trans (b3.mono BD.out.size)
          have br : Below wr.heap.size wr w3 := B2.out.trans (b3.mono B2.out.size)
          have x0 : w3.cell? ⟨b, off + k * 2, none⟩ = some (.string x) := by rw [b3.cell (by exact HBL.out)]; exact O0.out
          have PP := Lib.hid (PV.out w3 br)
          have B3 := Lib.hid bb
          clear bb br b3 o0 o1
          by_cases h0 : k = 0
          · subst h0
            have G2 : Hid (chkT l = chkAt l k1) := GG.out.trans (ST'.out (fun h => absurd h (by omega)))
            have B4 := Lib.hid B3.out.drew
            obtain rfl : k1 = 1 := by have := HK.out; omega
            clear GG
            go_wp2_with fail
            go_quiet (fail)
            go_wp2_with fail
            go_roundw
            case measure => simp [intOf]; omega
            case rel => exact ⟨1, by omega, rfl, G2, below_drewN B3.out _⟩
          · have hp : 0 < k := by omega
            obtain ⟨k2, hk2⟩ : ∃ k2, k - 1 = k2 := ⟨_, rfl⟩
            have HK2 := Lib.hid hk2
            have p0 := PP.out hp
            rw [hk2] at p0 OR' ST'
            obtain ⟨p, hpp⟩ : ∃ p, (l.getD k2 default).1 = p := ⟨_, rfl⟩
            rw [hpp] at p0 OR' ST'
            have q1 : (k : Int) - 1 = (k2 : Int) := by omega
            have q2 : IntKind.i64.wrap (k2 : Int) = (k2 : Int) := by rw [IntKind.wrap_i64]; have := HC.out; have := HK2.out; omega
            have q3 : (k2 : Int) < (n : Int) := by omega
            have q4 : (0 : Int) ≤ (k2 : Int) := by omega
            clear PP hk2 hpp
            cases hlt : klt p x with
            | true =>
              have G2 : Hid (chkT l = chkAt l k1) := GG.out.trans (ST'.out (fun _ => hlt))
              have t1 := bl_lt hlt
              clear GG OR' ST' hlt
              go_wp2_with fail
              go_quiet (fail)
              go_wp2_with fail
              go_roundw
              case measure => simp [intOf]; have := HK.out; omega
              case rel => exact ⟨k1, by have := HK.out; omega, rfl, G2, below_drewN B3.out _⟩
            | false =>
              have RV : Hid (chkT l = 6) := GG.out.trans (OR'.out hp hlt)
              clear GG OR' ST'
              have t1 := bl_nlt hlt
              go_wp2_with fail
              go_quiet (fail)
              go_wp2_with fail
              go_ret
              exact ⟨by rw [RV.out]; rfl, below_drewN B3.out _⟩
        · rw [decide_eq_false hv] at VV
          have RV : Hid (chkT l = 10) := GG.out.trans (BD.out hv)
          have BD := Lib.hid (BX.out.trans (B2.out.mono BX.out.size))
          clear OR ST hv GG
          go_wp2_with fail
          refine VV.out.mono ?_; rintro e w3 ⟨rfl, b3⟩
          have bb := Lib.hid (BD.out.trans (b3.mono BD.out.size))
          clear b3
          go_wp2_with fail
          go_ret
          exact ⟨by rw [RV.out]; rfl, bb.out⟩
      · have kl : ¬ (k : Int) < (n : Int) := by omega
        have RV : Hid (chkT l = 0) := GG.out.trans (chkAt_end (by rw [HN.out]; exact hkn))
        go_wp2_with fail
        go_ret
        exact ⟨by rw [RV.out]; rfl, BX.out⟩
end Go.Proofs.Ytlojecpladckiaa
