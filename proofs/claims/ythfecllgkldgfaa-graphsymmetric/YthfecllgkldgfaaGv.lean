/- graph: the reference's Parts. -/
import Derived.Test.YthfecllgkldgfaaGu
namespace Go.Proofs.Ythfecllgkldgfaa
open Go.ChangeShapes Go.WideShapes Go.ChangeAt Go.RowKit Go.Joins Go.Deep

def rng (k : Nat) : List Int := (List.range k).map (fun i : Nat => (i : Int))
theorem rng_len (k : Nat) : (rng k).length = k := by unfold rng; simp
theorem rng_succ (k : Nat) : rng (k + 1) = rng k ++ [(k : Int)] := by unfold rng; rw [List.range_succ, List.map_append]; rfl
theorem rng_idl (m : Nat) : idl m m = rng m := by unfold idl rng; simp
structure PT (w wr : World) (g m cap : Nat) (cs : List Value) (up : List Int) : Prop where
  u : Nums wr g m cap up
  r : Row wr w.heap.size 33 cs
  b : Below w.heap.size w wr
  gg : w.heap.size < g
theorem PT.keep {w wr W : World} {g m cap : Nat} {cs : List Value} {up : List Int} (p : PT w wr g m cap cs up) (b : Below wr.heap.size wr W) : PT w W g m cap cs up :=
  ⟨p.u.keep b, p.r.below b p.r.lt, p.b.trans (b.mono p.b.size), p.gg⟩
theorem PT.only {w wr W : World} {g m cap : Nat} {cs : List Value} {up up' : List Int} (p : PT w wr g m cap cs up) (o : OnlyG g wr W) (n : Nums W g m cap up') : PT w W g m cap cs up' :=
  ⟨n, p.r.same (o.block _ (by have := p.gg; omega)), p.b.trans (o.below (by have := p.gg; omega)), p.gg⟩
theorem PT.set {w wr : World} {g m cap i : Nat} {cs : List Value} {up : List Int} (p : PT w wr g m cap cs up) (x : Int) : PT w (wr.setCell ⟨g, i, none⟩ (.int .i64 x)) g m cap cs (up.set i x) := p.only (OnlyG.refl g wr).set (p.u.set x)
theorem nums_of {w : World} {B n : Nat} {v : Value} {l : List Int} (h : w.ownsRow B 3 1 v n (nums l)) (hl : l.length = n) (h0 : 0 < n) : ∃ g cap, v = .slice (some ⟨g, 0, none⟩) n cap ∧ B ≤ g ∧ Nums w g n cap l := by
  rcases h.2 with ⟨_, e⟩ | ⟨g, cap, cur, rfl, h1, h2⟩
  · omega
  · exact ⟨g, cap, rfl, h1, ⟨own_base h (Nat.zero_le _), hl⟩⟩
theorem partsr_bad {w : World} {N : Int} {v : Value} {ars : List (Int × Int)} (h : ArcsAt w v ars) (hc : chk N ars ≠ 0) : Calls Try.prog 45 #[gv N v] w fun e w' => e = .returned nilV ∧ Below w.heap.size w w' := by
  have A0 := h
  obtain ⟨a, cap, rfl, _⟩ := h
  have CK := Lib.hid (fun W (b : Below w.heap.size w W) => checkr_any (N := N) (A0.below b))
  obtain ⟨n, hn⟩ : ∃ n, ars.length = n := ⟨_, rfl⟩
  obtain ⟨c, hcc⟩ : ∃ c, chk N ars = c := ⟨_, rfl⟩
  rw [hn] at CK ⊢
  rw [hcc] at CK hc
  have c1 : (c == 0) = false := by simpa using hc
  obtain ⟨W1, hW1⟩ : ∃ W1, w.alloc (.cells #[.int .i64 N, .slice a n cap] 33) = W1 := ⟨_, rfl⟩
  have r1 : Row W1 w.heap.size 33 [.int .i64 N, .slice a n cap] := by rw [← hW1]; exact Row.new _ _ _
  have q0 := r1.cell (i := 0) rfl; have q1 := r1.cell (i := 1) rfl
  have BB := Lib.hid (show Below w.heap.size w W1 by rw [← hW1]; exact (Below.refl _ _).alloc (Nat.le_refl _) _)
  clear r1 A0 hn hcc hc
  go_enter Try.func45, Try.ntmps45
  go_wp2_with fail
  refine (CK.out _ BB.out).mono ?_; rintro e w3 ⟨rfl, b⟩
  have FB := Lib.hid (BB.out.trans (b.mono BB.out.size))
  clear b
  go_wp2_with fail
  go_ret
  exact ⟨rfl, FB.out⟩
set_option maxRecDepth 100000 in
set_option maxHeartbeats 8000000 in
theorem partsr_any {w : World} {m : Nat} {v : Value} {ars : List (Int × Int)} (h : ArcsAt w v ars) (hc : chk (m : Int) ars = 0) : Calls Try.prog 45 #[gv (m : Int) v] w fun e w' => ∃ u, e = .returned u ∧ IntsAt w' u (partsR ars m) ∧ Below w.heap.size w w' := by
  obtain ⟨i0, hi, hz0, hz1, hz2⟩ := Go.info_parts Try.info3
  have II := Lib.hid hi; have Z0 := Lib.hid hz0; have Z1 := Lib.hid hz1; have Z2 := Lib.hid hz2
  clear hi hz0 hz1 hz2
  obtain ⟨nl, nb⟩ := chk_zero hc
  unfold long at nl
  have hm : m ≤ 1048576 := by omega
  have hl1 : ars.length ≤ 4194304 := by omega
  have NB := Lib.hid nb
  have A0 := h
  obtain ⟨a, cap, rfl, _⟩ := h
  have CK := Lib.hid (fun W (b : Below w.heap.size w W) => checkr_any (N := (m : Int)) (A0.below b))
  have AA := Lib.hid A0
  obtain ⟨n, hn⟩ : ∃ n, ars.length = n := ⟨_, rfl⟩
  have HN := Lib.hid hn; have HM := Lib.hid hm; have HL := Lib.hid hl1
  rw [hn] at CK AA ⊢
  rw [hc] at CK
  obtain ⟨W1, hW1⟩ : ∃ W1, w.alloc (.cells #[.int .i64 (m : Int), .slice a n cap] 33) = W1 := ⟨_, rfl⟩
  have r1 : Row W1 w.heap.size 33 [.int .i64 (m : Int), .slice a n cap] := by rw [← hW1]; exact Row.new _ _ _
  have q0 := r1.cell (i := 0) rfl; have q1 := r1.cell (i := 1) rfl
  have R1 := Lib.hid r1
  have BB := Lib.hid (show Below w.heap.size w W1 by rw [← hW1]; exact (Below.refl _ _).alloc (Nat.le_refl _) _)
  clear r1 A0 hn hc hm hl1 nl nb
  go_enter Try.func45, Try.ntmps45
  go_wp2_with fail
  refine (CK.out _ BB.out).mono ?_; rintro e w3 ⟨rfl, b⟩
  have R3 := Lib.hid (R1.out.below b R1.out.lt)
  have B3 := Lib.hid (BB.out.trans (b.mono BB.out.size))
  clear b q0 q1 hW1 R1 BB
  go_wp2_with fail
  go_loopw [3, 4] (fun s3 s4 wr => ∃ k : Nat, k ≤ m ∧ s4 = .int .i64 (k : Int) ∧ Hid (wr.ownsRow w3.heap.size 3 1 s3 k (nums (rng k))) ∧ Hid (Below w3.heap.size w3 wr)) (fun _ s4 _ => m - (intOf s4).toNat)
  case atStart => exact ⟨0, Nat.zero_le _, rfl, World.ownsRow_nil _ _ _ _, Below.refl _ _⟩
  case round =>
    obtain ⟨k, hk, rfl, OK, BW⟩ := hrel
    obtain ⟨au, cu, hu⟩ := row_formB OK.out
    subst hu
    have BX := Lib.hid (B3.out.trans (BW.out.mono B3.out.size))
    have rr := R3.out.below BW.out R3.out.lt
    have q0 := rr.cell (i := 0) rfl; have q1 := rr.cell (i := 1) rfl
    by_cases hkm : k < m
    · obtain ⟨k1, hk1⟩ : ∃ k1, k + 1 = k1 := ⟨_, rfl⟩
      have HK := Lib.hid hk1; have HKM := Lib.hid hkm
      have k0 : (0 : Int) ≤ (k : Int) := by omega
      have kl : (k : Int) < (m : Int) := by omega
      have e1 : (k : Int) + 1 = (k1 : Int) := by omega
      have e2 : IntKind.i64.wrap (k1 : Int) = (k1 : Int) := by rw [IntKind.wrap_i64]; have := HM.out; omega
      have SB : Hid (w3.heap.size ≤ wr.heap.size) := BW.out.size
      clear hk1 rr
      go_wp2_with (at_builtin; refine wpList_append_own_at _ rfl _ _ 22 rfl w3.heap.size 3 i0 (.int .i64 0) 1 8 Try.underlying22 II.out Z0.out Z1.out Z2.out rfl (by decide) (.slice au k cu) k (nums (rng k)) rfl (OK.out.alloc _) ⟨wr.heap.size, 0, none⟩ 1 1 [.int .i64 k] rfl rfl (cell_one_new _ _ _) (by simp [Value.oneCell']) (by have := HM.out; have := HKM.out; unfold maxLen; omega) (by have := HM.out; have := HKM.out; omega) (by have := SB.out; simp; omega) ?_; intro v' w7 hown' hgrow hnil hloc; have O7 := Lib.hid hown'; have G7 := Lib.hid hgrow; clear hown' hgrow hnil hloc)
      have O8 : Hid (w7.ownsRow w3.heap.size 3 1 v' k1 (nums (rng k1))) := by
        show World.ownsRow _ _ _ _ _ _ _
        have h := O7.out
        have ek := HK.out
        subst ek
        rw [rng_succ, nums_append]; exact h
      have B8 : Hid (Below w3.heap.size w3 w7) := (BW.out.alloc SB.out _).grown G7.out (by have := SB.out; simp; omega) (fun q e => (OK.out.lt q e).1)
      go_roundw
      case measure => simp [intOf]; have := HK.out; have := HKM.out; omega
      case rel => exact ⟨k1, by have := HK.out; have := HKM.out; omega, rfl, O8, B8⟩
    · have kl : ¬ (k : Int) < (m : Int) := by omega
      obtain rfl : k = m := by omega
      have RR := Lib.hid rr
      clear rr
      by_cases h0 : 0 < k
      · obtain ⟨g, cg, hv, hg, ng⟩ := nums_of OK.out (rng_len k) h0
        injection hv with ha _ hcc
        subst ha hcc
        rw [← rng_idl] at ng
        have P0 : Hid (PT w wr g k cu [.int .i64 (k : Int), .slice a n cap] (turns ars k 0)) := ⟨ng, RR.out, BX.out, by have := R3.out.lt; omega⟩
        clear ng hg OK BW BX RR hk hkm
        go_wp2_with fail
        clear q0 q1
        go_loopw [5] (fun s wq => ∃ t : Nat, t ≤ k ∧ s = .int .i64 (t : Int) ∧ Hid (PT w wq g k cu [.int .i64 (k : Int), .slice a n cap] (turns ars k t))) (fun s _ => k - (intOf s).toNat)
        case atStart => exact ⟨0, Nat.zero_le _, rfl, P0⟩
        case round =>
          clear P0
          obtain ⟨t, ht, rfl, PP⟩ := hrel
          have q0 := PP.out.r.cell (i := 0) rfl
          by_cases htk : t < k
          · obtain ⟨t1, ht1⟩ : ∃ t1, t + 1 = t1 := ⟨_, rfl⟩
            have HT := Lib.hid ht1; have HTK := Lib.hid htk
            have k0 : (0 : Int) ≤ (t : Int) := by omega
            have kl3 : (t : Int) < (k : Int) := by omega
            have e1 : (t : Int) + 1 = (t1 : Int) := by omega
            have e2 : IntKind.i64.wrap (t1 : Int) = (t1 : Int) := by rw [IntKind.wrap_i64]; have := HM.out; omega
            obtain ⟨U, hU⟩ : ∃ U, turns ars k t = U := ⟨_, rfl⟩
            have HU := Lib.hid hU
            rw [hU] at PP
            have LU := Lib.hid PP.out.u.len
            have P0 : Hid (PT w wr g k cu [.int .i64 (k : Int), .slice a n cap] (turn ars 0 U)) := PP
            clear ht1 hU PP
            go_wp2_with fail
            clear q0
            go_loopw [6] (fun s wq => ∃ i : Nat, i ≤ n ∧ s = .int .i64 (i : Int) ∧ Hid (PT w wq g k cu [.int .i64 (k : Int), .slice a n cap] (turn ars i U))) (fun s _ => n - (intOf s).toNat)
            case atStart => exact ⟨0, Nat.zero_le _, rfl, P0⟩
            case round =>
              clear P0
              obtain ⟨i, hi, rfl, PP⟩ := hrel
              have q0 := PP.out.r.cell (i := 0) rfl; have q1 := PP.out.r.cell (i := 1) rfl
              by_cases hin : i < n
              · have hin' : i < ars.length := by rw [HN.out]; exact hin
                obtain ⟨x, y, exy, hx, hy, _⟩ := arc_nat NB.out hin'
                obtain ⟨b, off, rfl, o0, o1⟩ := (AA.out.below PP.out.b).at_ hin'
                have TS := Lib.hid (turn_succ (up := U) hin')
                rw [exy] at o0 o1 TS
                dsimp only at o0 o1
                have HX := Lib.hid hx; have HY := Lib.hid hy
                clear exy hin'
                obtain ⟨i1, hi1⟩ : ∃ i1, i + 1 = i1 := ⟨_, rfl⟩
                rw [hi1] at TS
                have HI := Lib.hid hi1
                have i00 : (0 : Int) ≤ (i : Int) := by omega
                have il : (i : Int) < (n : Int) := by omega
                have f1 : (i : Int) + 1 = (i1 : Int) := by omega
                have f2 : IntKind.i64.wrap (i1 : Int) = (i1 : Int) := by rw [IntKind.wrap_i64]; have := HL.out; have := HN.out; omega
                clear hi1
                obtain ⟨xb, hxb⟩ : ∃ xb, wr.heap.size = xb := ⟨_, rfl⟩
                obtain ⟨W2, hW2⟩ : ∃ W2, wr.alloc (.cells #[.int .i64 (x : Int), .int .i64 (y : Int)] 45) = W2 := ⟨_, rfl⟩
                have r2 : Row W2 xb 45 [.int .i64 (x : Int), .int .i64 (y : Int)] := by rw [← hW2, ← hxb]; exact Row.new _ _ _
                have b2 : Below wr.heap.size wr W2 := by rw [← hW2]; exact (Below.refl _ _).alloc (Nat.le_refl _) _
                have x0 := r2.cell (i := 0) rfl; have x1 := r2.cell (i := 1) rfl
                have P2 := PP.out.keep b2
                obtain ⟨cx, fx⟩ := P2.u.at_ hx
                obtain ⟨cy, fy⟩ := P2.u.at_ hy
                obtain ⟨u1, hu1⟩ : ∃ u1, (turn ars i U).getD x 0 = u1 := ⟨_, rfl⟩
                obtain ⟨u2, hu2⟩ : ∃ u2, (turn ars i U).getD y 0 = u2 := ⟨_, rfl⟩
                rw [hu1] at cx
                rw [hu2] at cy
                obtain ⟨mi, hmi⟩ : ∃ mi, min u1 u2 = mi := ⟨_, rfl⟩
                have RX : Hid (relax (turn ars i U) ((x : Int), (y : Int)) = ((turn ars i U).set x mi).set y mi) := by
                  show _ = _
                  unfold relax
                  dsimp only
                  rw [Int.toNat_natCast, Int.toNat_natCast, hu1, hu2, hmi]
                have gx : g ≠ xb := by have := PP.out.u.lt; omega
                have P2H := Lib.hid P2; have R2H := Lib.hid r2
                have x00 : (0 : Int) ≤ (x : Int) := by omega
                have xl : (x : Int) < (k : Int) := by omega
                have y00 : (0 : Int) ≤ (y : Int) := by omega
                have yl : (y : Int) < (k : Int) := by omega
                clear hu1 hu2 P2 r2 b2 PP
                by_cases hle : u1 ≤ u2
                · obtain rfl : u1 = mi := by omega
                  clear hmi
                  have h3 : min u1 u2 = u1 := by omega
                  go_wp2_with fail
                  go_quiet (fail)
                  obtain ⟨W5, hW5⟩ : ∃ W5, W2.drewN nq = W5 := ⟨_, rfl⟩
                  have b5 : Below W2.heap.size W2 W5 := by rw [← hW5]; exact below_drewN (Below.refl _ _) nq
                  have P5 := P2H.out.keep b5
                  have r5 := R2H.out.below b5 R2H.out.lt
                  clear x0 x1 cx cy fx fy q0 q1 hW2
                  have y0 := r5.cell (i := 0) rfl; have y1 := r5.cell (i := 1) rfl
                  obtain ⟨cx5, fx⟩ := P5.u.at_ hx
                  obtain ⟨d5, hd5⟩ : ∃ d5, (turn ars i U).getD x 0 = d5 := ⟨_, rfl⟩
                  rw [hd5] at cx5
                  obtain ⟨W3, hW3⟩ : ∃ W3, W5.setCell ⟨g, x, none⟩ (.int .i64 u1) = W3 := ⟨_, rfl⟩
                  have P3 : PT w W3 g k cu [.int .i64 (k : Int), .slice (some ⟨b, off, none⟩) n cap] ((turn ars i U).set x u1) := by rw [← hW3]; exact P5.set u1
                  have r3 : Row W3 xb 45 [.int .i64 (x : Int), .int .i64 (y : Int)] := by rw [← hW3]; exact r5.other (fun h => gx h.symm)
                  have z0 := r3.cell (i := 0) rfl; have z1 := r3.cell (i := 1) rfl
                  have fy3 := (P3.u.at_ hy).2
                  have cy3 := (P3.u.at_ hy).1
                  obtain ⟨d3, hd3⟩ : ∃ d3, ((turn ars i U).set x u1).getD y 0 = d3 := ⟨_, rfl⟩
                  rw [hd3] at cy3
                  obtain ⟨W4, hW4⟩ : ∃ W4, W3.setCell ⟨g, y, none⟩ (.int .i64 u1) = W4 := ⟨_, rfl⟩
                  have P4 : Hid (PT w W4 g k cu [.int .i64 (k : Int), .slice (some ⟨b, off, none⟩) n cap] (turn ars i1 U)) := by
                    show PT _ _ _ _ _ _ _
                    rw [TS.out, RX.out]
                    have p := P3.set (i := y) u1
                    rw [hW4] at p
                    exact p
                  clear P5 P3 r5 r3 b5 hd3 hd5 hx hy TS RX
                  go_wp2_with fail
                  go_roundw
                  case measure => simp [intOf]; have := HI.out; omega
                  case rel => exact ⟨i1, by have := HI.out; omega, rfl, P4⟩
                · obtain rfl : u2 = mi := by omega
                  clear hmi
                  have h3 : min u1 u2 = u2 := by omega
                  have h4 : u2 < u1 := by omega
                  go_wp2_with fail
                  go_quiet (fail)
                  obtain ⟨W5, hW5⟩ : ∃ W5, W2.drewN nq = W5 := ⟨_, rfl⟩
                  have b5 : Below W2.heap.size W2 W5 := by rw [← hW5]; exact below_drewN (Below.refl _ _) nq
                  have P5 := P2H.out.keep b5
                  have r5 := R2H.out.below b5 R2H.out.lt
                  clear x0 x1 cx cy fx fy q0 q1 hW2
                  have y0 := r5.cell (i := 0) rfl; have y1 := r5.cell (i := 1) rfl
                  obtain ⟨cx5, fx⟩ := P5.u.at_ hx
                  obtain ⟨d5, hd5⟩ : ∃ d5, (turn ars i U).getD x 0 = d5 := ⟨_, rfl⟩
                  rw [hd5] at cx5
                  obtain ⟨W3, hW3⟩ : ∃ W3, W5.setCell ⟨g, x, none⟩ (.int .i64 u2) = W3 := ⟨_, rfl⟩
                  have P3 : PT w W3 g k cu [.int .i64 (k : Int), .slice (some ⟨b, off, none⟩) n cap] ((turn ars i U).set x u2) := by rw [← hW3]; exact P5.set u2
                  have r3 : Row W3 xb 45 [.int .i64 (x : Int), .int .i64 (y : Int)] := by rw [← hW3]; exact r5.other (fun h => gx h.symm)
                  have z0 := r3.cell (i := 0) rfl; have z1 := r3.cell (i := 1) rfl
                  have fy3 := (P3.u.at_ hy).2
                  have cy3 := (P3.u.at_ hy).1
                  obtain ⟨d3, hd3⟩ : ∃ d3, ((turn ars i U).set x u2).getD y 0 = d3 := ⟨_, rfl⟩
                  rw [hd3] at cy3
                  obtain ⟨W4, hW4⟩ : ∃ W4, W3.setCell ⟨g, y, none⟩ (.int .i64 u2) = W4 := ⟨_, rfl⟩
                  have P4 : Hid (PT w W4 g k cu [.int .i64 (k : Int), .slice (some ⟨b, off, none⟩) n cap] (turn ars i1 U)) := by
                    show PT _ _ _ _ _ _ _
                    rw [TS.out, RX.out]
                    have p := P3.set (i := y) u2
                    rw [hW4] at p
                    exact p
                  clear P5 P3 r5 r3 b5 hd3 hd5 hx hy TS RX
                  go_wp2_with fail
                  go_roundw
                  case measure => simp [intOf]; have := HI.out; omega
                  case rel => exact ⟨i1, by have := HI.out; omega, rfl, P4⟩
              · have il : ¬ (i : Int) < (n : Int) := by omega
                obtain rfl : i = n := by omega
                have P9 : Hid (PT w wr g k cu [.int .i64 (k : Int), .slice a i cap] (turns ars k t1)) := by
                  have p := PP.out
                  show PT _ _ _ _ _ _ _
                  have e := HT.out
                  subst e
                  show PT _ _ _ _ _ _ (turn ars ars.length (turns ars k t))
                  rw [HN.out, HU.out]; exact p
                clear PP
                go_wp2_with fail
                go_roundw
                case measure => simp [intOf]; have := HT.out; have := HTK.out; omega
                case rel => exact ⟨t1, by have := HT.out; have := HTK.out; omega, rfl, P9⟩
          · have kl3 : ¬ (t : Int) < (k : Int) := by omega
            obtain rfl : t = k := by omega
            have FI : Hid (IntsAt wr (.slice (some ⟨g, 0, none⟩) t cu) (partsR ars t)) := PP.out.u.ints
            have FB := Lib.hid PP.out.b
            clear PP
            go_wp2_with fail
            go_ret
            exact ⟨_, rfl, FI.out, FB.out⟩
      · obtain rfl : k = 0 := by omega
        have RA : Hid (IntsAt wr (.slice au 0 cu) (partsR ars 0)) := by
          show IntsAt _ _ (turns ars 0 0)
          show IntsAt _ _ (idl 0 0)
          rw [rng_idl]; exact IntsAt.of_row OK.out
        clear OK hk hkm h0
        go_wp2_with fail
        go_loopw [5] (fun s wq => s = .int .i64 0 ∧ wq = wr) (fun _ _ => 0)
        case atStart => exact ⟨rfl, rfl⟩
        case round =>
          obtain ⟨rfl, rfl⟩ := hrel
          go_wp2_with fail
          go_ret
          exact ⟨_, rfl, RA.out, BX.out⟩
end Go.Proofs.Ythfecllgkldgfaa
