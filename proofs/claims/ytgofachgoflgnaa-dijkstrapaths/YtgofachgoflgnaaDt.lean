/- dijkstra: the reference's way. -/
import Derived.Test.YtgofachgoflgnaaDs
namespace Go.Proofs.Ytgofachgoflgnaa
open Go.ChangeShapes Go.WideShapes Go.ChangeAt Go.RowKit Go.Joins Go.Deep
def negs (k : Nat) : List Int := List.replicate k (-1)
theorem own_below {w W : World} {B e size : Nat} {v : Value} {n : Nat} {xs : List Value} (h : w.ownsRow B e size v n xs) (b : Below w.heap.size w W) : W.ownsRow B e size v n xs :=
  h.kept (row := none) ⟨b.os, b.tape, b.output, b.size, fun j hj _ => b.block j hj⟩ (by cases v.ownBlock <;> simp)
theorem negs_succ (k : Nat) : nums (negs (k + 1)) = nums (negs k) ++ [.int .i64 (-1)] := by
  unfold negs nums; rw [List.replicate_succ', List.map_append]; rfl
set_option maxRecDepth 100000 in
set_option maxHeartbeats 8000000 in
theorem way_any {w : World} {m q r : Nat} {v u z : Value} {ars : List (Int × Int)} {ws dl : List Int} (A : ArcsAt w v ars) (U : IntsAt w u ws) (D : IntsAt w z dl) (O : OkW m ars ws) (hq : q < m) (hr : r < m) (ID : IsD ars ws m q dl) (hf : dl.getD r 0 < INF) :
    Calls Try.prog 28 #[gv (m : Int) v, u, z, .int .i64 (q : Int), .int .i64 (r : Int)] w fun e w' => (∃ a k c, e = .returned (.slice a k c)) ∧ Below w.heap.size w w' := by
  have A0 := A; have U0 := U; have D0 := D
  obtain ⟨a, cap, rfl, _⟩ := A
  obtain ⟨ua, uc, rfl⟩ := U.form
  obtain ⟨da, dc, rfl⟩ := D.form
  obtain ⟨n, hn⟩ : ∃ n, ars.length = n := ⟨_, rfl⟩
  obtain ⟨k, hk⟩ : ∃ k, ws.length = k := ⟨_, rfl⟩
  have HA : Hid (ArcsAt w (.slice a n cap) ars) := by have h := A0; rw [hn] at h; exact h
  have HU : Hid (IntsAt w (.slice ua k uc) ws) := by have h := U0; rw [hk] at h; exact h
  have HD : Hid (IntsAt w (.slice da m dc) dl) := by have h := D0; rw [ID.len] at h; exact h
  have HN := Lib.hid hn; have HK := Lib.hid hk; have HO := Lib.hid O; have HQ := Lib.hid hq; have HR := Lib.hid hr; have HID := Lib.hid ID; have HF := Lib.hid hf
  have HM : Hid (m ≤ 1048576 ∧ n ≤ 4194304) := by have := O.size; rw [HN.out] at this; exact this
  rw [hn, hk, ID.len]
  obtain ⟨gB, hgB⟩ : ∃ gB, w.heap.size = gB := ⟨_, rfl⟩
  obtain ⟨W1, hW1⟩ : ∃ W1, w.alloc (.cells #[.int .i64 (m : Int), .slice a n cap] 24) = W1 := ⟨_, rfl⟩
  have r1 : Row W1 gB 24 [.int .i64 (m : Int), .slice a n cap] := by rw [← hW1, ← hgB]; exact Row.new _ _ _
  have b1 : Below w.heap.size w W1 := by rw [← hW1]; exact below_al _ _
  have B4 := Lib.hid b1; have R4 := Lib.hid r1
  have HGB := Lib.hid hgB
  obtain ⟨i0, hi, hz0, hz1, hz2⟩ := Go.info_parts Try.info3
  have II := Lib.hid hi; have Z0 := Lib.hid hz0; have Z1 := Lib.hid hz1; have Z2 := Lib.hid hz2
  clear A0 U0 D0 U D b1 r1 hn hk O hq hr ID hf hi hz0 hz1 hz2
  go_enter Try.func28, Try.ntmps28
  go_wp2_with fail
  go_loopw [11, 12] (fun s9 s10 wr => ∃ k : Nat, k ≤ m ∧ s10 = .int .i64 (k : Int) ∧ Hid (wr.ownsRow W1.heap.size 3 1 s9 k (nums (negs k))) ∧ Hid (Below W1.heap.size W1 wr)) (fun _ s10 _ => m - (intOf s10).toNat)
  case atStart => exact ⟨0, Nat.zero_le _, rfl, World.ownsRow_nil _ _ _ _, Below.refl _ _⟩
  case round =>
    clear hW1
    obtain ⟨k', hk, rfl, OK, BW⟩ := hrel
    obtain ⟨au, cu, hu⟩ := row_formB OK.out
    subst hu
    have BX := Lib.hid (B4.out.trans (BW.out.mono B4.out.size))
    have rr := R4.out.below BW.out R4.out.lt
    have g0 := rr.cell (i := 0) rfl; have g1 := rr.cell (i := 1) rfl
    by_cases hkm : k' < m
    · obtain ⟨k1, hk1⟩ : ∃ k1, k' + 1 = k1 := ⟨_, rfl⟩
      have HK1 := Lib.hid hk1; have HKM := Lib.hid hkm
      have k0 : (0 : Int) ≤ (k' : Int) := by omega
      have kl : (k' : Int) < (m : Int) := by omega
      have e1 : (k' : Int) + 1 = (k1 : Int) := by omega
      have e2 : IntKind.i64.wrap (k1 : Int) = (k1 : Int) := by rw [IntKind.wrap_i64]; have := HM.out.1; omega
      have SB : Hid (W1.heap.size ≤ wr.heap.size) := BW.out.size
      clear hk1 rr
      go_wp2_with (at_builtin; refine wpList_append_own_at _ rfl _ _ 25 rfl W1.heap.size 3 i0 (.int .i64 0) 1 8 Try.underlying25 II.out Z0.out Z1.out Z2.out rfl (by decide) (.slice au k' cu) k' (nums (negs k')) rfl (OK.out.alloc _) ⟨wr.heap.size, 0, none⟩ 1 1 [.int .i64 (-1)] rfl rfl (cell_one_new _ _ _) (by simp [Value.oneCell']) (by have := HM.out.1; have := HKM.out; unfold maxLen; omega) (by have := HM.out.1; have := HKM.out; omega) (by have := SB.out; simp; omega) ?_; intro v' w7 hown' hgrow hnil hloc; have O7 := Lib.hid hown'; have G7 := Lib.hid hgrow; clear hown' hgrow hnil hloc)
      have O8 : Hid (w7.ownsRow W1.heap.size 3 1 v' k1 (nums (negs k1))) := by
        show World.ownsRow _ _ _ _ _ _ _
        have h := O7.out
        have ek := HK1.out
        subst ek
        rw [negs_succ]; exact h
      have B8 : Hid (Below W1.heap.size W1 w7) := (BW.out.alloc SB.out _).grown G7.out (by have := SB.out; simp; omega) (fun q e => (OK.out.lt q e).1)
      go_roundw
      case measure => simp [intOf]; have := HK1.out; have := HKM.out; omega
      case rel => exact ⟨k1, by have := HK1.out; have := HKM.out; omega, rfl, O8, B8⟩
    · have kl : ¬ (k' : Int) < (m : Int) := by omega
      obtain rfl : m = k' := by omega
      obtain ⟨g, cg, hv, hg, ng⟩ := nums_of OK.out (by unfold negs; simp) (by have := HQ.out; omega)
      injection hv with ha _ hcc
      subst ha hcc
      have P0 : Hid (BT w wr gB g m cu [.int .i64 (m : Int), .slice a n cap] (negs m)) := ⟨ng, rr, BX.out, by have := B4.out.size; omega, by have := R4.out.lt; omega⟩
      obtain ⟨dq, fq⟩ := ng.at_ HQ.out
      obtain ⟨e0, he0⟩ : ∃ e0, (negs m).getD q 0 = e0 := ⟨_, rfl⟩
      rw [he0] at dq
      obtain ⟨Ws, hWs⟩ : ∃ Ws, wr.setCell ⟨g, q, none⟩ (.int .i64 0) = Ws := ⟨_, rfl⟩
      have P1 : Hid (BT w Ws gB g m cu [.int .i64 (m : Int), .slice a n cap] ((negs m).set q 0)) := by have p := P0.out.set (i := q) 0; rw [hWs] at p; exact p
      have q0 : (0 : Int) ≤ (q : Int) := by omega
      have ql : (q : Int) < (m : Int) := by have := HQ.out; omega
      clear ng hg OK BW BX rr hk hkm he0 P0
      go_wp2_with fail
      clear g0 g1 dq fq hWs
      go_loopw [13] (fun s13 wr => ∃ (nn : Nat) (st : List Int), nn ≤ m ∧ s13 = .int .i64 (nn : Int) ∧ Hid (BT w wr gB g m cu [.int .i64 (m : Int), .slice a n cap] st) ∧ Hid (Bf ars ws dl m q nn 0 st)) (fun s13 _ => m - (intOf s13).toNat)
      case atStart => exact ⟨0, _, Nat.zero_le _, rfl, P1, bf_start HQ.out⟩
      case round =>
        clear P1
        obtain ⟨nn, st0, hnn, rfl, P2, BS⟩ := hrel
        have g0 := P2.out.r.cell (i := 0) rfl; have g1 := P2.out.r.cell (i := 1) rfl
        by_cases hnm : nn < m
        · obtain ⟨n1, hn1⟩ : ∃ n1, nn + 1 = n1 := ⟨_, rfl⟩
          have HN1 := Lib.hid hn1; have HNM := Lib.hid hnm
          have v0 : (0 : Int) ≤ (nn : Int) := by omega
          have vl : (nn : Int) < (m : Int) := by omega
          have ve : (nn : Int) + 1 = (n1 : Int) := by omega
          have vw : IntKind.i64.wrap (n1 : Int) = (n1 : Int) := by rw [IntKind.wrap_i64]; have := HM.out.1; omega
          clear hn1 hnm hnn
          go_wp2_with fail
          clear g0 g1
          go_loopw [14] (fun s14 wq => ∃ (i : Nat) (st : List Int), i ≤ n ∧ s14 = .int .i64 (i : Int) ∧ Hid (BT w wq gB g m cu [.int .i64 (m : Int), .slice a n cap] st) ∧ Hid (Bf ars ws dl m q nn i st)) (fun s14 _ => n - (intOf s14).toNat)
          case atStart => exact ⟨0, st0, Nat.zero_le _, rfl, P2, BS⟩
          case round =>
            clear P2 BS
            obtain ⟨i, st, hi, rfl, P3, PS⟩ := hrel
            have g0 := P3.out.r.cell (i := 0) rfl; have g1 := P3.out.r.cell (i := 1) rfl
            by_cases hin : i < n
            · have hin' : i < ars.length := by rw [HN.out]; exact hin
              obtain ⟨x, y, exy, hx, hy⟩ := arc_nat HO.out.arc hin'
              obtain ⟨b, off, rfl, o0, o1⟩ := (HA.out.below P3.out.b).at_ hin'
              obtain ⟨bu, ou, hua, u0⟩ := (HU.out.below P3.out.b).at (k := i) (by rw [HO.out.l]; exact hin')
              subst hua
              obtain ⟨bd, od, hda, dx0⟩ := (HD.out.below P3.out.b).at (k := x) (by rw [HID.out.len]; exact hx)
              subst hda
              obtain ⟨bd', od', e5, dy0⟩ := (HD.out.below P3.out.b).at (k := y) (by rw [HID.out.len]; exact hy)
              injection e5 with e5; injection e5 with e6 e7; subst e6 e7
              rw [exy] at o0 o1
              dsimp only at o0 o1
              obtain ⟨z, hz⟩ : ∃ z, ws.getD i 0 = z := ⟨_, rfl⟩
              have hzb := HO.out.w i (by rw [HO.out.l]; exact hin')
              rw [hz] at u0 hzb
              obtain ⟨i1, hi1⟩ : ∃ i1, i + 1 = i1 := ⟨_, rfl⟩
              have HI := Lib.hid hi1; have HIN := Lib.hid hin
              have i00 : (0 : Int) ≤ (i : Int) := by omega
              have il : (i : Int) < (n : Int) := by omega
              have ik : (i : Int) < (k : Int) := by have h1 := HO.out.l; have h2 := HN.out; have h3 := HK.out; omega
              have f1 : (i : Int) + 1 = (i1 : Int) := by omega
              have f2 : IntKind.i64.wrap (i1 : Int) = (i1 : Int) := by rw [IntKind.wrap_i64]; have := HM.out.2; omega
              obtain ⟨xb, hxb⟩ : ∃ xb, wr.heap.size = xb := ⟨_, rfl⟩
              obtain ⟨W2, hW2⟩ : ∃ W2, wr.alloc (.cells #[.int .i64 (x : Int), .int .i64 (y : Int)] 47) = W2 := ⟨_, rfl⟩
              have r2 : Row W2 xb 47 [.int .i64 (x : Int), .int .i64 (y : Int)] := by rw [← hW2, ← hxb]; exact Row.new _ _ _
              have b2 : Below wr.heap.size wr W2 := by rw [← hW2]; exact (Below.refl _ _).alloc (Nat.le_refl _) _
              have x0 := r2.cell (i := 0) rfl; have x1 := r2.cell (i := 1) rfl
              have P4 := P3.out.keep b2
              obtain ⟨cx, fx⟩ := P4.u.at_ hx
              obtain ⟨cy, fy⟩ := P4.u.at_ hy
              obtain ⟨su, hsu⟩ : ∃ su, st.getD x 0 = su := ⟨_, rfl⟩
              obtain ⟨sy, hsy⟩ : ∃ sy, st.getD y 0 = sy := ⟨_, rfl⟩
              rw [hsu] at cx
              rw [hsy] at cy
              obtain ⟨du, hdu⟩ : ∃ du, dl.getD x 0 = du := ⟨_, rfl⟩
              obtain ⟨dy, hdy⟩ : ∃ dy, dl.getD y 0 = dy := ⟨_, rfl⟩
              have hd0 := HID.out.nonneg hx; have hd1 := HID.out.top x hx
              rw [hdu] at hd0 hd1 dx0
              rw [hdy] at dy0
              have u2 : W2.cell? ⟨bu, ou + i, none⟩ = some (.int .i64 z) := by rw [b2.cell (cell_lt u0)]; exact u0
              have dx2 : W2.cell? ⟨bd, od + x, none⟩ = some (.int .i64 du) := by rw [b2.cell (cell_lt dx0)]; exact dx0
              have dy2 : W2.cell? ⟨bd, od + y, none⟩ = some (.int .i64 dy) := by rw [b2.cell (cell_lt dy0)]; exact dy0
              have xx0 : (0 : Int) ≤ (x : Int) := by omega
              have xl : (x : Int) < (m : Int) := by omega
              have yy0 : (0 : Int) ≤ (y : Int) := by omega
              have yl : (y : Int) < (m : Int) := by omega
              have K4 := Lib.hid P4; have EXY := Lib.hid exy; have HZ := Lib.hid hz; have HDU := Lib.hid hdu; have HDY := Lib.hid hdy; have HSU := Lib.hid hsu; have HSY := Lib.hid hsy; have HX := Lib.hid hx; have HY := Lib.hid hy; have HIL := Lib.hid hin'; have X2 := Lib.hid r2
              obtain ⟨t, ht⟩ : ∃ t, du + z = t := ⟨_, rfl⟩
              have tw : IntKind.i64.wrap t = t := by rw [← ht]; rw [IntKind.wrap_i64]; unfold INF at hd1; omega
              have HT := Lib.hid ht
              clear hi1 hin hi hin' exy hz hdu hdy hsu hsy P4 r2 b2 hx hy hd0 hd1
              by_cases c1 : 0 ≤ z
              · have d1 : decide (0 ≤ z) = true := by simpa using c1
                by_cases c2 : su = (nn : Int)
                · have d2 : (su == (nn : Int)) = true := by simpa using c2
                  by_cases c3 : sy < 0
                  · have d3 : decide (sy < 0) = true := by simpa using c3
                    by_cases c4 : t = dy
                    · have d4 : (t == dy) = true := by simpa using c4
                      have PN : Hid (Bf ars ws dl m q nn i1 (st.set y (n1 : Int))) := by
                        have p := PS.out.put ⟨HIL.out, EXY.out, by rw [HZ.out]; exact c1, by rw [HZ.out, HDU.out, HDY.out, HT.out]; exact c4⟩ HX.out HY.out (by rw [HSU.out]; exact c2) (by rw [HSY.out]; exact c3)
                        rw [HI.out, ve] at p; exact p
                      clear c1 c2 c3 c4 hzb PS
                      go_wp2_with fail
                      go_quiet (fail)
                      obtain ⟨W5, hW5⟩ : ∃ W5, W2.drewN nq = W5 := ⟨_, rfl⟩
                      have b5 : Below W2.heap.size W2 W5 := by rw [← hW5]; exact below_drewN (Below.refl _ _) nq
                      have P5 := K4.out.keep b5
                      have r5 := X2.out.below b5 X2.out.lt
                      have x0' := r5.cell (i := 0) rfl; have x1' := r5.cell (i := 1) rfl
                      obtain ⟨cy', fy'⟩ := P5.u.at_ HY.out
                      rw [HSY.out] at cy'
                      obtain ⟨W6, hW6⟩ : ∃ W6, W5.setCell ⟨g, y, none⟩ (.int .i64 (n1 : Int)) = W6 := ⟨_, rfl⟩
                      have P6 : Hid (BT w W6 gB g m cu [.int .i64 (m : Int), .slice (some ⟨b, off, none⟩) n cap] (st.set y (n1 : Int))) := by have p := P5.set (i := y) (n1 : Int); rw [hW6] at p; exact p
                      clear P5 r5 b5 x0 x1 cx fx cy fy u2 dx2 dy2 g0 g1 o0 o1 u0 dx0 dy0 hW2
                      go_wp2_with fail
                      try go_region
                      all_goals
                        (try go_wp2_with fail)
                        go_roundw
                        case measure => simp [intOf]; have := HI.out; have := HIN.out; omega
                        case rel => exact ⟨i1, _, by have := HI.out; have := HIN.out; omega, rfl, P6.out.keep (by (repeat (first | exact Below.refl _ _ | (refine Below.drew ?_) | (refine below_drewN ?_ _)))), PN⟩
                    · have d4 : (t == dy) = false := by simpa using c4
                      have PN : Hid (Bf ars ws dl m q nn i1 st) := by
                        have p := PS.out.pass (i := i) (fun u v t _ _ hn => by
                          obtain ⟨_, e, hw, ht⟩ := t
                          rw [EXY.out] at e; injection e with e1 e2
                          obtain rfl : x = u := by omega
                          obtain rfl : y = v := by omega
                          rw [HZ.out] at hw ht; rw [HDU.out, HDY.out] at ht; rw [HSU.out] at hn; rw [HSY.out]; omega)
                        rw [HI.out] at p; exact p
                      clear c1 c2 c3 c4 hzb PS
                      go_wp2_with fail
                      go_quiet (fail)
                      go_wp2_with fail
                      go_roundw
                      case measure => simp [intOf]; have := HI.out; have := HIN.out; omega
                      case rel => exact ⟨i1, st, by have := HI.out; have := HIN.out; omega, rfl, K4.out.keep (below_drewN (Below.refl _ _) _), PN⟩
                  · have d3 : decide (sy < 0) = false := by simpa using c3
                    have PN : Hid (Bf ars ws dl m q nn i1 st) := by
                      have p := PS.out.pass (i := i) (fun u v t _ _ hn => by
                        obtain ⟨_, e, hw, ht⟩ := t
                        rw [EXY.out] at e; injection e with e1 e2
                        obtain rfl : x = u := by omega
                        obtain rfl : y = v := by omega
                        rw [HZ.out] at hw ht; rw [HDU.out, HDY.out] at ht; rw [HSU.out] at hn; rw [HSY.out]; omega)
                      rw [HI.out] at p; exact p
                    clear c1 c2 c3 hzb PS
                    go_wp2_with fail
                    go_quiet (fail)
                    go_wp2_with fail
                    go_roundw
                    case measure => simp [intOf]; have := HI.out; have := HIN.out; omega
                    case rel => exact ⟨i1, st, by have := HI.out; have := HIN.out; omega, rfl, K4.out.keep (below_drewN (Below.refl _ _) _), PN⟩
                · have d2 : (su == (nn : Int)) = false := by simpa using c2
                  have PN : Hid (Bf ars ws dl m q nn i1 st) := by
                    have p := PS.out.pass (i := i) (fun u v t _ _ hn => by
                      obtain ⟨_, e, hw, ht⟩ := t
                      rw [EXY.out] at e; injection e with e1 e2
                      obtain rfl : x = u := by omega
                      obtain rfl : y = v := by omega
                      rw [HZ.out] at hw ht; rw [HDU.out, HDY.out] at ht; rw [HSU.out] at hn; rw [HSY.out]; omega)
                    rw [HI.out] at p; exact p
                  clear c1 c2 hzb PS
                  go_wp2_with fail
                  go_quiet (fail)
                  go_wp2_with fail
                  go_roundw
                  case measure => simp [intOf]; have := HI.out; have := HIN.out; omega
                  case rel => exact ⟨i1, st, by have := HI.out; have := HIN.out; omega, rfl, K4.out.keep (below_drewN (Below.refl _ _) _), PN⟩
              · have d1 : decide (0 ≤ z) = false := by simpa using c1
                have PN : Hid (Bf ars ws dl m q nn i1 st) := by
                  have p := PS.out.pass (i := i) (fun u v t _ _ hn => by
                    obtain ⟨_, e, hw, ht⟩ := t
                    rw [EXY.out] at e; injection e with e1 e2
                    obtain rfl : x = u := by omega
                    obtain rfl : y = v := by omega
                    rw [HZ.out] at hw ht; rw [HDU.out, HDY.out] at ht; rw [HSU.out] at hn; rw [HSY.out]; omega)
                  rw [HI.out] at p; exact p
                clear c1 hzb PS
                go_wp2_with fail
                go_quiet (fail)
                go_wp2_with fail
                go_roundw
                case measure => simp [intOf]; have := HI.out; have := HIN.out; omega
                case rel => exact ⟨i1, st, by have := HI.out; have := HIN.out; omega, rfl, K4.out.keep (below_drewN (Below.refl _ _) _), PN⟩
            · have il : ¬ (i : Int) < (n : Int) := by omega
              obtain rfl : n = i := by omega
              have NX : Hid (Bf ars ws dl m q n1 0 st) := by have p := PS.out; rw [← HN.out] at p; have p := p.next; rw [HN1.out] at p; exact p
              have P9 := P3
              clear hi hin PS P3
              go_wp2_with fail
              go_roundw
              case measure => simp [intOf]; have := HN1.out; have := HNM.out; omega
              case rel => exact ⟨n1, st, by have := HN1.out; have := HNM.out; omega, rfl, P9, NX⟩
        · have vl : ¬ (nn : Int) < (m : Int) := by omega
          obtain rfl : m = nn := by omega
          clear hnn hnm
          go_wp2_with fail
          have HS0 : Hid (0 ≤ st0.getD r 0) := by
            have a : Wk ars ws q r (dl.getD r 0) := by
              rcases HID.out.att r HR.out with h | h
              · have h2 := HF.out; omega
              · exact h
            exact shut_all HO.out.arc HID.out BS.out.shut (by have h := BS.out.zero; omega) a HR.out rfl HF.out
          obtain ⟨WA, hWA⟩ : ∃ WA, WA = wr := ⟨_, rfl⟩
          subst hWA
          go_wp2_with fail
          clear g0 g1
          go_loopw [4, 16] (fun s4 s16 wq => ∃ (x : Nat) (L : List Int), s4 = .int .i64 (x : Int) ∧ Hid (x < m ∧ 0 ≤ st0.getD x 0) ∧ Hid ((L.length : Int) + st0.getD x 0 ≤ (m : Int) + 1) ∧ Hid (wq.ownsRow WA.heap.size 3 1 s16 L.length (nums L)) ∧ Hid (Below WA.heap.size WA wq)) (fun s4 _ _ => (st0.getD (intOf s4).toNat 0).toNat)
          case atStart => exact ⟨r, [], rfl, ⟨HR.out, HS0.out⟩, by show _ ≤ _; have h := BS.out.val r HR.out; have h2 := HS0.out; simp only [List.length_nil]; omega, World.ownsRow_nil _ _ _ _, Below.refl _ _⟩
          case round =>
            obtain ⟨x, L, rfl, HX, HL, OW, BW⟩ := hrel
            obtain ⟨ab, cb, hb⟩ := row_formB OW.out
            subst hb
            obtain ⟨le, hle⟩ : ∃ le, L.length = le := ⟨_, rfl⟩
            have OW' : Hid (wr.ownsRow WA.heap.size 3 1 (.slice ab le cb) le (nums L)) := by have h := OW.out; rw [hle] at h; exact h
            have HL' : Hid ((le : Int) + st0.getD x 0 ≤ (m : Int) + 1) := by have h := HL.out; rw [hle] at h; exact h
            rw [hle]
            have HE := Lib.hid hle
            have LM : Hid (le ≤ m + 1) := by have h1 := HL'.out; have h2 := HX.out.2; show le ≤ m + 1; omega
            clear hle OW HL
            have PB := Lib.hid (P2.out.keep BW.out)
            have g0 := PB.out.r.cell (i := 0) rfl; have g1 := PB.out.r.cell (i := 1) rfl
            obtain ⟨WB, hWB⟩ : ∃ WB, WB = wr := ⟨_, rfl⟩
            subst hWB
            by_cases hxq : x = q
            · have xe : ((x : Int) != (q : Int)) = false := by rw [hxq]; simp
              clear hxq
              have le1 : IntKind.i64.wrap ((le : Int) - 1) = (le : Int) - 1 := by rw [IntKind.wrap_i64]; have h1 := HM.out.1; have h2 := LM.out; omega
              obtain ⟨z0, hz0⟩ : ∃ z0, (le : Int) - 1 = z0 := ⟨_, rfl⟩
              rw [hz0] at le1
              have HZ0 := Lib.hid hz0
              go_wp2_with fail
              clear g0 g1 hz0 le1
              go_loopw [19, 20] (fun s19 s20 wq => ∃ (z : Int) (l2 : List Int), s20 = .int .i64 z ∧ Hid (-1 ≤ z ∧ z < (le : Int)) ∧ Hid ((l2.length : Int) + z < (le : Int)) ∧ Hid (wq.ownsRow WB.heap.size 3 1 s19 l2.length (nums l2)) ∧ Hid (Below WB.heap.size WB wq)) (fun _ s20 _ => (intOf s20 + 1).toNat)
              case atStart => exact ⟨z0, [], rfl, by have h := HZ0.out; exact (show Hid _ from ⟨by omega, by omega⟩), by have h := HZ0.out; show _ < _; simp only [List.length_nil]; omega, World.ownsRow_nil _ _ _ _, Below.refl _ _⟩
              case round =>
                obtain ⟨z, l2, rfl, HZ, HL2, O2, B2⟩ := hrel
                obtain ⟨ad, cd, hd⟩ := row_formB O2.out
                subst hd
                obtain ⟨k2, hk2⟩ : ∃ k2, l2.length = k2 := ⟨_, rfl⟩
                have O2' : Hid (wr.ownsRow WB.heap.size 3 1 (.slice ad k2 cd) k2 (nums l2)) := by have h := O2.out; rw [hk2] at h; exact h
                have HL3 : Hid ((k2 : Int) + z < (le : Int)) := by have h := HL2.out; rw [hk2] at h; exact h
                rw [hk2]
                have HK2 := Lib.hid hk2
                clear hk2 O2 HL2
                by_cases hz : 0 ≤ z
                · obtain ⟨kz, rfl⟩ : ∃ kz : Nat, z = (kz : Int) := ⟨z.toNat, by omega⟩
                  have zl : (kz : Int) < (le : Int) := HZ.out.2
                  obtain ⟨gb, cg, hv, hg, nb⟩ := nums_of OW'.out HE.out (by omega)
                  injection hv with hv1 _ hv2
                  subst hv1 hv2
                  obtain ⟨cz, fz⟩ := (nb.same (B2.out.block _ nb.lt)).at_ (i := kz) (by omega)
                  obtain ⟨bz, hbz⟩ : ∃ bz, L.getD kz 0 = bz := ⟨_, rfl⟩
                  rw [hbz] at cz
                  obtain ⟨z1, hz1⟩ : ∃ z1, (kz : Int) - 1 = z1 := ⟨_, rfl⟩
                  have zw : IntKind.i64.wrap z1 = z1 := by rw [← hz1]; rw [IntKind.wrap_i64]; have h1 := HM.out.1; have h2 := LM.out; omega
                  have HZ1 := Lib.hid hz1
                  have SB : Hid (WB.heap.size ≤ wr.heap.size) := B2.out.size
                  clear nb hg hbz
                  go_wp2_with (at_builtin; refine wpList_append_own_at _ rfl _ _ 25 rfl WB.heap.size 3 i0 (.int .i64 0) 1 8 Try.underlying25 II.out Z0.out Z1.out Z2.out rfl (by decide) (.slice ad k2 cd) k2 (nums l2) rfl (O2'.out.alloc _) ⟨wr.heap.size, 0, none⟩ 1 1 [.int .i64 bz] rfl rfl (cell_one_new _ _ _) (by simp [Value.oneCell']) (by have h1 := HM.out.1; have h2 := LM.out; have h3 := HL3.out; have h4 := HZ.out; unfold maxLen; omega) (by have h1 := HM.out.1; have h2 := LM.out; have h3 := HL3.out; have h4 := HZ.out; omega) (by have := SB.out; simp <;> omega) ?_; intro v' w7 hown' hgrow hnil hloc; have O7 := Lib.hid hown'; have G7 := Lib.hid hgrow; clear hown' hgrow hnil hloc)
                  have O8 : Hid (w7.ownsRow WB.heap.size 3 1 v' (l2 ++ [bz]).length (nums (l2 ++ [bz]))) := by
                    show World.ownsRow _ _ _ _ _ _ _
                    rw [nums_append, List.length_append, HK2.out]; exact O7.out
                  have B8 : Hid (Below WB.heap.size WB w7) := (B2.out.alloc SB.out _).grown G7.out (by have := SB.out; simp <;> omega) (fun q e => (O2'.out.lt q e).1)
                  go_roundw
                  case measure => simp [intOf]; have h := HZ1.out; omega
                  case rel => exact ⟨z1, l2 ++ [bz], rfl, by have h := HZ1.out; have h2 := HZ.out; exact (show Hid _ from ⟨by omega, by omega⟩), by have h := HZ1.out; have h2 := HL3.out; have h3 := HK2.out; show _ < _; rw [List.length_append, h3]; simp only [List.length_cons, List.length_nil]; omega, O8, B8⟩
                · have BF := Lib.hid (BW.out.trans (B2.out.mono BW.out.size))
                  go_wp2_with fail
                  go_ret
                  exact ⟨⟨_, _, _, rfl⟩, by rw [← hgB]; exact P2.out.b.trans (BF.out.mono P2.out.b.size)⟩
            · have xe : ((x : Int) != (q : Int)) = true := by simp; omega
              have HXQ := Lib.hid hxq
              obtain ⟨sx, hsx⟩ : ∃ sx, st0.getD x 0 = sx := ⟨_, rfl⟩
              have HSX := Lib.hid hsx
              have HSXM : Hid (sx ≤ (m : Int) + 1 ∧ 0 < sx) := by
                have h := BS.out.val x HX.out.1; have h2 := HX.out.2; have h3 := HSX.out
                have h4 : st0.getD x 0 = 0 → x = q := BS.out.only x HX.out.1
                have h5 : ¬ st0.getD x 0 = 0 := fun e => hxq (h4 e)
                exact (show Hid _ from ⟨by omega, by omega⟩)
              obtain ⟨jB, uB, huB, tB, eB⟩ := BS.out.back x HX.out.1 (by have := HSXM.out; omega)
              have JB := Lib.hid tB.1; have TB := Lib.hid tB; have EB := Lib.hid eB; have UB := Lib.hid huB
              obtain ⟨dx, hdx⟩ : ∃ dx, dl.getD x 0 = dx := ⟨_, rfl⟩
              have HDX := Lib.hid hdx
              clear hxq tB eB huB hsx hdx
              go_wp2_with fail
              clear g0 g1
              go_loopw [4, 16, 17] (fun s4 s16 s17 wq => ∃ i : Nat, i ≤ n ∧ s17 = .int .i64 (i : Int) ∧ s4 = .int .i64 (x : Int) ∧ s16 = .slice ab le cb ∧ Hid (∀ j u0, j < i → u0 < m → TA ars ws dl j u0 x → st0.getD u0 0 + 1 = st0.getD x 0 → False) ∧ Hid (Below WB.heap.size WB wq)) (fun _ _ s17 _ => n - (intOf s17).toNat)
              case atStart => exact ⟨0, Nat.zero_le _, rfl, rfl, rfl, fun j u0 h => absurd h (Nat.not_lt_zero _), Below.refl _ _⟩
              case round =>
                obtain ⟨i, hi, rfl, rfl, rfl, NF, BI⟩ := hrel
                have P3 := Lib.hid (PB.out.keep BI.out)
                have g0 := P3.out.r.cell (i := 0) rfl; have g1 := P3.out.r.cell (i := 1) rfl
                by_cases hin : i < n
                · have hin' : i < ars.length := by rw [HN.out]; exact hin
                  obtain ⟨u, y, exy, hu, hy⟩ := arc_nat HO.out.arc hin'
                  obtain ⟨b, off, rfl, o0, o1⟩ := (HA.out.below P3.out.b).at_ hin'
                  obtain ⟨bu, ou, hua, u0⟩ := (HU.out.below P3.out.b).at (k := i) (by rw [HO.out.l]; exact hin')
                  subst hua
                  obtain ⟨bd, od, hda, dx0⟩ := (HD.out.below P3.out.b).at (k := u) (by rw [HID.out.len]; exact hu)
                  subst hda
                  obtain ⟨bd', od', e5, dy0⟩ := (HD.out.below P3.out.b).at (k := x) (by rw [HID.out.len]; exact HX.out.1)
                  injection e5 with e5; injection e5 with e6 e7; subst e6 e7
                  rw [exy] at o0 o1
                  dsimp only at o0 o1
                  obtain ⟨yz, hyz⟩ : ∃ yz : Int, (y : Int) = yz := ⟨_, rfl⟩
                  rw [hyz] at exy o1
                  clear hyz
                  obtain ⟨z, hz⟩ : ∃ z, ws.getD i 0 = z := ⟨_, rfl⟩
                  have hzb := HO.out.w i (by rw [HO.out.l]; exact hin')
                  rw [hz] at u0 hzb
                  obtain ⟨i1, hi1⟩ : ∃ i1, i + 1 = i1 := ⟨_, rfl⟩
                  have HI := Lib.hid hi1; have HIN := Lib.hid hin
                  have i00 : (0 : Int) ≤ (i : Int) := by omega
                  have il : (i : Int) < (n : Int) := by omega
                  have ik : (i : Int) < (k : Int) := by have h1 := HO.out.l; have h2 := HN.out; have h3 := HK.out; omega
                  have f1 : (i : Int) + 1 = (i1 : Int) := by omega
                  have f2 : IntKind.i64.wrap (i1 : Int) = (i1 : Int) := by rw [IntKind.wrap_i64]; have := HM.out.2; omega
                  obtain ⟨xb, hxb⟩ : ∃ xb, wr.heap.size = xb := ⟨_, rfl⟩
                  have HXB := Lib.hid hxb
                  obtain ⟨W2, hW2⟩ : ∃ W2, wr.alloc (.cells #[.int .i64 (u : Int), .int .i64 yz] 47) = W2 := ⟨_, rfl⟩
                  have r2 : Row W2 xb 47 [.int .i64 (u : Int), .int .i64 yz] := by rw [← hW2, ← hxb]; exact Row.new _ _ _
                  have b2 : Below wr.heap.size wr W2 := by rw [← hW2]; exact (Below.refl _ _).alloc (Nat.le_refl _) _
                  have x0 := r2.cell (i := 0) rfl; have x1 := r2.cell (i := 1) rfl
                  have P4 := P3.out.keep b2
                  obtain ⟨cx, fx⟩ := P4.u.at_ hu
                  obtain ⟨cy, fy⟩ := P4.u.at_ HX.out.1
                  obtain ⟨su, hsu⟩ : ∃ su, st0.getD u 0 = su := ⟨_, rfl⟩
                  rw [hsu] at cx
                  rw [HSX.out] at cy
                  obtain ⟨du, hdu⟩ : ∃ du, dl.getD u 0 = du := ⟨_, rfl⟩
                  have hd0 := HID.out.nonneg hu; have hd1 := HID.out.top u hu
                  rw [hdu] at hd0 hd1 dx0
                  rw [HDX.out] at dy0
                  have u2 : W2.cell? ⟨bu, ou + i, none⟩ = some (.int .i64 z) := by rw [b2.cell (cell_lt u0)]; exact u0
                  have dx2 : W2.cell? ⟨bd, od + u, none⟩ = some (.int .i64 du) := by rw [b2.cell (cell_lt dx0)]; exact dx0
                  have dy2 : W2.cell? ⟨bd, od + x, none⟩ = some (.int .i64 dx) := by rw [b2.cell (cell_lt dy0)]; exact dy0
                  have xx0 : (0 : Int) ≤ (u : Int) := by omega
                  have xl : (u : Int) < (m : Int) := by omega
                  have yy0 : (0 : Int) ≤ (x : Int) := by omega
                  have yl : (x : Int) < (m : Int) := by have := HX.out.1; omega
                  have EXY := Lib.hid exy; have HZ := Lib.hid hz; have HDU := Lib.hid hdu; have HSU := Lib.hid hsu; have HUM := Lib.hid hu; have HIL := Lib.hid hin'; have X2 := Lib.hid r2
                  have HSU0 : Hid (su = -1 ∨ (0 ≤ su ∧ su ≤ (m : Int) + 1)) := by have h := BS.out.val u hu; rw [hsu] at h; exact h
                  obtain ⟨t, ht⟩ : ∃ t, du + z = t := ⟨_, rfl⟩
                  have tw : IntKind.i64.wrap t = t := by rw [← ht]; rw [IntKind.wrap_i64]; unfold INF at hd1; omega
                  have HT := Lib.hid ht
                  obtain ⟨s1, hs1⟩ : ∃ s1, su + 1 = s1 := ⟨_, rfl⟩
                  have sw : IntKind.i64.wrap s1 = s1 := by rw [← hs1]; rw [IntKind.wrap_i64]; have h := HSU0.out; have h2 := HM.out.1; omega
                  have HS1 := Lib.hid hs1
                  have BI2 := Lib.hid (BI.out.trans (b2.mono BI.out.size))
                  clear hi1 hin hi hin' exy hz hdu hsu P4 r2 b2 hu hy hd0 hd1
                  by_cases c1 : 0 ≤ z
                  · have d1 : decide (0 ≤ z) = true := by simpa using c1
                    by_cases c2 : yz = (x : Int)
                    · have d2 : (yz == (x : Int)) = true := by simpa using c2
                      by_cases c3 : 0 ≤ su
                      · have d3 : decide (0 ≤ su) = true := by simpa using c3
                        by_cases c4 : s1 = sx
                        · have d4 : (s1 == sx) = true := by simpa using c4
                          by_cases c5 : t = dx
                          · have d5 : (t == dx) = true := by simpa using c5
                            have C3 := Lib.hid c3; have C4 := Lib.hid c4
                            clear c1 c2 c3 c4 c5 hzb NF
                            go_wp2_with fail
                            go_quiet (fail)
                            obtain ⟨W5, hW5⟩ : ∃ W5, W2.drewN nq = W5 := ⟨_, rfl⟩
                            have b5 : Below W2.heap.size W2 W5 := by rw [← hW5]; exact below_drewN (Below.refl _ _) nq
                            have r5 := X2.out.below b5 X2.out.lt
                            have x0' := Lib.hid (r5.cell (i := 0) rfl)
                            have B5 := Lib.hid (BI2.out.trans (b5.mono BI2.out.size))
                            have O5 := Lib.hid (own_below OW'.out B5.out)
                            have BA := Lib.hid (BW.out.trans (B5.out.mono BW.out.size))
                            have SB : Hid (WA.heap.size ≤ W5.heap.size) := BA.out.size
                            have NX : Hid (∀ o, (W5.alloc o).cell? ⟨xb, 0, none⟩ = some (.int .i64 (u : Int))) := fun o => ((below_al W5 o).cell (cell_lt x0'.out)).trans x0'.out
                            have NE : Hid (some xb ≠ Value.ownBlock (.slice ab le cb)) := fun e => by
                              have h1 := (OW'.out.lt xb e.symm).2; have h2 := BI.out.size; have h3 := HXB.out; omega
                            clear r5 b5 x0 x1 cx fx cy fy u2 dx2 dy2 g0 g1 o0 o1 u0 dx0 dy0 hW2
                            go_wp2_with (at_builtin; refine wpList_append_own_at _ rfl _ _ 25 rfl WA.heap.size 3 i0 (.int .i64 0) 1 8 Try.underlying25 II.out Z0.out Z1.out Z2.out rfl (by decide) (.slice ab le cb) le (nums L) rfl (O5.out.alloc _) ⟨W5.heap.size, 0, none⟩ 1 1 [.int .i64 (i : Int)] rfl rfl (cell_one_new _ _ _) (by simp [Value.oneCell']) (by have h1 := HM.out.1; have h2 := LM.out; unfold maxLen; omega) (by have h1 := HM.out.1; have h2 := LM.out; omega) (by have := SB.out; simp <;> omega) ?_; intro v' w7 hown' hgrow hnil hloc; have O7 := Lib.hid hown'; have G7 := Lib.hid hgrow; have x07 : w7.cell? ⟨xb, 0, none⟩ = some (.int .i64 (u : Int)) := hgrow.cell (NX.out _) NE.out; clear hown' hgrow hnil hloc)
                            have O8 : Hid (w7.ownsRow WA.heap.size 3 1 v' (L ++ [(i : Int)]).length (nums (L ++ [(i : Int)]))) := by
                              show World.ownsRow _ _ _ _ _ _ _
                              rw [nums_append, List.length_append, HE.out]; exact O7.out
                            have B8 : Hid (Below WA.heap.size WA w7) := (BA.out.alloc SB.out _).grown G7.out (by have := SB.out; simp <;> omega) (fun q e => (OW'.out.lt q e).1)
                            go_roundw
                            case measure => show (st0.getD u 0).toNat < (st0.getD x 0).toNat; rw [HSU.out, HSX.out]; have h1 := C3.out; have h2 := C4.out; have h3 := HS1.out; omega
                            case rel => exact ⟨u, L ++ [(i : Int)], rfl, (show Hid _ from ⟨HUM.out, by rw [HSU.out]; exact C3.out⟩), by have h1 := C4.out; have h2 := HS1.out; have h3 := HL'.out; have h4 := HE.out; rw [HSX.out] at h3; show _ ≤ _; rw [List.length_append, h4, HSU.out]; simp only [List.length_cons, List.length_nil]; omega, O8, B8⟩
                          · have d5 : (t == dx) = false := by simpa using c5
                            have NN : Hid (∀ j u0, j < i1 → u0 < m → TA ars ws dl j u0 x → st0.getD u0 0 + 1 = st0.getD x 0 → False) := by
                              intro j uu hj hu0 tj ej
                              by_cases hji : j < i
                              · exact NF.out j uu hji hu0 tj ej
                              · obtain rfl : j = i := by have := HI.out; omega
                                obtain ⟨_, e, hw, ht⟩ := tj
                                rw [EXY.out] at e; injection e with e1 e2
                                obtain rfl : u = uu := by omega
                                rw [HZ.out] at hw ht; rw [HDU.out, HDX.out] at ht; rw [HSU.out, HSX.out] at ej
                                have h1 := HT.out; have h2 := HS1.out; have h3 := HSU0.out
                                omega
                            clear c1 c2 c3 c4 c5 hzb NF
                            go_wp2_with fail
                            go_quiet (fail)
                            go_wp2_with fail
                            go_roundw
                            case measure => simp [intOf]; have := HI.out; have := HIN.out; omega
                            case rel => exact ⟨i1, by have := HI.out; have := HIN.out; omega, rfl, rfl, rfl, NN, BI2.out.trans (below_drewN (Below.refl _ _) _ |>.mono BI2.out.size)⟩
                        · have d4 : (s1 == sx) = false := by simpa using c4
                          have NN : Hid (∀ j u0, j < i1 → u0 < m → TA ars ws dl j u0 x → st0.getD u0 0 + 1 = st0.getD x 0 → False) := by
                            intro j uu hj hu0 tj ej
                            by_cases hji : j < i
                            · exact NF.out j uu hji hu0 tj ej
                            · obtain rfl : j = i := by have := HI.out; omega
                              obtain ⟨_, e, hw, ht⟩ := tj
                              rw [EXY.out] at e; injection e with e1 e2
                              obtain rfl : u = uu := by omega
                              rw [HZ.out] at hw ht; rw [HDU.out, HDX.out] at ht; rw [HSU.out, HSX.out] at ej
                              have h1 := HT.out; have h2 := HS1.out; have h3 := HSU0.out
                              omega
                          clear c1 c2 c3 c4 hzb NF
                          go_wp2_with fail
                          go_quiet (fail)
                          go_wp2_with fail
                          go_roundw
                          case measure => simp [intOf]; have := HI.out; have := HIN.out; omega
                          case rel => exact ⟨i1, by have := HI.out; have := HIN.out; omega, rfl, rfl, rfl, NN, BI2.out.trans (below_drewN (Below.refl _ _) _ |>.mono BI2.out.size)⟩
                      · have d3 : decide (0 ≤ su) = false := by simpa using c3
                        have NN : Hid (∀ j u0, j < i1 → u0 < m → TA ars ws dl j u0 x → st0.getD u0 0 + 1 = st0.getD x 0 → False) := by
                          intro j uu hj hu0 tj ej
                          by_cases hji : j < i
                          · exact NF.out j uu hji hu0 tj ej
                          · obtain rfl : j = i := by have := HI.out; omega
                            obtain ⟨_, e, hw, ht⟩ := tj
                            rw [EXY.out] at e; injection e with e1 e2
                            obtain rfl : u = uu := by omega
                            rw [HZ.out] at hw ht; rw [HDU.out, HDX.out] at ht; rw [HSU.out, HSX.out] at ej
                            have h1 := HT.out; have h2 := HS1.out; have h3 := HSU0.out
                            (have h4 := HSXM.out; omega)
                        clear c1 c2 c3 hzb NF
                        go_wp2_with fail
                        go_quiet (fail)
                        go_wp2_with fail
                        go_roundw
                        case measure => simp [intOf]; have := HI.out; have := HIN.out; omega
                        case rel => exact ⟨i1, by have := HI.out; have := HIN.out; omega, rfl, rfl, rfl, NN, BI2.out.trans (below_drewN (Below.refl _ _) _ |>.mono BI2.out.size)⟩
                    · have d2 : (yz == (x : Int)) = false := by simpa using c2
                      have NN : Hid (∀ j u0, j < i1 → u0 < m → TA ars ws dl j u0 x → st0.getD u0 0 + 1 = st0.getD x 0 → False) := by
                        intro j uu hj hu0 tj ej
                        by_cases hji : j < i
                        · exact NF.out j uu hji hu0 tj ej
                        · obtain rfl : j = i := by have := HI.out; omega
                          obtain ⟨_, e, hw, ht⟩ := tj
                          rw [EXY.out] at e; injection e with e1 e2
                          obtain rfl : u = uu := by omega
                          rw [HZ.out] at hw ht; rw [HDU.out, HDX.out] at ht; rw [HSU.out, HSX.out] at ej
                          have h1 := HT.out; have h2 := HS1.out; have h3 := HSU0.out
                          exact c2 (by omega)
                      clear c1 c2 hzb NF
                      go_wp2_with fail
                      go_quiet (fail)
                      go_wp2_with fail
                      go_roundw
                      case measure => simp [intOf]; have := HI.out; have := HIN.out; omega
                      case rel => exact ⟨i1, by have := HI.out; have := HIN.out; omega, rfl, rfl, rfl, NN, BI2.out.trans (below_drewN (Below.refl _ _) _ |>.mono BI2.out.size)⟩
                  · have d1 : decide (0 ≤ z) = false := by simpa using c1
                    have NN : Hid (∀ j u0, j < i1 → u0 < m → TA ars ws dl j u0 x → st0.getD u0 0 + 1 = st0.getD x 0 → False) := by
                      intro j uu hj hu0 tj ej
                      by_cases hji : j < i
                      · exact NF.out j uu hji hu0 tj ej
                      · obtain rfl : j = i := by have := HI.out; omega
                        obtain ⟨_, e, hw, ht⟩ := tj
                        rw [EXY.out] at e; injection e with e1 e2
                        obtain rfl : u = uu := by omega
                        rw [HZ.out] at hw ht; rw [HDU.out, HDX.out] at ht; rw [HSU.out, HSX.out] at ej
                        have h1 := HT.out; have h2 := HS1.out; have h3 := HSU0.out
                        omega
                    clear c1 hzb NF
                    go_wp2_with fail
                    go_quiet (fail)
                    go_wp2_with fail
                    go_roundw
                    case measure => simp [intOf]; have := HI.out; have := HIN.out; omega
                    case rel => exact ⟨i1, by have := HI.out; have := HIN.out; omega, rfl, rfl, rfl, NN, BI2.out.trans (below_drewN (Below.refl _ _) _ |>.mono BI2.out.size)⟩
                · exfalso
                  exact NF.out jB uB (by have h1 := JB.out; have h2 := HN.out; omega) UB.out TB.out EB.out
end Go.Proofs.Ytgofachgoflgnaa
