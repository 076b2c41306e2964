/- dijkstra: the reference's From and To. -/
import Derived.Test.YtgofachgoflgnaaDg
namespace Go.Proofs.Ytgofachgoflgnaa
open Go.ChangeShapes Go.WideShapes Go.ChangeAt Go.RowKit Go.Joins Go.Deep

def msum : List Int → Nat
  | [] => 0
  | x :: l => x.toNat + msum l
theorem msum_set : ∀ (l : List Int) (v : Nat) (x : Int), v < l.length → msum (l.set v x) + (l.getD v 0).toNat = msum l + x.toNat := by
  intro l
  induction l with
  | nil => intro v x h; simp at h
  | cons y l ih =>
    intro v x h
    cases v with
    | zero => simp [msum]; omega
    | succ v =>
      have := ih v x (by simpa using h)
      have e : (y :: l).getD (v + 1) 0 = l.getD v 0 := rfl
      rw [e, List.set_cons_succ, msum, msum]; omega
structure BT (w wr : World) (gB g m cap : Nat) (cs : List Value) (d : List Int) : Prop where
  u : Nums wr g m cap d
  r : Row wr gB 24 cs
  b : Below w.heap.size w wr
  gg : w.heap.size ≤ g
  ne : gB ≠ g
theorem BT.keep {w wr W : World} {gB g m cap : Nat} {cs : List Value} {d : List Int} (p : BT w wr gB g m cap cs d) (b : Below wr.heap.size wr W) : BT w W gB g m cap cs d :=
  ⟨p.u.same (b.block _ p.u.lt), p.r.below b p.r.lt, p.b.trans (b.mono p.b.size), p.gg, p.ne⟩
theorem BT.set {w wr : World} {gB g m cap i : Nat} {cs : List Value} {d : List Int} (p : BT w wr gB g m cap cs d) (x : Int) : BT w (wr.setCell ⟨g, i, none⟩ (.int .i64 x)) gB g m cap cs (d.set i x) :=
  ⟨p.u.set x, p.r.other p.ne, p.b.setCell p.gg _, p.gg, p.ne⟩
theorem own_base {w : World} {B B' e size : Nat} {v : Value} {n : Nat} {xs : List Value} (h : w.ownsRow B e size v n xs) (hb : B' ≤ B) : w.ownsRow B' e size v n xs := by
  refine ⟨h.1, ?_⟩
  rcases h.2 with h0 | ⟨g, cap, cur, e, h1, h2⟩
  · exact Or.inl h0
  · exact Or.inr ⟨g, cap, cur, e, by omega, h2⟩
theorem nums_of {w : World} {B n : Nat} {v : Value} {l : List Int} (h : w.ownsRow B 3 1 v n (nums l)) (hl : l.length = n) (h0 : 0 < n) : ∃ g cap, v = .slice (some ⟨g, 0, none⟩) n cap ∧ B ≤ g ∧ Nums w g n cap l := by
  rcases h.2 with ⟨_, e⟩ | ⟨g, cap, cur, rfl, h1, h2⟩
  · omega
  · exact ⟨g, cap, rfl, h1, ⟨own_base h (Nat.zero_le _), hl⟩⟩
theorem row_formB {w : World} {base : Nat} {v : Value} {n : Nat} {xs : List Value} (h : w.ownsRow base 3 1 v n xs) : ∃ a cap, v = .slice a n cap := by
  rcases h.2 with ⟨rfl, rfl⟩ | ⟨g, cap, cur, rfl, _⟩
  · exact ⟨none, 0, rfl⟩
  · exact ⟨_, cap, rfl⟩
def reps (k : Nat) : List Int := List.replicate k INF
theorem reps_succ (k : Nat) : nums (reps (k + 1)) = nums (reps k) ++ [.int .i64 1152921504606846976] := by
  unfold reps nums; rw [List.replicate_succ', List.map_append]; rfl
/- what one pass knows behind i arcs: the row at its beginning, the row now, whether something has changed -/
structure Pass (ars : List (Int × Int)) (ws : List Int) (m s i : Nat) (d0 d : List Int) (ag : Bool) : Prop where
  rx : Rx ars ws m s d
  yes : ag = true → msum d < msum d0
  no : ag = false → d = d0 ∧ ∀ j, j < i → Tight ars ws d j
theorem Pass.skip {ars : List (Int × Int)} {ws : List Int} {m s i : Nat} {d0 d : List Int} {ag : Bool} (P : Pass ars ws m s i d0 d ag) (h : Tight ars ws d i) : Pass ars ws m s (i + 1) d0 d ag :=
  ⟨P.rx, P.yes, fun e => ⟨(P.no e).1, fun j hj => by
    by_cases k : j = i
    · rw [k]; exact h
    · exact (P.no e).2 j (by omega)⟩⟩
theorem Pass.take {ars : List (Int × Int)} {ws : List Int} {m s i u v : Nat} {d0 d : List Int} {ag : Bool} (P : Pass ars ws m s i d0 d ag) (hi : i < ars.length) (e : ars.getD i (0, 0) = ((u : Int), (v : Int))) (hu : u < m) (hv : v < m) (hw : 0 ≤ ws.getD i 0) (hl : d.getD u 0 < INF) (hlt : d.getD u 0 + ws.getD i 0 < d.getD v 0) :
    Pass ars ws m s (i + 1) d0 (d.set v (d.getD u 0 + ws.getD i 0)) true := by
  refine ⟨P.rx.relax hi e hu hv hw hl hlt, fun _ => ?_, fun h => by cases h⟩
  have h1 := msum_set d v (d.getD u 0 + ws.getD i 0) (by rw [P.rx.len]; exact hv)
  have h2 : msum d ≤ msum d0 := by
    cases ag
    · rw [(P.no rfl).1]; exact Nat.le_refl _
    · exact Nat.le_of_lt (P.yes rfl)
  have h3 := P.rx.nonneg hu
  omega
set_option maxRecDepth 100000 in
set_option maxHeartbeats 8000000 in
theorem fromr_any {w : World} {N s : Int} {v u : Value} {ars : List (Int × Int)} {ws : List Int} (A : ArcsAt w v ars) (U : IntsAt w u ws) : Calls Try.prog 11 #[gv N v, u, .int .i64 s] w (DPost ars ars ws N s w) := by
  have A0 := A; have U0 := U
  obtain ⟨a, cap, rfl, _⟩ := A
  obtain ⟨ua, uc, rfl⟩ := U.form
  have CK := Lib.hid (fun W (b : Below w.heap.size w W) => ckr_any (N := N) (A0.below b) (U0.below b))
  obtain ⟨n, hn⟩ : ∃ n, ars.length = n := ⟨_, rfl⟩
  obtain ⟨k, hk⟩ : ∃ k, ws.length = k := ⟨_, rfl⟩
  have HA : Hid (ArcsAt w (.slice a n cap) ars) := by have h := A0; rw [hn] at h; exact h
  have HU : Hid (IntsAt w (.slice ua k uc) ws) := by have h := U0; rw [hk] at h; exact h
  have HN := Lib.hid hn; have HK := Lib.hid hk
  rw [hn, hk] at CK
  rw [hn, hk]
  obtain ⟨gB, hgB⟩ : ∃ gB, w.heap.size = gB := ⟨_, rfl⟩
  obtain ⟨W1, hW1⟩ : ∃ W1, w.alloc (.cells #[.int .i64 N, .slice a n cap] 24) = W1 := ⟨_, rfl⟩
  have r1 : Row W1 gB 24 [.int .i64 N, .slice a n cap] := by rw [← hW1, ← hgB]; exact Row.new _ _ _
  have g0 := r1.cell (i := 0) rfl; have g1 := r1.cell (i := 1) rfl
  have b1 : Below w.heap.size w W1 := by rw [← hW1]; exact below_al _ _
  have B1 := Lib.hid b1; have R1 := Lib.hid r1
  clear A0 U0 U b1 r1 hn hk
  by_cases hc : ck N ars ws = 0
  · rw [hc] at CK
    obtain ⟨m, rfl, O⟩ := ck_ok hc
    have HO := Lib.hid O
    have HC := Lib.hid hc
    by_cases hs : out (m : Int) s
    · have V : Hid (ckv (m : Int) ars ws [s] = 2) := by show _ = _; rw [ckv_ok hc, if_pos ⟨s, List.mem_singleton.2 rfl, hs⟩]
      unfold out at hs
      clear hc O
      by_cases h0 : s < 0
      · clear hs
        go_enter Try.func11, Try.ntmps11
        go_wp2_with fail
        refine (CK.out _ B1.out).mono ?_; rintro e w4 ⟨rfl, b⟩
        have B4 := Lib.hid (B1.out.trans (b.mono B1.out.size))
        have r4 := R1.out.below b R1.out.lt
        clear b g0 g1 hW1
        have g0 := r4.cell (i := 0) rfl; have g1 := r4.cell (i := 1) rfl
        clear r4
        go_wp2_with fail
        go_ret2
        exact Or.inl ⟨2, by decide, V.out, rfl, B4.out⟩
      · have h1 : (m : Int) ≤ s := by omega
        clear hs
        go_enter Try.func11, Try.ntmps11
        go_wp2_with fail
        refine (CK.out _ B1.out).mono ?_; rintro e w4 ⟨rfl, b⟩
        have B4 := Lib.hid (B1.out.trans (b.mono B1.out.size))
        have r4 := R1.out.below b R1.out.lt
        clear b g0 g1 hW1
        have g0 := r4.cell (i := 0) rfl; have g1 := r4.cell (i := 1) rfl
        clear r4
        go_wp2_with fail
        go_ret2
        exact Or.inl ⟨2, by decide, V.out, rfl, B4.out⟩
    · unfold out at hs
      obtain ⟨q, rfl⟩ : ∃ q : Nat, s = (q : Int) := ⟨s.toNat, by omega⟩
      have hq : q < m := by omega
      have HQ := Lib.hid hq
      have HM : Hid (m ≤ 1048576 ∧ n ≤ 4194304) := by have := O.size; rw [HN.out] at this; exact this
      have h0 : ¬ (q : Int) < 0 := by omega
      have h0' : decide ((q : Int) < 0) = false := by simp
      have h1 : ¬ (m : Int) ≤ (q : Int) := by omega
      have h1' : decide (m ≤ q) = false := by simp; omega
      obtain ⟨i0, hi, hz0, hz1, hz2⟩ := Go.info_parts Try.info3
      have II := Lib.hid hi; have Z0 := Lib.hid hz0; have Z1 := Lib.hid hz1; have Z2 := Lib.hid hz2
      clear hi hz0 hz1 hz2 hc O hs hq
      go_enter Try.func11, Try.ntmps11
      go_wp2_with fail
      refine (CK.out _ B1.out).mono ?_; rintro e w4 ⟨rfl, b⟩
      have B4 := Lib.hid (B1.out.trans (b.mono B1.out.size))
      have R4 := Lib.hid (R1.out.below b R1.out.lt)
      clear b g0 g1 hW1 B1 R1
      have g0 := R4.out.cell (i := 0) rfl; have g1 := R4.out.cell (i := 1) rfl
      go_wp2_with fail
      clear h0 h0' h1 h1' g0 g1
      go_loopw [9, 10] (fun s9 s10 wr => ∃ k : Nat, k ≤ m ∧ s10 = .int .i64 (k : Int) ∧ Hid (wr.ownsRow w4.heap.size 3 1 s9 k (nums (reps k))) ∧ Hid (Below w4.heap.size w4 wr)) (fun _ s10 _ => m - (intOf s10).toNat)
      case atStart => exact ⟨0, Nat.zero_le _, rfl, World.ownsRow_nil _ _ _ _, Below.refl _ _⟩
      case round =>
        obtain ⟨k', hk, rfl, OK, BW⟩ := hrel
        obtain ⟨au, cu, hu⟩ := row_formB OK.out
        subst hu
        have BX := Lib.hid (B4.out.trans (BW.out.mono B4.out.size))
        have rr := R4.out.below BW.out R4.out.lt
        have g0 := rr.cell (i := 0) rfl; have g1 := rr.cell (i := 1) rfl
        by_cases hkm : k' < m
        · obtain ⟨k1, hk1⟩ : ∃ k1, k' + 1 = k1 := ⟨_, rfl⟩
          have HK1 := Lib.hid hk1; have HKM := Lib.hid hkm
          have k0 : (0 : Int) ≤ (k' : Int) := by omega
          have kl : (k' : Int) < (m : Int) := by omega
          have e1 : (k' : Int) + 1 = (k1 : Int) := by omega
          have e2 : IntKind.i64.wrap (k1 : Int) = (k1 : Int) := by rw [IntKind.wrap_i64]; have := HM.out.1; omega
          have SB : Hid (w4.heap.size ≤ wr.heap.size) := BW.out.size
          clear hk1 rr
          go_wp2_with (at_builtin; refine wpList_append_own_at _ rfl _ _ 25 rfl w4.heap.size 3 i0 (.int .i64 0) 1 8 Try.underlying25 II.out Z0.out Z1.out Z2.out rfl (by decide) (.slice au k' cu) k' (nums (reps k')) rfl (OK.out.alloc _) ⟨wr.heap.size, 0, none⟩ 1 1 [.int .i64 1152921504606846976] rfl rfl (cell_one_new _ _ _) (by simp [Value.oneCell']) (by have := HM.out.1; have := HKM.out; unfold maxLen; omega) (by have := HM.out.1; have := HKM.out; omega) (by have := SB.out; simp; omega) ?_; intro v' w7 hown' hgrow hnil hloc; have O7 := Lib.hid hown'; have G7 := Lib.hid hgrow; clear hown' hgrow hnil hloc)
          have O8 : Hid (w7.ownsRow w4.heap.size 3 1 v' k1 (nums (reps k1))) := by
            show World.ownsRow _ _ _ _ _ _ _
            have h := O7.out
            have ek := HK1.out
            subst ek
            rw [reps_succ]; exact h
          have B8 : Hid (Below w4.heap.size w4 w7) := (BW.out.alloc SB.out _).grown G7.out (by have := SB.out; simp; omega) (fun q e => (OK.out.lt q e).1)
          go_roundw
          case measure => simp [intOf]; have := HK1.out; have := HKM.out; omega
          case rel => exact ⟨k1, by have := HK1.out; have := HKM.out; omega, rfl, O8, B8⟩
        · have kl : ¬ (k' : Int) < (m : Int) := by omega
          obtain rfl : k' = m := by omega
          obtain ⟨g, cg, hv, hg, ng⟩ := nums_of OK.out (by unfold reps; simp) (by have := HQ.out; omega)
          injection hv with ha _ hcc
          subst ha hcc
          have P0 : Hid (BT w wr gB g k' cu [.int .i64 (k' : Int), .slice a n cap] (reps k')) := ⟨ng, rr, BX.out, by have := B4.out.size; omega, by have := R4.out.lt; omega⟩
          obtain ⟨dq, fq⟩ := ng.at_ HQ.out
          obtain ⟨e0, he0⟩ : ∃ e0, (reps k').getD q 0 = e0 := ⟨_, rfl⟩
          rw [he0] at dq
          obtain ⟨Ws, hWs⟩ : ∃ Ws, wr.setCell ⟨g, q, none⟩ (.int .i64 0) = Ws := ⟨_, rfl⟩
          have P1 : Hid (BT w Ws gB g k' cu [.int .i64 (k' : Int), .slice a n cap] (start k' q)) := by have p := P0.out.set (i := q) 0; rw [hWs] at p; exact p
          have q0 : (0 : Int) ≤ (q : Int) := by omega
          have ql : (q : Int) < (k' : Int) := by have := HQ.out; omega
          clear ng hg OK BW BX rr hk hkm he0 P0
          go_wp2_with fail
          clear g0 g1 dq fq hWs
          go_loopg [11] (msum (start k' q) + 1) (fun gk s11 wr => ∃ (d : List Int) (ag : Bool), s11 = .bool ag ∧ Hid (gk = msum d + if ag then 1 else 0) ∧ Hid (BT w wr gB g k' cu [.int .i64 (k' : Int), .slice a n cap] d) ∧ Hid (Rx ars ws k' q d) ∧ Hid (ag = false → ∀ j, j < n → Tight ars ws d j))
          case atStart => exact ⟨_, true, rfl, rfl, P1, rx_start HQ.out, fun h => by cases h⟩
          case round =>
            clear P1
            obtain ⟨d, ag, rfl, HG, P2, RX, TI⟩ := hrel
            cases ag
            · have ID : Hid (IsD ars ws k' q d) := RX.out.done HO.out.arc (fun i hi => TI.out rfl i (by rw [← HN.out]; exact hi))
              have FI := Lib.hid P2.out.u.ints; have FB := Lib.hid P2.out.b
              clear TI RX P2
              go_wp2_with fail
              go_ret2
              exact Or.inr ⟨k', q, _, d, rfl, rfl, HQ.out, HO.out, rfl, ID.out, FI.out, FB.out⟩
            · clear TI
              go_wp2_with fail
              go_loopw [11, 12] (fun s11 s12 wq => ∃ (i : Nat) (d' : List Int) (ag : Bool), i ≤ n ∧ s12 = .int .i64 (i : Int) ∧ s11 = .bool ag ∧ Hid (BT w wq gB g k' cu [.int .i64 (k' : Int), .slice a n cap] d') ∧ Hid (Pass ars ws k' q i d d' ag)) (fun _ s12 _ => n - (intOf s12).toNat)
              case atStart => exact ⟨0, d, false, Nat.zero_le _, rfl, rfl, P2, ⟨RX.out, fun h => (by cases h), fun _ => ⟨rfl, fun j hj => absurd hj (by omega)⟩⟩⟩
              case round =>
                clear P2 RX
                obtain ⟨i, d', ag, hi, rfl, rfl, P3, PS⟩ := hrel
                have g0 := P3.out.r.cell (i := 0) rfl; have g1 := P3.out.r.cell (i := 1) rfl
                by_cases hin : i < n
                · have hin' : i < ars.length := by rw [HN.out]; exact hin
                  obtain ⟨x, y, exy, hx, hy⟩ := arc_nat HO.out.arc hin'
                  obtain ⟨b, off, rfl, o0, o1⟩ := (HA.out.below P3.out.b).at_ hin'
                  obtain ⟨bu, ou, hua, u0⟩ := (HU.out.below P3.out.b).at (k := i) (by rw [HO.out.l]; exact hin')
                  subst hua
                  rw [exy] at o0 o1
                  dsimp only at o0 o1
                  obtain ⟨z, hz⟩ : ∃ z, ws.getD i 0 = z := ⟨_, rfl⟩
                  have hzb := HO.out.w i (by rw [HO.out.l]; exact hin')
                  rw [hz] at u0 hzb
                  obtain ⟨i1, hi1⟩ : ∃ i1, i + 1 = i1 := ⟨_, rfl⟩
                  have HI := Lib.hid hi1; have HIN := Lib.hid hin
                  have i00 : (0 : Int) ≤ (i : Int) := by omega
                  have il : (i : Int) < (n : Int) := by omega
                  have ik : (i : Int) < (k : Int) := by have h1 := HO.out.l; have h2 := HN.out; have h3 := HK.out; omega
                  have f1 : (i : Int) + 1 = (i1 : Int) := by omega
                  have f2 : IntKind.i64.wrap (i1 : Int) = (i1 : Int) := by rw [IntKind.wrap_i64]; have := HM.out.2; omega
                  obtain ⟨xb, hxb⟩ : ∃ xb, wr.heap.size = xb := ⟨_, rfl⟩
                  obtain ⟨W2, hW2⟩ : ∃ W2, wr.alloc (.cells #[.int .i64 (x : Int), .int .i64 (y : Int)] 47) = W2 := ⟨_, rfl⟩
                  have r2 : Row W2 xb 47 [.int .i64 (x : Int), .int .i64 (y : Int)] := by rw [← hW2, ← hxb]; exact Row.new _ _ _
                  have b2 : Below wr.heap.size wr W2 := by rw [← hW2]; exact (Below.refl _ _).alloc (Nat.le_refl _) _
                  have x0 := r2.cell (i := 0) rfl; have x1 := r2.cell (i := 1) rfl
                  have P4 := P3.out.keep b2
                  obtain ⟨cx, fx⟩ := P4.u.at_ hx
                  obtain ⟨cy, fy⟩ := P4.u.at_ hy
                  obtain ⟨du, hdu⟩ : ∃ du, d'.getD x 0 = du := ⟨_, rfl⟩
                  obtain ⟨dy, hdy⟩ : ∃ dy, d'.getD y 0 = dy := ⟨_, rfl⟩
                  rw [hdu] at cx
                  rw [hdy] at cy
                  have u2 : W2.cell? ⟨bu, ou + i, none⟩ = some (.int .i64 z) := by rw [b2.cell (cell_lt u0)]; exact u0
                  have hd0 := PS.out.rx.nonneg hx; have hd1 := PS.out.rx.top x hx; have hd2 := PS.out.rx.top y hy
                  rw [hdu] at hd0 hd1
                  rw [hdy] at hd2
                  have xx0 : (0 : Int) ≤ (x : Int) := by omega
                  have xl : (x : Int) < (k' : Int) := by omega
                  have yy0 : (0 : Int) ≤ (y : Int) := by omega
                  have yl : (y : Int) < (k' : Int) := by omega
                  have K4 := Lib.hid P4; have EXY := Lib.hid exy; have HZ := Lib.hid hz; have HDU := Lib.hid hdu; have HDY := Lib.hid hdy; have HX := Lib.hid hx; have HY := Lib.hid hy; have HIL := Lib.hid hin'; have X2 := Lib.hid r2
                  have BUL := Lib.hid (cell_lt u0)
                  clear hi1 hin hi hin' exy hz hdu hdy P4 r2 b2 hx hy
                  by_cases c1 : 0 ≤ z
                  · have d1 : decide (0 ≤ z) = true := by simpa using c1
                    by_cases c2 : du < INF
                    · have d2 : decide (du < 1152921504606846976) = true := by simpa [INF] using c2
                      obtain ⟨t, ht⟩ : ∃ t, du + z = t := ⟨_, rfl⟩
                      have tw : IntKind.i64.wrap t = t := by rw [← ht]; rw [IntKind.wrap_i64]; unfold INF at c2; omega
                      by_cases c3 : t < dy
                      · have d3 : decide (t < dy) = true := by simpa using c3
                        have PN : Hid (Pass ars ws k' q i1 d (d'.set y t) true) := by
                          have p := PS.out.take HIL.out EXY.out HX.out HY.out (by rw [HZ.out]; exact c1) (by rw [HDU.out]; exact c2) (by rw [HDU.out, HZ.out, HDY.out, ht]; exact c3)
                          rw [HDU.out, HZ.out, ht, HI.out] at p; exact p
                        clear c1 c2 c3 hzb hd0 hd1 hd2 PS
                        go_wp2_with fail
                        go_quiet (fail)
                        obtain ⟨W5, hW5⟩ : ∃ W5, W2.drewN nq = W5 := ⟨_, rfl⟩
                        have b5 : Below W2.heap.size W2 W5 := by rw [← hW5]; exact below_drewN (Below.refl _ _) nq
                        have P5 := K4.out.keep b5
                        have r5 := X2.out.below b5 X2.out.lt
                        have x0' := r5.cell (i := 0) rfl; have x1' := r5.cell (i := 1) rfl
                        obtain ⟨cx', fx'⟩ := P5.u.at_ HX.out
                        obtain ⟨cy', fy'⟩ := P5.u.at_ HY.out
                        rw [HDU.out] at cx'
                        rw [HDY.out] at cy'
                        have u5 : W5.cell? ⟨bu, ou + i, none⟩ = some (.int .i64 z) := by rw [b5.cell (cell_lt u2)]; exact u2
                        obtain ⟨W6, hW6⟩ : ∃ W6, W5.setCell ⟨g, y, none⟩ (.int .i64 t) = W6 := ⟨_, rfl⟩
                        have P6 : Hid (BT w W6 gB g k' cu [.int .i64 (k' : Int), .slice (some ⟨b, off, none⟩) n cap] (d'.set y t)) := by have p := P5.set (i := y) t; rw [hW6] at p; exact p
                        clear P5 r5 b5 x0 x1 cx fx cy fy u2 g0 g1 o0 o1 u0 hW2
                        go_wp2_with fail
                        go_region
                        all_goals
                          go_wp2_with fail
                          go_roundw
                          case measure => simp [intOf]; have := HI.out; have := HIN.out; omega
                          case rel => exact ⟨i1, _, true, by have := HI.out; have := HIN.out; omega, rfl, rfl, P6.out.keep (by (repeat (first | exact Below.refl _ _ | (refine Below.drew ?_) | (refine below_drewN ?_ _)))), PN⟩
                      · have d3 : decide (t < dy) = false := by simpa using c3
                        have PN : Hid (Pass ars ws k' q i1 d d' ag) := by
                          have p := PS.out.skip (i := i) (fun _ u v e _ => by
                            rw [EXY.out] at e; injection e with e1 e2
                            obtain rfl : x = u := by omega
                            obtain rfl : y = v := by omega
                            rw [HDU.out, HZ.out, HDY.out, ht]; omega)
                          rw [HI.out] at p; exact p
                        clear c1 c2 c3 hzb hd0 hd1 hd2 PS
                        go_wp2_with fail
                        go_quiet (fail)
                        go_wp2_with fail
                        go_roundw
                        case measure => simp [intOf]; have := HI.out; have := HIN.out; omega
                        case rel => exact ⟨i1, d', ag, by have := HI.out; have := HIN.out; omega, rfl, rfl, K4.out.keep (below_drewN (Below.refl _ _) _), PN⟩
                    · have d2 : decide (du < 1152921504606846976) = false := by simpa [INF] using c2
                      have PN : Hid (Pass ars ws k' q i1 d d' ag) := by
                        have p := PS.out.skip (i := i) (fun _ u v e hl => by
                          rw [EXY.out] at e; injection e with e1 e2
                          obtain rfl : x = u := by omega
                          rw [HDU.out] at hl; exact absurd hl c2)
                        rw [HI.out] at p; exact p
                      clear c1 c2 hzb hd0 hd1 hd2 PS
                      go_wp2_with fail
                      go_quiet (fail)
                      go_wp2_with fail
                      go_roundw
                      case measure => simp [intOf]; have := HI.out; have := HIN.out; omega
                      case rel => exact ⟨i1, d', ag, by have := HI.out; have := HIN.out; omega, rfl, rfl, K4.out.keep (below_drewN (Below.refl _ _) _), PN⟩
                  · have d1 : decide (0 ≤ z) = false := by simpa using c1
                    have PN : Hid (Pass ars ws k' q i1 d d' ag) := by
                      have p := PS.out.skip (i := i) (fun h _ _ _ _ => by rw [HZ.out] at h; exact absurd h c1)
                      rw [HI.out] at p; exact p
                    clear c1 hzb hd0 hd1 hd2 PS
                    go_wp2_with fail
                    go_quiet (fail)
                    go_wp2_with fail
                    go_roundw
                    case measure => simp [intOf]; have := HI.out; have := HIN.out; omega
                    case rel => exact ⟨i1, d', ag, by have := HI.out; have := HIN.out; omega, rfl, rfl, K4.out.keep (below_drewN (Below.refl _ _) _), PN⟩
                · have il : ¬ (i : Int) < (n : Int) := by omega
                  obtain rfl : i = n := by omega
                  have TN : Hid (ag = false → ∀ j, j < i → Tight ars ws d' j) := fun h => (PS.out.no h).2
                  have RN : Hid (Rx ars ws k' q d') := PS.out.rx
                  have MS : Hid (msum d' + (if ag then 1 else 0) < gk) := by
                    have h := HG.out
                    show _ < gk
                    rw [h]
                    cases ag
                    · rw [(PS.out.no rfl).1]; simp
                    · have := PS.out.yes rfl; simp; omega
                  clear PS hi hin
                  go_wp2_with fail
                  go_roundg (msum d' + if ag then 1 else 0)
                  case measure => exact MS.out
                  case rel => exact ⟨d', ag, rfl, rfl, P3, RN, TN⟩
  · obtain ⟨c, hcc⟩ : ∃ c, ck N ars ws = c := ⟨_, rfl⟩
    have HC : Hid (ckv N ars ws [s] = c) := by show _ = _; rw [ckv_no hc]; exact hcc
    rw [hcc] at CK hc
    have HZ := Lib.hid hc
    have c1 : (c == 0) = false := by simpa using hc
    have c2 : (c != 0) = true := by simpa using hc
    clear hc hcc
    go_enter Try.func11, Try.ntmps11
    go_wp2_with fail
    refine (CK.out _ B1.out).mono ?_; rintro e w4 ⟨rfl, b⟩
    have B4 := Lib.hid (B1.out.trans (b.mono B1.out.size))
    clear b g0 g1 hW1
    go_wp2_with fail
    go_ret2
    exact Or.inl ⟨c, HZ.out, HC.out, rfl, B4.out⟩
end Go.Proofs.Ytgofachgoflgnaa
