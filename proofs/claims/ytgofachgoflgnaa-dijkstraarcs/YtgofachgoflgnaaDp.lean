/- dijkstra: DijkstraArcs. -/
import Derived.Test.YtgofachgoflgnaaDn
namespace Go.Proofs.Ytgofachgoflgnaa
open Go.ChangeShapes Go.WideShapes Go.ChangeAt Go.RowKit Go.Joins Go.Deep

theorem info4 : (Try.prog.info? 4).map (fun i => (i.zero, i.size, i.bytes)) = some (some (.bool false), 1, 1) := by kernel_rfl
def bls (l : List Bool) : List Value := l.map Value.bool
theorem bls_get {l : List Bool} {i : Nat} (h : i < l.length) : (bls l)[i]? = some (.bool (l.getD i false)) := by
  unfold bls; rw [List.getElem?_map, List.getD, List.getElem?_eq_getElem h]; rfl
theorem bls_set (l : List Bool) (i : Nat) (b : Bool) : (bls l).set i (.bool b) = bls (l.set i b) := by unfold bls; rw [List.map_set]
theorem bools_new (w : World) (m : Nat) : Row (w.alloc (.cells (madeCells #[.bool false] m) 4)) w.heap.size 4 (bls (List.replicate m false)) := by
  have e : madeCells #[.bool false] m = (bls (List.replicate m false)).toArray := by apply Array.ext'; rw [toList_madeCells_one]; unfold bls; simp
  rw [e]; exact Row.new _ _ _
/- an arc that attains the distance of its end -/
def Att (ars : List (Int × Int)) (ws d : List Int) (i v : Nat) : Prop := ∃ u : Nat, ars.getD i (0, 0) = ((u : Int), (v : Int)) ∧ 0 ≤ ws.getD i 0 ∧ d.getD u 0 < INF ∧ d.getD u 0 + ws.getD i 0 = d.getD v 0
theorem IsD.att_arc {ars : List (Int × Int)} {ws : List Int} {m s : Nat} {d : List Int} (h : IsD ars ws m s d) (hb : ∀ j, j < ars.length → ¬ bad (m : Int) (ars.getD j (0, 0))) {v : Nat} (hv : v < m) (hs : v ≠ s) (hl : d.getD v 0 ≠ INF) : ∃ i, i < ars.length ∧ Att ars ws d i v := by
  rcases h.att v hv with a | a
  · exact absurd a hl
  · obtain ⟨x, hx⟩ : ∃ x, d.getD v 0 = x := ⟨_, rfl⟩
    rw [hx] at a
    cases a with
    | nil => exact absurd rfl hs
    | @snoc u v i c hc hi e hw =>
      have nb := hb i hi
      rw [e] at nb
      unfold bad at nb
      dsimp only at nb
      have h1 := h.low u (by omega) _ hc
      have ht := h.top v hv
      have hu : d.getD u 0 < INF := by omega
      have hwu : Wk ars ws s u (d.getD u 0) := by
        rcases h.att u (by omega) with b | b
        · omega
        · exact b
      have h2 := h.low v hv _ (.snoc hwu hi e hw)
      exact ⟨i, hi, u, e, hw, hu, by omega⟩
theorem IsD.tight {ars : List (Int × Int)} {ws : List Int} {m s : Nat} {d : List Int} (h : IsD ars ws m s d) {i u v : Nat} (hu : u < m) (hv : v < m) (hi : i < ars.length) (e : ars.getD i (0, 0) = ((u : Int), (v : Int))) (hw : 0 ≤ ws.getD i 0) (hl : d.getD u 0 ≠ INF) : d.getD v 0 ≤ d.getD u 0 + ws.getD i 0 := by
  rcases h.att u hu with a | a
  · exact absurd a hl
  · exact h.low v hv _ (.snoc a hi e hw)
structure RB (ars : List (Int × Int)) (ws d : List Int) (m j : Nat) (rl : List Bool) : Prop where
  len : rl.length = m
  all : ∀ i v : Nat, i < j → v < m → Att ars ws d i v → rl.getD v false = true
theorem RB.skip {ars : List (Int × Int)} {ws d : List Int} {m j : Nat} {rl : List Bool} (h : RB ars ws d m j rl) (hn : ∀ v, ¬ Att ars ws d j v) : RB ars ws d m (j + 1) rl :=
  ⟨h.len, fun i v hi hv a => by
    by_cases e : i = j
    · rw [e] at a; exact absurd a (hn v)
    · exact h.all i v (by omega) hv a⟩
theorem RB.put {ars : List (Int × Int)} {ws d : List Int} {m j y : Nat} {rl : List Bool} {b : Bool} (h : RB ars ws d m j rl) (hy : y < m) (hb : rl.getD y false = true → b = true) (ha : Att ars ws d j y → b = true) (ho : ∀ v, Att ars ws d j v → v = y) : RB ars ws d m (j + 1) (rl.set y b) := by
  refine ⟨by rw [List.length_set]; exact h.len, fun i v hi hv a => ?_⟩
  rw [getD_setBB _ _ _ _ (by rw [h.len]; exact hy)]
  by_cases e : y = v
  · rw [if_pos e]
    by_cases e2 : i = j
    · rw [e2, ← e] at a; exact ha a
    · rw [← e] at a; exact hb (h.all i y (by omega) hy a)
  · rw [if_neg e]
    by_cases e2 : i = j
    · rw [e2] at a; exact absurd (ho v a).symm e
    · exact h.all i v (by omega) hv a
set_option maxRecDepth 100000 in
set_option maxHeartbeats 8000000 in
theorem arcs_few {w : World} {N s : Int} {v u : Value} {ars : List (Int × Int)} {ws : List Int} (A : ArcsAt w v ars) (U : IntsAt w u ws) (hf : fewD N ars.length ws.length = true) : Calls Try.prog 6 #[gv N v, u, .int .i64 s] w fun e w' => e = .returned (.bool true) ∧ Below w.heap.size w w' := by
  obtain ⟨j0, hi, hz0, hz1, hz2⟩ := Go.info_parts info4
  have JI := Lib.hid hi; have Y0 := Lib.hid hz0; have Y1 := Lib.hid hz1; have Y2 := Lib.hid hz2
  have A0 := A; have U0 := U
  obtain ⟨a, cap, rfl, _⟩ := A
  obtain ⟨ua, uc, rfl⟩ := U.form
  have FW := few_any N ars.length cap ws.length uc a ua
  rw [hf] at FW
  have FF := Lib.hid FW
  have C1 := Lib.hid (fun W (b : Below w.heap.size w W) => from_any (N := N) (s := s) (A0.below b) (U0.below b))
  obtain ⟨n, hn⟩ : ∃ n, ars.length = n := ⟨_, rfl⟩
  obtain ⟨k, hk⟩ : ∃ k, ws.length = k := ⟨_, rfl⟩
  have HA : Hid (ArcsAt w (.slice a n cap) ars) := by have h := A0; rw [hn] at h; exact h
  have HU : Hid (IntsAt w (.slice ua k uc) ws) := by have h := U0; rw [hk] at h; exact h
  have HN := Lib.hid hn; have HK := Lib.hid hk
  rw [hn, hk] at FF C1
  rw [hn, hk]
  obtain ⟨gB, hgB⟩ : ∃ gB, w.heap.size = gB := ⟨_, rfl⟩
  obtain ⟨W1, hW1⟩ : ∃ W1, w.alloc (.cells #[.int .i64 N, .slice a n cap] 24) = W1 := ⟨_, rfl⟩
  have r1 : Row W1 gB 24 [.int .i64 N, .slice a n cap] := by rw [← hW1, ← hgB]; exact Row.new _ _ _
  have q0 := r1.cell (i := 0) rfl; have q1 := r1.cell (i := 1) rfl
  have b1 : Below w.heap.size w W1 := by rw [← hW1]; exact below_al _ _
  have B1 := Lib.hid b1; have R1 := Lib.hid r1
  clear hi hz0 hz1 hz2 A0 U0 U b1 r1 hn hk hf FW
  go_enter Try.func6, Try.ntmps6
  go_wp2_with fail
  refine (FF.out _).mono ?_; rintro e w2 ⟨rfl, b⟩
  have B2 := Lib.hid (B1.out.trans (b.mono B1.out.size)); have R2 := Lib.hid (R1.out.below b R1.out.lt)
  clear b q0 q1 hW1
  have q0 := R2.out.cell (i := 0) rfl; have q1 := R2.out.cell (i := 1) rfl
  go_wp2_with fail
  refine (C1.out _ B2.out).mono ?_; rintro e w3 hp
  rcases hp with ⟨c, h1, _, rfl, b⟩ | ⟨m, q, uD, d, rfl, rfl, hq, O, rfl, D, hd, b⟩
  · have B3 := Lib.hid (B2.out.trans (b.mono B2.out.size))
    have c1 : (c == 0) = false := by simpa using h1
    have c2 : (c != 0) = true := by simpa using h1
    clear b h1 q0 q1
    go_wp2_with fail
    refine (lives38_any _).mono ?_; rintro e w5 ⟨rfl, b⟩
    have B5 := Lib.hid (B3.out.trans (b.mono B3.out.size))
    clear b
    go_wp2_with fail
    go_ret
    exact ⟨rfl, B5.out⟩
  · have B3 := Lib.hid (B2.out.trans (b.mono B2.out.size)); have R3 := Lib.hid (R2.out.below b R2.out.lt)
    have HO := Lib.hid O; have HD := Lib.hid D; have HQ := Lib.hid hq
    obtain ⟨aD, cD, hDe⟩ : ∃ aD cD, uD = .slice aD m cD := by obtain ⟨x, y, e⟩ := hd.form; rw [D.len] at e; exact ⟨x, y, e⟩
    subst hDe
    obtain ⟨bD, oD, hae, dq⟩ := hd.at (k := q) (by rw [D.len]; exact hq)
    subst hae
    have dq0 : d.getD q 0 = 0 := by
      have h1 := D.low q hq 0 .nil
      have h2 := D.nonneg hq
      omega
    rw [dq0] at dq
    have HI3 := Lib.hid hd
    have HM : Hid (m ≤ 1048576 ∧ n ≤ 4194304) := by have := O.size; rw [HN.out] at this; exact this
    clear b q0 q1 O D hd dq0
    have q0 := R3.out.cell (i := 0) rfl; have q1 := R3.out.cell (i := 1) rfl
    have qq0 : (0 : Int) ≤ (q : Int) := by omega
    have qql : (q : Int) < (m : Int) := by omega
    have qn : ¬ (q : Int) < 0 := by omega
    have qn' : decide ((q : Int) < 0) = false := by simp
    have qm : ¬ (m : Int) ≤ (q : Int) := by omega
    have qm' : decide (m ≤ q) = false := by simp; omega
    obtain ⟨rB, hrB⟩ : ∃ rB, w3.heap.size = rB := ⟨_, rfl⟩
    obtain ⟨W4, hW4⟩ : ∃ W4, w3.alloc (.cells (madeCells #[.bool false] m) 4) = W4 := ⟨_, rfl⟩
    have r4 : Row W4 rB 4 (bls (List.replicate m false)) := by rw [← hW4, ← hrB]; exact bools_new _ _
    have b4 : Below w3.heap.size w3 W4 := by rw [← hW4]; exact below_al _ _
    have g4 := R3.out.below b4 R3.out.lt
    have p0 := g4.cell (i := 0) rfl; have p1 := g4.cell (i := 1) rfl
    have RB4 := Lib.hid r4; have BB4 := Lib.hid b4
    have RBS : Hid (w3.heap.size ≤ rB) := by show _ ≤ _; omega
    clear r4 b4 g4 hq
    go_wp2_with (at_make; refine wpList_make_row _ rfl _ _ 45 rfl 4 j0 (.bool false) Try.underlying45 JI.out Y0.out Y1.out rfl .i64 .i64 m rfl rfl (by rw [Y2.out]; have := HM.out; omega) (by have := HM.out; omega) ?_)
    clear q0 q1 p0 p1 dq qq0 qql qn qn' qm qm' hW4
    go_loopw [61] (fun s61 wr => ∃ (j : Nat) (rl : List Bool), j ≤ n ∧ s61 = .int .i64 (j : Int) ∧ Hid (Row wr rB 4 (bls rl)) ∧ Hid (RB ars ws d m j rl) ∧ Hid (Below w3.heap.size w3 wr)) (fun s61 _ => n - (intOf s61).toNat)
    case atStart => exact ⟨0, _, Nat.zero_le _, rfl, RB4, ⟨by simp, fun i v hi => absurd hi (by omega)⟩, BB4⟩
    case round =>
      clear RB4 BB4
      obtain ⟨i, rl, hi, rfl, RR, RS, BW⟩ := hrel
      have g4 := R3.out.below BW.out R3.out.lt
      have q0 := g4.cell (i := 0) rfl; have q1 := g4.cell (i := 1) rfl
      have BX := Lib.hid (B3.out.trans (BW.out.mono B3.out.size))
      clear g4
      by_cases hin : i < n
      · have hin' : i < ars.length := by rw [HN.out]; exact hin
        obtain ⟨x, y, exy, hx, hy⟩ := arc_nat HO.out.arc hin'
        obtain ⟨ba, oa, haa, o0, o1⟩ := (HA.out.below BX.out).at_ hin'
        subst haa
        obtain ⟨bu, ou, hua, u0⟩ := (HU.out.below BX.out).at (k := i) (by rw [HO.out.l]; exact hin')
        subst hua
        rw [exy] at o0 o1
        dsimp only at o0 o1
        obtain ⟨z, hz⟩ : ∃ z, ws.getD i 0 = z := ⟨_, rfl⟩
        have hzb := HO.out.w i (by rw [HO.out.l]; exact hin')
        rw [hz] at u0 hzb
        obtain ⟨i1, hi1⟩ : ∃ i1, i + 1 = i1 := ⟨_, rfl⟩
        have HI := Lib.hid hi1; have HIN := Lib.hid hin
        have i00 : (0 : Int) ≤ (i : Int) := by omega
        have il : (i : Int) < (n : Int) := by omega
        have ik : (i : Int) < (k : Int) := by have h1 := HO.out.l; have h2 := HN.out; have h3 := HK.out; omega
        have f1 : (i : Int) + 1 = (i1 : Int) := by omega
        have f2 : IntKind.i64.wrap (i1 : Int) = (i1 : Int) := by rw [IntKind.wrap_i64]; have := HM.out.2; omega
        obtain ⟨xb, hxb⟩ : ∃ xb, wr.heap.size = xb := ⟨_, rfl⟩
        obtain ⟨W2, hW2⟩ : ∃ W2, wr.alloc (.cells #[.int .i64 (x : Int), .int .i64 (y : Int)] 47) = W2 := ⟨_, rfl⟩
        have r2 : Row W2 xb 47 [.int .i64 (x : Int), .int .i64 (y : Int)] := by rw [← hW2, ← hxb]; exact Row.new _ _ _
        have b2 : Below wr.heap.size wr W2 := by rw [← hW2]; exact (Below.refl _ _).alloc (Nat.le_refl _) _
        have x0 := r2.cell (i := 0) rfl; have x1 := r2.cell (i := 1) rfl
        obtain ⟨bD', oD', e5, cx⟩ := HI3.out.at (k := x) (by rw [HD.out.len]; exact hx)
        injection e5 with e5; injection e5 with e6 e7; subst e6 e7
        obtain ⟨bD', oD', e5, cy⟩ := HI3.out.at (k := y) (by rw [HD.out.len]; exact hy)
        injection e5 with e5; injection e5 with e6 e7; subst e6 e7
        have B2x := Lib.hid (BW.out.trans (b2.mono BW.out.size))
        obtain ⟨du, hdu⟩ : ∃ du, d.getD x 0 = du := ⟨_, rfl⟩
        obtain ⟨dy, hdy⟩ : ∃ dy, d.getD y 0 = dy := ⟨_, rfl⟩
        rw [hdu] at cx
        rw [hdy] at cy
        have CX := Lib.hid cx; have CY := Lib.hid cy
        have cx2 := (B2x.out.cell (cell_lt CX.out)).trans CX.out; have cy2 := (B2x.out.cell (cell_lt CY.out)).trans CY.out
        have u2 : W2.cell? ⟨bu, ou + i, none⟩ = some (.int .i64 z) := by rw [b2.cell (cell_lt u0)]; exact u0
        have hd0 := HD.out.nonneg hx; have hd1 := HD.out.top x hx
        rw [hdu] at hd0 hd1
        have TG := Lib.hid (HD.out.tight hx hy hin' exy)
        rw [hz, hdu, hdy] at TG
        have xx0 : (0 : Int) ≤ (x : Int) := by omega
        have xl : (x : Int) < (m : Int) := by omega
        have yy0 : (0 : Int) ≤ (y : Int) := by omega
        have yl : (y : Int) < (m : Int) := by omega
        have RR2 := Lib.hid (RR.out.below b2 RR.out.lt); have X2 := Lib.hid r2
        have hyl : y < rl.length := by rw [RS.out.len]; exact hy
        have cb := RR2.out.cell (bls_get hyl)
        have fb := RR2.out.fr (i := y)
        obtain ⟨bb, hbb⟩ : ∃ bb, rl.getD y false = bb := ⟨_, rfl⟩
        rw [hbb] at cb
        have EXY := Lib.hid exy; have HZ := Lib.hid hz; have HDU := Lib.hid hdu; have HDY := Lib.hid hdy; have HX := Lib.hid hx; have HY := Lib.hid hy; have HBB := Lib.hid hbb
        have AO : Hid (∀ v u : Nat, ars.getD i (0, 0) = ((u : Int), (v : Int)) → u = x ∧ v = y) := fun v u e => by
          rw [EXY.out] at e; injection e with e1 e2; exact ⟨by omega, by omega⟩
        clear hi1 hin hi hin' exy hz hdu hdy r2 hx hy cx cy hyl hbb RR
        by_cases c1 : z < 0
        · have d1 : decide (z < 0) = true := by simpa using c1
          have RN : Hid (RB ars ws d m i1 rl) := by
            have p := RS.out.skip (fun v h => by obtain ⟨u, e, hw, _⟩ := h; rw [HZ.out] at hw; omega)
            rw [HI.out] at p; exact p
          clear hzb hd0 hd1 RS b2
          go_wp2_with fail
          go_roundw
          case measure => simp [intOf]; have := HI.out; have := HIN.out; omega
          case rel => exact ⟨i1, rl, by have := HI.out; have := HIN.out; omega, rfl, RR2, RN, B2x⟩
        · have d1 : decide (z < 0) = false := by simpa using c1
          by_cases c2 : du = INF
          · have d2 : (du == 1152921504606846976) = true := by simpa [INF] using c2
            have RN : Hid (RB ars ws d m i1 rl) := by
              have p := RS.out.skip (fun v h => by obtain ⟨u, e, hw, hl, _⟩ := h; rw [(AO.out v u e).1, HDU.out] at hl; omega)
              rw [HI.out] at p; exact p
            clear hzb hd0 hd1 RS b2 c2
            go_wp2_with fail
            go_roundw
            case measure => simp [intOf]; have := HI.out; have := HIN.out; omega
            case rel => exact ⟨i1, rl, by have := HI.out; have := HIN.out; omega, rfl, RR2, RN, B2x⟩
          · have d2 : (du == 1152921504606846976) = false := by simpa [INF] using c2
            obtain ⟨t, ht⟩ : ∃ t, du + z = t := ⟨_, rfl⟩
            have tw : IntKind.i64.wrap t = t := by rw [← ht]; rw [IntKind.wrap_i64]; unfold INF at hd1; omega
            have d3 : decide (t < dy) = false := by have h := TG.out (by omega) c2; rw [ht] at h; simp; omega
            have AT : Hid (∀ v, Att ars ws d i v → v = y ∧ t = dy) := fun v h => by
              obtain ⟨u, e, _, _, h4⟩ := h
              obtain ⟨e1, e2⟩ := AO.out v u e
              rw [e1, e2, HDU.out, HZ.out, HDY.out, ht] at h4
              exact ⟨e2, h4⟩
            have PUT : Hid (∀ b : Bool, (bb = true → b = true) → (t = dy → b = true) → RB ars ws d m i1 (rl.set y b)) := fun b h1 h2 => by
              have p := RS.out.put (b := b) HY.out (by rw [HBB.out]; exact h1) (fun h => h2 (AT.out _ h).2) (fun v h => (AT.out v h).1)
              rw [HI.out] at p; exact p
            clear hzb hd0 hd1 RS b2 c1 c2
            cases bb
            · by_cases c3 : t = dy
              · have t1 : (t == dy) = true := by simpa using c3
                obtain rfl : t = dy := c3
                have RN := Lib.hid (PUT.out true (fun _ => rfl) (fun _ => rfl))
                go_wp2_with fail
                go_quiet (fail)
                obtain ⟨W5, hW5⟩ : ∃ W5, W2.drewN nq = W5 := ⟨_, rfl⟩
                have b5 : Below W2.heap.size W2 W5 := by rw [← hW5]; exact below_drewN (Below.refl _ _) nq
                have r5 := X2.out.below b5 X2.out.lt
                have x0' := r5.cell (i := 0) rfl; have x1' := r5.cell (i := 1) rfl
                have B5x := B2x.out.trans (b5.mono B2x.out.size)
                have cx5 := (B5x.cell (cell_lt CX.out)).trans CX.out; have cy5 := (B5x.cell (cell_lt CY.out)).trans CY.out
                have u5 : W5.cell? ⟨bu, ou + i, none⟩ = some (.int .i64 z) := by rw [b5.cell (cell_lt u2)]; exact u2
                have RR5 := RR2.out.below b5 RR2.out.lt
                have cb5 : W5.cell? ⟨rB, y, none⟩ = some (.bool false) := by rw [b5.cell (cell_lt cb)]; exact cb
                have fb5 := RR5.fr (i := y)
                obtain ⟨W6, hW6⟩ : ∃ W6, W5.setCell ⟨rB, y, none⟩ (.bool true) = W6 := ⟨_, rfl⟩
                have RR6 : Hid (Row W6 rB 4 (bls (rl.set y true))) := by have p := RR5.set (i := y) (.bool true); rw [bls_set, hW6] at p; exact p
                have BW6 : Hid (Below w3.heap.size w3 W6) := by show Below _ _ _; rw [← hW6]; exact B5x.setCell RBS.out _
                clear r5 b5 B5x RR5 x0 x1 cx2 cy2 u2 cb fb q0 q1 o0 o1 u0 hW2
                go_wp2_with fail
                go_region
                all_goals
                  go_wp2_with fail
                  go_roundw
                  case measure => simp [intOf]; have := HI.out; have := HIN.out; omega
                  case rel => exact ⟨i1, _, by have := HI.out; have := HIN.out; omega, rfl, by first | exact RR6 | exact RR6.out.same rfl, RN, by first | exact BW6 | exact BW6.out.drew⟩
              · have t1 : (t == dy) = false := by simpa using c3
                have C3 := Lib.hid c3
                clear c3
                have RN := Lib.hid (PUT.out false (fun h => by cases h) (fun h => absurd h C3.out))
                go_wp2_with fail
                go_quiet (fail)
                obtain ⟨W5, hW5⟩ : ∃ W5, W2.drewN nq = W5 := ⟨_, rfl⟩
                have b5 : Below W2.heap.size W2 W5 := by rw [← hW5]; exact below_drewN (Below.refl _ _) nq
                have r5 := X2.out.below b5 X2.out.lt
                have x0' := r5.cell (i := 0) rfl; have x1' := r5.cell (i := 1) rfl
                have B5x := B2x.out.trans (b5.mono B2x.out.size)
                have cx5 := (B5x.cell (cell_lt CX.out)).trans CX.out; have cy5 := (B5x.cell (cell_lt CY.out)).trans CY.out
                have u5 : W5.cell? ⟨bu, ou + i, none⟩ = some (.int .i64 z) := by rw [b5.cell (cell_lt u2)]; exact u2
                have RR5 := RR2.out.below b5 RR2.out.lt
                have cb5 : W5.cell? ⟨rB, y, none⟩ = some (.bool false) := by rw [b5.cell (cell_lt cb)]; exact cb
                have fb5 := RR5.fr (i := y)
                obtain ⟨W6, hW6⟩ : ∃ W6, W5.setCell ⟨rB, y, none⟩ (.bool false) = W6 := ⟨_, rfl⟩
                have RR6 : Hid (Row W6 rB 4 (bls (rl.set y false))) := by have p := RR5.set (i := y) (.bool false); rw [bls_set, hW6] at p; exact p
                have BW6 : Hid (Below w3.heap.size w3 W6) := by show Below _ _ _; rw [← hW6]; exact B5x.setCell RBS.out _
                clear r5 b5 B5x RR5 x0 x1 cx2 cy2 u2 cb fb q0 q1 o0 o1 u0 hW2
                go_wp2_with fail
                go_region
                all_goals
                  go_wp2_with fail
                  go_roundw
                  case measure => simp [intOf]; have := HI.out; have := HIN.out; omega
                  case rel => exact ⟨i1, _, by have := HI.out; have := HIN.out; omega, rfl, by first | exact RR6 | exact RR6.out.same rfl, RN, by first | exact BW6 | exact BW6.out.drew⟩
            · have RN := Lib.hid (PUT.out true (fun _ => rfl) (fun _ => rfl))
              go_wp2_with fail
              go_quiet (fail)
              obtain ⟨W5, hW5⟩ : ∃ W5, W2.drewN nq = W5 := ⟨_, rfl⟩
              have b5 : Below W2.heap.size W2 W5 := by rw [← hW5]; exact below_drewN (Below.refl _ _) nq
              have r5 := X2.out.below b5 X2.out.lt
              have x0' := r5.cell (i := 0) rfl; have x1' := r5.cell (i := 1) rfl
              have B5x := B2x.out.trans (b5.mono B2x.out.size)
              have cx5 := (B5x.cell (cell_lt CX.out)).trans CX.out; have cy5 := (B5x.cell (cell_lt CY.out)).trans CY.out
              have u5 : W5.cell? ⟨bu, ou + i, none⟩ = some (.int .i64 z) := by rw [b5.cell (cell_lt u2)]; exact u2
              have RR5 := RR2.out.below b5 RR2.out.lt
              have cb5 : W5.cell? ⟨rB, y, none⟩ = some (.bool true) := by rw [b5.cell (cell_lt cb)]; exact cb
              have fb5 := RR5.fr (i := y)
              obtain ⟨W6, hW6⟩ : ∃ W6, W5.setCell ⟨rB, y, none⟩ (.bool true) = W6 := ⟨_, rfl⟩
              have RR6 : Hid (Row W6 rB 4 (bls (rl.set y true))) := by have p := RR5.set (i := y) (.bool true); rw [bls_set, hW6] at p; exact p
              have BW6 : Hid (Below w3.heap.size w3 W6) := by show Below _ _ _; rw [← hW6]; exact B5x.setCell RBS.out _
              clear r5 b5 B5x RR5 x0 x1 cx2 cy2 u2 cb fb q0 q1 o0 o1 u0 hW2
              go_wp2_with fail
              go_region
              all_goals
                go_wp2_with fail
                go_roundw
                case measure => simp [intOf]; have := HI.out; have := HIN.out; omega
                case rel => exact ⟨i1, _, by have := HI.out; have := HIN.out; omega, rfl, by first | exact RR6 | exact RR6.out.same rfl, RN, by first | exact BW6 | exact BW6.out.drew⟩
      · have il : ¬ (i : Int) < (n : Int) := by omega
        obtain rfl : i = n := by omega
        have ALL : Hid (∀ v, v < m → v ≠ q → d.getD v 0 ≠ INF → rl.getD v false = true) := fun v hv hs hl => by
          obtain ⟨i', h1, h2⟩ := HD.out.att_arc HO.out.arc hv hs hl
          exact RS.out.all i' v (by rw [HN.out] at h1; exact h1) hv h2
        have RLN : Hid (rl.length = m) := RS.out.len
        clear hi hin RS
        go_wp2_with fail
        clear q0 q1
        go_loopw [12] (fun s12 wq => ∃ v : Nat, v ≤ m ∧ s12 = .int .i64 (v : Int) ∧ Hid (Row wq rB 4 (bls rl)) ∧ Hid (Below w3.heap.size w3 wq)) (fun s12 _ => m - (intOf s12).toNat)
        case atStart => exact ⟨0, Nat.zero_le _, rfl, RR, BW⟩
        case round =>
          clear RR BW BX
          obtain ⟨v, hv, rfl, RR, BW⟩ := hrel
          have g4 := R3.out.below BW.out R3.out.lt
          have q0 := g4.cell (i := 0) rfl
          clear g4
          by_cases hvm : v < m
          · obtain ⟨bD', oD', e5, cv⟩ := HI3.out.at (k := v) (by rw [HD.out.len]; exact hvm)
            injection e5 with e5; injection e5 with e6 e7; subst e6 e7
            obtain ⟨dv, hdv⟩ : ∃ dv, d.getD v 0 = dv := ⟨_, rfl⟩
            rw [hdv] at cv
            have cv2 := (BW.out.cell (cell_lt cv)).trans cv
            have cb := RR.out.cell (bls_get (i := v) (by rw [RLN.out]; exact hvm))
            obtain ⟨bb, hbb⟩ : ∃ bb, rl.getD v false = bb := ⟨_, rfl⟩
            rw [hbb] at cb
            have AV := Lib.hid (ALL.out v hvm)
            rw [hdv, hbb] at AV
            obtain ⟨v1, hv1⟩ : ∃ v1, v + 1 = v1 := ⟨_, rfl⟩
            have HI := Lib.hid hv1; have HIN := Lib.hid hvm
            have v0 : (0 : Int) ≤ (v : Int) := by omega
            have vl : (v : Int) < (m : Int) := by omega
            have ve : (v : Int) + 1 = (v1 : Int) := by omega
            have vw : IntKind.i64.wrap (v1 : Int) = (v1 : Int) := by rw [IntKind.wrap_i64]; have := HM.out.1; omega
            clear hv1 hvm hv hdv hbb cv
            by_cases e1 : v = q
            · have d1 : ((v : Int) != (q : Int)) = false := by rw [e1]; simp
              clear e1
              go_wp2_with fail
              (try (go_quiet (fail)); go_wp2_with fail)
              go_roundw
              case measure => simp [intOf]; have := HI.out; have := HIN.out; omega
              case rel => exact ⟨v1, by have := HI.out; have := HIN.out; omega, rfl, by first | exact RR | exact RR.out.below (below_drewN (Below.refl _ _) _) RR.out.lt, by first | exact BW | exact below_drewN BW.out _⟩
            · have d1 : ((v : Int) != (q : Int)) = true := by simp; omega
              by_cases e2 : dv = INF
              · have d2 : (dv != 1152921504606846976) = false := by rw [e2]; decide
                clear e1 e2
                go_wp2_with fail
                (try (go_quiet (fail)); go_wp2_with fail)
                go_roundw
                case measure => simp [intOf]; have := HI.out; have := HIN.out; omega
                case rel => exact ⟨v1, by have := HI.out; have := HIN.out; omega, rfl, by first | exact RR | exact RR.out.below (below_drewN (Below.refl _ _) _) RR.out.lt, by first | exact BW | exact below_drewN BW.out _⟩
              · have d2 : (dv != 1152921504606846976) = true := by simpa [INF] using e2
                obtain rfl : bb = true := AV.out e1 e2
                clear e1 e2
                go_wp2_with fail
                (try (go_quiet (fail)); go_wp2_with fail)
                go_roundw
                case measure => simp [intOf]; have := HI.out; have := HIN.out; omega
                case rel => exact ⟨v1, by have := HI.out; have := HIN.out; omega, rfl, by first | exact RR | exact RR.out.below (below_drewN (Below.refl _ _) _) RR.out.lt, by first | exact BW | exact below_drewN BW.out _⟩
          · have vl : ¬ (v : Int) < (m : Int) := by omega
            have FB := Lib.hid (B3.out.trans (BW.out.mono B3.out.size))
            clear hv hvm
            go_wp2_with fail
            refine (lives38_any _).mono ?_; rintro e w9 ⟨rfl, b⟩
            have F9 := Lib.hid (FB.out.trans (b.mono FB.out.size))
            clear b
            go_wp2_with fail
            go_ret
            exact ⟨rfl, F9.out⟩
theorem arcs_many {w : World} {N s : Int} {n cap k uc : Nat} {a ua : Option Addr} (hf : fewD N n k = false) : Calls Try.prog 6 #[gv N (.slice a n cap), .slice ua k uc, .int .i64 s] w fun e w' => e = .returned (.bool true) ∧ Below w.heap.size w w' := by
  obtain ⟨W1, hW1⟩ : ∃ W1, w.alloc (.cells #[.int .i64 N, .slice a n cap] 24) = W1 := ⟨_, rfl⟩
  have r1 : Row W1 w.heap.size 24 [.int .i64 N, .slice a n cap] := by rw [← hW1]; exact Row.new _ _ _
  have b1 : Below w.heap.size w W1 := by rw [← hW1]; exact below_al _ _
  have FW := few_any N n cap k uc a ua
  rw [hf] at FW
  have FF := Lib.hid FW; have BB := Lib.hid b1
  have q0 := r1.cell (i := 0) rfl; have q1 := r1.cell (i := 1) rfl
  clear FW b1 r1 hf
  go_enter Try.func6, Try.ntmps6
  go_wp2_with fail
  refine (FF.out _).mono ?_; rintro e w3 ⟨rfl, b⟩
  have B3 := Lib.hid (BB.out.trans (b.mono BB.out.size))
  clear b
  go_wp2_with fail
  refine (lives38_any _).mono ?_; rintro e w4 ⟨rfl, b⟩
  have B4 := Lib.hid (B3.out.trans (b.mono B3.out.size))
  clear b
  go_wp2_with fail
  go_ret
  exact ⟨rfl, B4.out⟩
abbrev dijkstraArcs_zero0 : Value := gv 0 nilV
theorem dijkstraArcs_open0 {H : Type} {enc : TypeId × Value → H} {W : World} {base b0 : Nat} {spare : Nat → Bool} {held : Bool} {r : Reach} {v : Value} {d : DataW H} {p : List MemPlace}
    (hv : Value.okWide Try.prog W r b0 24 v) (h : DataW.Trod enc Try.prog W base spare held 24 v d p) : IsG W v := graph_open hv h
theorem dijkstraArcs_open1 {H : Type} {enc : TypeId × Value → H} {W : World} {base b0 : Nat} {spare : Nat → Bool} {held : Bool} {r : Reach} {v : Value} {d : DataW H} {p : List MemPlace}
    (hv : Value.okWide Try.prog W r b0 25 v) (h : DataW.Trod enc Try.prog W base spare held 25 v d p) : IsInts W v := ints_open hv h
theorem dijkstraArcs_walk (v u : Value) (s : Int) (w : World) (h : IsG w v) (h1 : IsInts w u) (_ : (Lit.int .i64 s).wf = true) : Calls Try.prog 6 #[v, u, .int .i64 s] w fun e w' => e = .returned (.bool true) ∧ Below w.heap.size w w' := by
  obtain ⟨N, x, ars, rfl, ha⟩ := h
  obtain ⟨ws, hw, _⟩ := h1
  by_cases hf : fewD N ars.length ws.length = true
  · exact arcs_few ha hw hf
  · obtain ⟨a, cap, rfl, _⟩ := ha
    obtain ⟨ua, uc, rfl⟩ := hw.form
    exact arcs_many (by simpa using hf)
end Go.Proofs.Ytgofachgoflgnaa
