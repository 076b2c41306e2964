/- dijkstra: DijkstraBack. -/
import Derived.Test.YtgofachgoflgnaaDn
namespace Go.Proofs.Ytgofachgoflgnaa
open Go.ChangeShapes Go.WideShapes Go.ChangeAt Go.RowKit Go.Joins Go.Deep

theorem Wk.join {ars : List (Int × Int)} {ws : List Int} {s v u : Nat} {c e : Int} (h : Wk ars ws s v c) (k : Wk ars ws v u e) : Wk ars ws s u (c + e) := by
  induction k with
  | nil => rw [Int.add_zero]; exact h
  | snoc _ hi e hw ih => rw [← Int.add_assoc]; exact .snoc ih hi e hw
theorem Wk.less {ars : List (Int × Int)} {ws : List Int} {i s v : Nat} {c : Int} (hl : i < ws.length) (h : Wk ars (ws.set i (-1)) s v c) : Wk ars ws s v c := by
  induction h with
  | nil => exact .nil
  | @snoc u v j c _ hj e hw ih =>
    have hne : j ≠ i := fun k => by
      rw [k, getD_set2 _ _ _ _ hl, if_pos rfl] at hw
      exact absurd hw (by decide)
    have ej : (ws.set i (-1)).getD j 0 = ws.getD j 0 := by rw [getD_set2 _ _ _ _ hl, if_neg (fun k => hne k.symm)]
    rw [ej] at hw ⊢
    exact .snoc ih hj e hw
theorem IsD.tri {ars : List (Int × Int)} {ws : List Int} {m s v u : Nat} {a c : List Int} (h : IsD ars ws m s a) (k : IsD ars ws m v c) (hv : v < m) (hu : u < m) (h1 : c.getD u 0 ≠ INF) (h2 : a.getD v 0 ≠ INF) : a.getD u 0 ≤ c.getD u 0 + a.getD v 0 := by
  rcases h.att v hv with e | e
  · exact absurd e h2
  · rcases k.att u hu with f | f
    · exact absurd f h1
    · have := h.low u hu _ (e.join f); omega
theorem IsD.more {ars : List (Int × Int)} {ws : List Int} {m s i u : Nat} {a x : List Int} (hl : i < ws.length) (h : IsD ars ws m s a) (k : IsD ars (ws.set i (-1)) m s x) (hu : u < m) : a.getD u 0 ≤ x.getD u 0 := by
  rcases k.att u hu with e | e
  · rw [e]; exact h.top u hu
  · exact h.low u hu _ (e.less hl)
theorem OkW.close {m : Nat} {ars : List (Int × Int)} {ws : List Int} (h : OkW m ars ws) (i : Nat) : OkW m ars (ws.set i (-1)) := by
  refine ⟨h.c, by rw [List.length_set]; exact h.l, fun j hj => ?_⟩
  rw [List.length_set] at hj
  by_cases hi : i < ws.length
  · rw [getD_set2 _ _ _ _ hi]
    by_cases e : i = j
    · rw [if_pos e]; decide
    · rw [if_neg e]; exact h.w j hj
  · rw [List.set_eq_of_length_le (by omega)]; exact h.w j hj
theorem nums_one (l : List Int) : ∀ u ∈ nums l, u.oneCell' = true := by
  intro u hu
  unfold nums at hu
  obtain ⟨y, _, rfl⟩ := List.mem_map.1 hu
  rfl
theorem own_all {W : World} {B k : Nat} {v : Value} {ws : List Int} (h : W.ownsRow B 3 1 v (0 + k) ([] ++ nums ws)) (hk : ws.length = k) (h0 : 0 < k) : ∃ g cap, v = .slice (some ⟨g, 0, none⟩) k cap ∧ B ≤ g ∧ Nums W g k cap ws := by
  rw [Nat.zero_add, List.nil_append] at h
  exact nums_of h hk h0
theorem grown_nil {w w' : World} (g : w.grownBy w' (Value.slice none 0 0).ownBlock) : Below w.heap.size w w' := (Below.refl w.heap.size w).grown g (Nat.le_refl _) (fun q e => by simp [Value.ownBlock] at e)
theorem row_set {W W' : World} {g r gB T : Nat} {cs : List Value} {x : Value} (h : W.setCell ⟨g, r, none⟩ x = W') (k : Row W gB T cs) (hn : gB ≠ g) : Row W' gB T cs := by rw [← h]; exact k.other hn
theorem nums_set {W W' : World} {g r n cap : Nat} {l : List Int} {y : Int} (h : W.setCell ⟨g, r, none⟩ (.int .i64 y) = W') (k : Nums W g n cap l) (z : Int) (hz : z = y := by rfl) : Nums W' g n cap (l.set r z) := by rw [← h, hz]; exact k.set y
theorem below_set {w W W' : World} {B g r : Nat} {x : Value} (h : W.setCell ⟨g, r, none⟩ x = W') (b : Below B w W) (hg : B ≤ g) : Below B w W' := by rw [← h]; exact b.setCell hg _
theorem ne_of_lt_le {a b c : Nat} (h : a < b) (k : b ≤ c) : a ≠ c := by omega
set_option maxRecDepth 100000 in
set_option maxHeartbeats 16000000 in
theorem back_few {w : World} {N s v x : Int} {vg u : Value} {ars : List (Int × Int)} {ws : List Int} (A : ArcsAt w vg ars) (U : IntsAt w u ws) (hf : fewD N ars.length ws.length = true) (hx0 : 0 ≤ x) (hx1 : x < 256) : Calls Try.prog 7 #[gv N vg, u, .int .i64 s, .int .i64 v, .int .u8 x] w fun e w' => e = .returned (.bool true) ∧ Below w.heap.size w w' := by
  obtain ⟨i0, hi, hz0, hz1, hz2⟩ := Go.info_parts Try.info3
  have II := Lib.hid hi; have Z0 := Lib.hid hz0; have Z1 := Lib.hid hz1; have Z2 := Lib.hid hz2
  have A0 := A; have U0 := U
  have F12 : Hid (N ≤ 12) := by unfold fewD at hf; simp at hf; exact hf.1
  obtain ⟨a, cap, rfl, _⟩ := A
  obtain ⟨ua, uc, rfl⟩ := U.form
  have FW := few_any N ars.length cap ws.length uc a ua
  rw [hf] at FW
  have FF := Lib.hid FW
  have C1 := Lib.hid (fun W s (b : Below w.heap.size w W) => to_any (N := N) (s := s) (A0.below b) (U0.below b))
  have C2 := Lib.hid (fun W (b : Below w.heap.size w W) (hc : chk N ars = 0) hl => revr_any (N := N) (A0.below b) hc hl)
  obtain ⟨n, hn⟩ : ∃ n, ars.length = n := ⟨_, rfl⟩
  obtain ⟨k, hk⟩ : ∃ k, ws.length = k := ⟨_, rfl⟩
  have HA : Hid (ArcsAt w (.slice a n cap) ars) := by have h := A0; rw [hn] at h; exact h
  have HU : Hid (IntsAt w (.slice ua k uc) ws) := by have h := U0; rw [hk] at h; exact h
  have HN := Lib.hid hn; have HK := Lib.hid hk
  have K60 : Hid (k ≤ 60) := by unfold fewD at hf; simp at hf; rw [← hk]; exact hf.2.2
  rw [hn, hk] at FF C1
  rw [hn] at C2
  rw [hn, hk]
  obtain ⟨gB, hgB⟩ : ∃ gB, w.heap.size = gB := ⟨_, rfl⟩
  obtain ⟨W1, hW1⟩ : ∃ W1, w.alloc (.cells #[.int .i64 N, .slice a n cap] 24) = W1 := ⟨_, rfl⟩
  have r1 : Row W1 gB 24 [.int .i64 N, .slice a n cap] := by rw [← hW1, ← hgB]; exact Row.new _ _ _
  have q0 := r1.cell (i := 0) rfl; have q1 := r1.cell (i := 1) rfl
  have b1 : Below w.heap.size w W1 := by rw [← hW1]; exact below_al _ _
  have B1 := Lib.hid b1; have R1 := Lib.hid r1; have HX := Lib.hid (And.intro hx0 hx1)
  clear hi hz0 hz1 hz2 A0 U0 U b1 r1 hn hk hf FW hx0 hx1
  go_enter Try.func7, Try.ntmps7
  go_wp2_with fail
  refine (FF.out _).mono ?_; rintro e w2 ⟨rfl, b⟩
  have B2 := Lib.hid (B1.out.trans (b.mono B1.out.size)); have R2 := Lib.hid (R1.out.below b R1.out.lt)
  clear b q0 q1 hW1
  have q0 := R2.out.cell (i := 0) rfl; have q1 := R2.out.cell (i := 1) rfl
  go_wp2_with fail
  refine (C1.out _ s B2.out).mono ?_; rintro e w3 hp
  rcases hp with ⟨c, h1, _, rfl, b⟩ | ⟨m, q, uA, da, rfl, rfl, hq, O, rfl, DA, ha, b⟩
  · have B3 := Lib.hid (B2.out.trans (b.mono B2.out.size))
    have c1 : (c == 0) = false := by simpa using h1
    have c2 : (c != 0) = true := by simpa using h1
    clear b h1 q0 q1
    go_wp2_with fail
    refine (lives38_any _).mono ?_; rintro e w5 ⟨rfl, b⟩
    have B5 := Lib.hid (B3.out.trans (b.mono B3.out.size))
    clear b
    go_wp2_with fail
    go_ret
    exact ⟨rfl, B5.out⟩
  · have B3 := Lib.hid (B2.out.trans (b.mono B2.out.size)); have R3 := Lib.hid (R2.out.below b R2.out.lt)
    have HO := Lib.hid O; have HDA := Lib.hid DA; have HQ := Lib.hid hq
    obtain ⟨aA, cA, hAe⟩ : ∃ aA cA, uA = .slice aA m cA := by obtain ⟨x, y, e⟩ := ha.form; rw [DA.len] at e; exact ⟨x, y, e⟩
    subst hAe
    have IA3 := Lib.hid ha
    clear b q0 q1 O DA ha hq
    have q0 := R3.out.cell (i := 0) rfl; have q1 := R3.out.cell (i := 1) rfl
    go_wp2_with fail
    refine (C2.out _ B3.out HO.out.c (by rw [← HN.out]; exact HO.out.size.2)).mono ?_; rintro e w4 ⟨u4, rfl, a4, b⟩
    have B4 := Lib.hid (B3.out.trans (b.mono B3.out.size)); have R4 := Lib.hid (R3.out.below b R3.out.lt); have A4 := Lib.hid a4
    have IA4 := Lib.hid (IA3.out.below b)
    clear b q0 q1 a4 IA3
    go_wp2_with fail
    refine (from_any (N := (m : Int)) (s := (q : Int)) A4.out (HU.out.below B4.out)).mono ?_; rintro e w5 hp
    rcases hp with ⟨c, h1, h2, rfl, b⟩ | ⟨m', q', uB, db, e1, e2, hq', O', rfl, DB, hb, b⟩
    · exact absurd h2.symm (by rw [ckv_one HO.out.flip HQ.out]; exact h1)
    · obtain rfl : m = m' := by omega
      obtain rfl : q = q' := by omega
      have eab : db = da := DB.unique HDA.out
      subst eab
      have B5 := Lib.hid (B4.out.trans (b.mono B4.out.size)); have R5 := Lib.hid (R4.out.below b R4.out.lt)
      have IA5 := Lib.hid (IA4.out.below b)
      obtain ⟨aB, cB, hBe⟩ : ∃ aB cB, uB = .slice aB m cB := by obtain ⟨x, y, e⟩ := hb.form; rw [DB.len] at e; exact ⟨x, y, e⟩
      subst hBe
      have EQ := Lib.hid (equal_t IA5.out hb (by rw [DB.len]; have := F12.out; omega))
      clear b e1 e2 hq' O' DB hb IA4 A4
      go_wp2_with fail
      refine EQ.out.mono ?_; rintro e w6 ⟨rfl, b⟩
      have B6 := Lib.hid (B5.out.trans (b.mono B5.out.size)); have R6 := Lib.hid (R5.out.below b R5.out.lt); have IA6 := Lib.hid (IA5.out.below b)
      clear b EQ
      have q0 := R6.out.cell (i := 0) rfl; have q1 := R6.out.cell (i := 1) rfl
      have mm : ((m : Int) != (m : Int)) = false := by simp
      go_wp2_with fail
      refine (C1.out _ v B6.out).mono ?_; rintro e w7 hp
      clear q0 q1
      have HM12 : Hid (m ≤ 12) := by have := F12.out; show m ≤ 12; omega
      rcases hp with ⟨c, h1, h2, rfl, b⟩ | ⟨m', qv, uC, dc, e1, e2, hqv, O', rfl, DC, hc, b⟩
      · have c1 : (c == 0) = false := by simpa using h1
        have B7 := Lib.hid (B6.out.trans (b.mono B6.out.size)); have R7 := Lib.hid (R6.out.below b R6.out.lt); have IA7 := Lib.hid (IA6.out.below b)
        clear b h1 h2
        have q0 := R7.out.cell (i := 0) rfl; have q1 := R7.out.cell (i := 1) rfl
        go_wp2_with fail
        go_loopw [17] (fun s17 wr => s17 = .int .i64 0 ∧ wr = w7) (fun _ _ => 0)
        case atStart => exact ⟨rfl, rfl⟩
        case round =>
          obtain ⟨rfl, rfl⟩ := hrel
          have B8 := B7; have R8 := R7; have IA8 := IA7
          clear q0 q1
          have q0 := R8.out.cell (i := 0) rfl; have q1 := R8.out.cell (i := 1) rfl
          by_cases hk0 : k = 0
          · have k0 : ((k : Int) == 0) = true := by rw [hk0]; rfl
            clear hk0
            go_wp2_with fail
            refine (lives38_any _).mono ?_; rintro e w9 ⟨rfl, b⟩
            have B9 := Lib.hid (B8.out.trans (b.mono B8.out.size))
            clear b
            go_wp2_with fail
            go_ret
            exact ⟨rfl, B9.out⟩
          · have k0 : ((k : Int) == 0) = false := by simp; omega
            have kz : ¬ ((k : Int) = 0) := by omega
            obtain ⟨bu, ou, hua, u0⟩ := HU.out.at (k := 0) (by rw [HK.out]; omega)
            subst hua
            have SRC : Hid (∀ W, Below w.heap.size w W → ∀ (j : Nat) (z : Value), (nums ws)[j]? = some z → W.cell? ((⟨bu, ou, none⟩ : Addr).add j) = some z) := fun W b j z hz => by
              have hj : j < ws.length := by have := (List.getElem?_eq_some_iff.1 hz).1; simpa [nums] using this
              obtain ⟨bu', ou', e5, cj⟩ := (HU.out.below b).at (k := j) hj
              injection e5 with e5; injection e5 with e6 e7; subst e6 e7
              have e8 : (nums ws)[j]? = some (.int .i64 (ws.getD j 0)) := by simp [nums, List.getD, List.getElem?_eq_getElem hj]
              rw [e8] at hz; injection hz with hz
              rw [Addr.add_lit, ← hz]; exact cj
            obtain ⟨r, tm, hrk⟩ : ∃ r : Nat, x.tmod (k : Int) = (r : Int) ∧ r < k := by
              have h1 := HX.out.1
              have e1 : x.tmod (k : Int) = x % (k : Int) := Int.tmod_eq_emod_of_nonneg h1
              have h2 := Int.emod_nonneg x kz
              have h3 := Int.emod_lt_of_pos x (show (0 : Int) < (k : Int) by omega)
              exact ⟨(x.tmod (k : Int)).toNat, by omega, by omega⟩
            have xw : IntKind.i64.wrap x = x := by rw [IntKind.wrap_i64]; have := HX.out; omega
            have rw1 : IntKind.i64.wrap (r : Int) = (r : Int) := by rw [IntKind.wrap_i64]; have := K60.out; omega
            have r00 : (0 : Int) ≤ (r : Int) := by omega
            have rl : (r : Int) < (k : Int) := by omega
            have HR := Lib.hid hrk; have HKP : Hid (0 < k) := by show 0 < k; omega
            clear hrk hk0 u0
            go_wp2_with (at_builtin; refine wpList_append_own_at _ rfl _ _ 25 rfl wr.heap.size 3 i0 (.int .i64 0) 1 8 Try.underlying25 II.out Z0.out Z1.out Z2.out rfl (by decide) (.slice none 0 0) 0 [] rfl (World.ownsRow_nil _ _ _ _) ⟨bu, ou, none⟩ k uc (nums ws) rfl (by unfold nums; rw [List.length_map, HK.out, Nat.mul_one]) (SRC.out _ B8.out) (nums_one ws) (by have := K60.out; unfold maxLen; omega) (by have := K60.out; omega) (Nat.le_refl _) ?_; intro v' w9 hown' hgrow hnil hloc; have G9 := Lib.hid hgrow; obtain ⟨g, cg, hv9, hg9, n9⟩ := own_all hown' HK.out HKP.out; clear hown' hgrow hnil hloc; subst hv9; have HG9 := Lib.hid hg9; obtain ⟨c9, f9⟩ := n9.at_ HR.out; obtain ⟨o9, ho9⟩ : ∃ z, ws.getD r 0 = z := ⟨_, rfl⟩; rw [ho9] at c9; obtain ⟨W10, hW10⟩ : ∃ W, w9.setCell ⟨g, r, none⟩ (.int .i64 (-1)) = W := ⟨_, rfl⟩; have b89 := Lib.hid (grown_nil G9.out); have r10 := row_set hW10 (R8.out.below b89.out R8.out.lt) (ne_of_lt_le R8.out.lt HG9.out); have p0 := r10.cell (i := 0) rfl; have p1 := r10.cell (i := 1) rfl; have N10 := Lib.hid (nums_set hW10 n9 (-1)); have b8X := Lib.hid (below_set hW10 b89.out HG9.out); have RX := Lib.hid r10; clear n9 hg9 r10 ho9)
            have BX := Lib.hid (B8.out.trans (b8X.out.mono B8.out.size)); have IAX := Lib.hid (IA8.out.below b8X.out)
            refine (to_any (N := (m : Int)) (s := (q : Int)) (HA.out.below BX.out) N10.out.ints).mono ?_; rintro e w11 hp
            clear p0 p1 c9 f9 q0 q1 hW10
            rcases hp with ⟨c, h1, h2, rfl, b⟩ | ⟨m'', q'', uX, dx, e1, e2, hq'', O'', rfl, DX, hxx, b⟩
            · exact absurd h2.symm (by rw [ckv_one (HO.out.close r) HQ.out]; exact h1)
            · obtain rfl : m = m'' := by omega
              obtain rfl : q = q'' := by omega
              obtain ⟨aX, cX, hXe⟩ : ∃ aX cX, uX = .slice aX m cX := by obtain ⟨x, y, e⟩ := hxx.form; rw [DX.len] at e; exact ⟨x, y, e⟩
              subst hXe
              have MORE : Hid (∀ u, u < m → db.getD u 0 ≤ dx.getD u 0) := fun u hu => IsD.more (by rw [HK.out]; exact HR.out) HDA.out DX hu
              have B11 := Lib.hid (BX.out.trans (b.mono BX.out.size)); have R11 := Lib.hid (RX.out.below b RX.out.lt); have IA11 := Lib.hid (IAX.out.below b); have IX11 := Lib.hid hxx; have XL := Lib.hid DX.len
              clear b e1 e2 hq'' O'' DX hxx
              have q0 := R11.out.cell (i := 0) rfl; have q1 := R11.out.cell (i := 1) rfl
              go_wp2_with fail
              clear q0 q1
              go_loopw [21] (fun s21 wq => ∃ u : Nat, u ≤ m ∧ s21 = .int .i64 (u : Int) ∧ Hid (Below w11.heap.size w11 wq)) (fun s21 _ => m - (intOf s21).toNat)
              case atStart => exact ⟨0, Nat.zero_le _, rfl, Below.refl _ _⟩
              case round =>
                obtain ⟨u, hu, rfl, BW⟩ := hrel
                have g4 := R11.out.below BW.out R11.out.lt
                have q0 := g4.cell (i := 0) rfl
                clear g4
                by_cases hum : u < m
                · obtain ⟨b1, o1, hae, cx⟩ := (IX11.out.below BW.out).at (k := u) (by rw [XL.out]; exact hum)
                  subst hae
                  obtain ⟨b2, o2, hae, ca⟩ := (IA11.out.below BW.out).at (k := u) (by rw [HDA.out.len]; exact hum)
                  subst hae
                  have LE := MORE.out u hum
                  obtain ⟨y1, hy1⟩ : ∃ z, dx.getD u 0 = z := ⟨_, rfl⟩
                  obtain ⟨y2, hy2⟩ : ∃ z, db.getD u 0 = z := ⟨_, rfl⟩
                  rw [hy1] at cx LE
                  rw [hy2] at ca LE
                  have d1 : decide (y1 < y2) = false := by simp; omega
                  obtain ⟨u1, hu1⟩ : ∃ u1, u + 1 = u1 := ⟨_, rfl⟩
                  have HI := Lib.hid hu1; have HIN := Lib.hid hum
                  have v0 : (0 : Int) ≤ (u : Int) := by omega
                  have vl : (u : Int) < (m : Int) := by omega
                  have ve : (u : Int) + 1 = (u1 : Int) := by omega
                  have vw : IntKind.i64.wrap (u1 : Int) = (u1 : Int) := by rw [IntKind.wrap_i64]; have := HM12.out; omega
                  clear hu1 hum hu hy1 hy2 LE
                  go_wp2_with fail
                  (try (go_quiet (fail)); go_wp2_with fail)
                  go_roundw
                  case measure => simp [intOf]; have := HI.out; have := HIN.out; omega
                  case rel => exact ⟨u1, by have := HI.out; have := HIN.out; omega, rfl, by first | exact BW | exact below_drewN BW.out _⟩
                · have vl : ¬ (u : Int) < (m : Int) := by omega
                  have FB := Lib.hid (B11.out.trans (BW.out.mono B11.out.size))
                  clear hu hum
                  go_wp2_with fail
                  refine (lives38_any _).mono ?_; rintro e w12 ⟨rfl, b⟩
                  have F9 := Lib.hid (FB.out.trans (b.mono FB.out.size))
                  clear b
                  go_wp2_with fail
                  go_ret
                  exact ⟨rfl, F9.out⟩
      · obtain rfl : m = m' := by omega
        obtain ⟨aC, cC, hCe⟩ : ∃ aC cC, uC = .slice aC m cC := by obtain ⟨x, y, e⟩ := hc.form; rw [DC.len] at e; exact ⟨x, y, e⟩
        subst hCe
        subst e2
        have B7 := Lib.hid (B6.out.trans (b.mono B6.out.size)); have R7 := Lib.hid (R6.out.below b R6.out.lt); have IA7 := Lib.hid (IA6.out.below b); have IC7 := Lib.hid hc; have CL := Lib.hid DC.len; have HQV := Lib.hid hqv
        have TRI : Hid (∀ u, u < m → dc.getD u 0 ≠ INF → db.getD qv 0 ≠ INF → db.getD u 0 ≤ dc.getD u 0 + db.getD qv 0) := fun u hu h1 h2 => HDA.out.tri DC HQV.out hu h1 h2
        have CT : Hid (∀ u, u < m → 0 ≤ dc.getD u 0 ∧ dc.getD u 0 ≤ INF) := fun u hu => ⟨DC.nonneg hu, DC.top u hu⟩
        clear b e1 O' DC hc hqv
        have q0 := R7.out.cell (i := 0) rfl; have q1 := R7.out.cell (i := 1) rfl
        have v00 : (0 : Int) ≤ (qv : Int) := by omega
        have vvl : (qv : Int) < (m : Int) := by have := HQV.out; omega
        have vn : ¬ (qv : Int) < 0 := by omega
        have vn' : decide ((qv : Int) < 0) = false := by simp
        have vm : ¬ (m : Int) ≤ (qv : Int) := by omega
        have vm' : decide (m ≤ qv) = false := by simp; have := HQV.out; omega
        go_wp2_with fail
        clear q0 q1 vn vn' vm vm'
        go_loopw [17] (fun s17 wr => ∃ u : Nat, u ≤ m ∧ s17 = .int .i64 (u : Int) ∧ Hid (Below w7.heap.size w7 wr)) (fun s17 _ => m - (intOf s17).toNat)
        case atStart => exact ⟨0, Nat.zero_le _, rfl, Below.refl _ _⟩
        case round =>
          obtain ⟨uu, hu, rfl, BW⟩ := hrel
          by_cases hum : uu < m
          · have g4 := R7.out.below BW.out R7.out.lt
            have q0 := g4.cell (i := 0) rfl
            obtain ⟨b1, o1, hae, cx⟩ := (IC7.out.below BW.out).at (k := uu) (by rw [CL.out]; exact hum)
            subst hae
            obtain ⟨b2, o2, hae, ca⟩ := (IA7.out.below BW.out).at (k := uu) (by rw [HDA.out.len]; exact hum)
            subst hae
            obtain ⟨b2', o2', e5, cv⟩ := (IA7.out.below BW.out).at (k := qv) (by rw [HDA.out.len]; exact HQV.out)
            injection e5 with e5; injection e5 with e6 e7; subst e6 e7
            have T3 := TRI.out uu hum; have T1 := CT.out uu hum; have T2 := HDA.out.top qv HQV.out; have T4 := HDA.out.nonneg HQV.out
            obtain ⟨y1, hy1⟩ : ∃ z, dc.getD uu 0 = z := ⟨_, rfl⟩
            obtain ⟨y2, hy2⟩ : ∃ z, db.getD uu 0 = z := ⟨_, rfl⟩
            obtain ⟨y3, hy3⟩ : ∃ z, db.getD qv 0 = z := ⟨_, rfl⟩
            rw [hy1] at cx T1 T3
            rw [hy2] at ca T3
            rw [hy3] at cv T2 T3 T4
            obtain ⟨u1, hu1⟩ : ∃ u1, uu + 1 = u1 := ⟨_, rfl⟩
            have HI := Lib.hid hu1; have HIN := Lib.hid hum
            have v0 : (0 : Int) ≤ (uu : Int) := by omega
            have vl : (uu : Int) < (m : Int) := by omega
            have ve : (uu : Int) + 1 = (u1 : Int) := by omega
            have vw : IntKind.i64.wrap (u1 : Int) = (u1 : Int) := by rw [IntKind.wrap_i64]; have := HM12.out; omega
            clear hu1 hum hu hy1 hy2 hy3 g4
            by_cases e1 : y1 = INF
            · have d1 : (y1 != 1152921504606846976) = false := by rw [e1]; decide
              clear e1 T1 T2 T3 T4
              go_wp2_with fail
              (try (go_quiet (fail)); go_wp2_with fail)
              go_roundw
              case measure => simp [intOf]; have := HI.out; have := HIN.out; omega
              case rel => exact ⟨u1, by have := HI.out; have := HIN.out; omega, rfl, by first | exact BW | exact below_drewN BW.out _⟩
            · have d1 : (y1 != 1152921504606846976) = true := by simpa [INF] using e1
              by_cases e2 : y3 = INF
              · have d2 : (y3 != 1152921504606846976) = false := by rw [e2]; decide
                clear e1 e2 T1 T2 T3 T4
                go_wp2_with fail
                (try (go_quiet (fail)); go_wp2_with fail)
                go_roundw
                case measure => simp [intOf]; have := HI.out; have := HIN.out; omega
                case rel => exact ⟨u1, by have := HI.out; have := HIN.out; omega, rfl, by first | exact BW | exact below_drewN BW.out _⟩
              · have d2 : (y3 != 1152921504606846976) = true := by simpa [INF] using e2
                obtain ⟨t, ht⟩ : ∃ t, y1 + y3 = t := ⟨_, rfl⟩
                have tw : IntKind.i64.wrap t = t := by rw [← ht]; rw [IntKind.wrap_i64]; unfold INF at T1 T2; omega
                have d3 : decide (t < y2) = false := by have h := T3 e1 e2; rw [ht] at h; simp; omega
                clear e1 e2 T1 T2 T3 T4
                go_wp2_with fail
                (try (go_quiet (fail)); go_wp2_with fail)
                go_roundw
                case measure => simp [intOf]; have := HI.out; have := HIN.out; omega
                case rel => exact ⟨u1, by have := HI.out; have := HIN.out; omega, rfl, by first | exact BW | exact below_drewN BW.out _⟩
          · obtain rfl : uu = m := by omega
            have vl : ¬ (uu : Int) < (uu : Int) := by omega
            have B8 := Lib.hid (B7.out.trans (BW.out.mono B7.out.size)); have R8 := Lib.hid (R7.out.below BW.out R7.out.lt); have IA8 := Lib.hid (IA7.out.below BW.out)
            clear hu hum
            have q0 := R8.out.cell (i := 0) rfl; have q1 := R8.out.cell (i := 1) rfl
            by_cases hk0 : k = 0
            · have k0 : ((k : Int) == 0) = true := by rw [hk0]; rfl
              clear hk0
              go_wp2_with fail
              refine (lives38_any _).mono ?_; rintro e w9 ⟨rfl, b⟩
              have B9 := Lib.hid (B8.out.trans (b.mono B8.out.size))
              clear b
              go_wp2_with fail
              go_ret
              exact ⟨rfl, B9.out⟩
            · have k0 : ((k : Int) == 0) = false := by simp; omega
              have kz : ¬ ((k : Int) = 0) := by omega
              obtain ⟨bu, ou, hua, u0⟩ := HU.out.at (k := 0) (by rw [HK.out]; omega)
              subst hua
              have SRC : Hid (∀ W, Below w.heap.size w W → ∀ (j : Nat) (z : Value), (nums ws)[j]? = some z → W.cell? ((⟨bu, ou, none⟩ : Addr).add j) = some z) := fun W b j z hz => by
                have hj : j < ws.length := by have := (List.getElem?_eq_some_iff.1 hz).1; simpa [nums] using this
                obtain ⟨bu', ou', e5, cj⟩ := (HU.out.below b).at (k := j) hj
                injection e5 with e5; injection e5 with e6 e7; subst e6 e7
                have e8 : (nums ws)[j]? = some (.int .i64 (ws.getD j 0)) := by simp [nums, List.getD, List.getElem?_eq_getElem hj]
                rw [e8] at hz; injection hz with hz
                rw [Addr.add_lit, ← hz]; exact cj
              obtain ⟨r, tm, hrk⟩ : ∃ r : Nat, x.tmod (k : Int) = (r : Int) ∧ r < k := by
                have h1 := HX.out.1
                have e1 : x.tmod (k : Int) = x % (k : Int) := Int.tmod_eq_emod_of_nonneg h1
                have h2 := Int.emod_nonneg x kz
                have h3 := Int.emod_lt_of_pos x (show (0 : Int) < (k : Int) by omega)
                exact ⟨(x.tmod (k : Int)).toNat, by omega, by omega⟩
              have xw : IntKind.i64.wrap x = x := by rw [IntKind.wrap_i64]; have := HX.out; omega
              have rw1 : IntKind.i64.wrap (r : Int) = (r : Int) := by rw [IntKind.wrap_i64]; have := K60.out; omega
              have r00 : (0 : Int) ≤ (r : Int) := by omega
              have rl : (r : Int) < (k : Int) := by omega
              have HR := Lib.hid hrk; have HKP : Hid (0 < k) := by show 0 < k; omega
              clear hrk hk0 u0
              go_wp2_with (at_builtin; refine wpList_append_own_at _ rfl _ _ 25 rfl wr.heap.size 3 i0 (.int .i64 0) 1 8 Try.underlying25 II.out Z0.out Z1.out Z2.out rfl (by decide) (.slice none 0 0) 0 [] rfl (World.ownsRow_nil _ _ _ _) ⟨bu, ou, none⟩ k uc (nums ws) rfl (by unfold nums; rw [List.length_map, HK.out, Nat.mul_one]) (SRC.out _ B8.out) (nums_one ws) (by have := K60.out; unfold maxLen; omega) (by have := K60.out; omega) (Nat.le_refl _) ?_; intro v' w9 hown' hgrow hnil hloc; have G9 := Lib.hid hgrow; obtain ⟨g, cg, hv9, hg9, n9⟩ := own_all hown' HK.out HKP.out; clear hown' hgrow hnil hloc; subst hv9; have HG9 := Lib.hid hg9; obtain ⟨c9, f9⟩ := n9.at_ HR.out; obtain ⟨o9, ho9⟩ : ∃ z, ws.getD r 0 = z := ⟨_, rfl⟩; rw [ho9] at c9; obtain ⟨W10, hW10⟩ : ∃ W, w9.setCell ⟨g, r, none⟩ (.int .i64 (-1)) = W := ⟨_, rfl⟩; have b89 := Lib.hid (grown_nil G9.out); have r10 := row_set hW10 (R8.out.below b89.out R8.out.lt) (ne_of_lt_le R8.out.lt HG9.out); have p0 := r10.cell (i := 0) rfl; have p1 := r10.cell (i := 1) rfl; have N10 := Lib.hid (nums_set hW10 n9 (-1)); have b8X := Lib.hid (below_set hW10 b89.out HG9.out); have RX := Lib.hid r10; clear n9 hg9 r10 ho9)
              have BX := Lib.hid (B8.out.trans (b8X.out.mono B8.out.size)); have IAX := Lib.hid (IA8.out.below b8X.out)
              refine (to_any (N := (uu : Int)) (s := (q : Int)) (HA.out.below BX.out) N10.out.ints).mono ?_; rintro e w11 hp
              clear p0 p1 c9 f9 q0 q1 hW10
              rcases hp with ⟨c, h1, h2, rfl, b⟩ | ⟨m'', q'', uX, dx, e1, e2, hq'', O'', rfl, DX, hxx, b⟩
              · exact absurd h2.symm (by rw [ckv_one (HO.out.close r) HQ.out]; exact h1)
              · obtain rfl : uu = m'' := by omega
                obtain rfl : q = q'' := by omega
                obtain ⟨aX, cX, hXe⟩ : ∃ aX cX, uX = .slice aX uu cX := by obtain ⟨x, y, e⟩ := hxx.form; rw [DX.len] at e; exact ⟨x, y, e⟩
                subst hXe
                have MORE : Hid (∀ u, u < uu → db.getD u 0 ≤ dx.getD u 0) := fun u hu => IsD.more (by rw [HK.out]; exact HR.out) HDA.out DX hu
                have B11 := Lib.hid (BX.out.trans (b.mono BX.out.size)); have R11 := Lib.hid (RX.out.below b RX.out.lt); have IA11 := Lib.hid (IAX.out.below b); have IX11 := Lib.hid hxx; have XL := Lib.hid DX.len
                clear b e1 e2 hq'' O'' DX hxx
                have q0 := R11.out.cell (i := 0) rfl; have q1 := R11.out.cell (i := 1) rfl
                go_wp2_with fail
                clear q0 q1
                go_loopw [21] (fun s21 wq => ∃ u : Nat, u ≤ uu ∧ s21 = .int .i64 (u : Int) ∧ Hid (Below w11.heap.size w11 wq)) (fun s21 _ => uu - (intOf s21).toNat)
                case atStart => exact ⟨0, Nat.zero_le _, rfl, Below.refl _ _⟩
                case round =>
                  obtain ⟨u, hu, rfl, BW⟩ := hrel
                  have g4 := R11.out.below BW.out R11.out.lt
                  have q0 := g4.cell (i := 0) rfl
                  clear g4
                  by_cases hum : u < uu
                  · obtain ⟨b1, o1, hae, cx⟩ := (IX11.out.below BW.out).at (k := u) (by rw [XL.out]; exact hum)
                    subst hae
                    obtain ⟨b2, o2, hae, ca⟩ := (IA11.out.below BW.out).at (k := u) (by rw [HDA.out.len]; exact hum)
                    subst hae
                    have LE := MORE.out u hum
                    obtain ⟨y1, hy1⟩ : ∃ z, dx.getD u 0 = z := ⟨_, rfl⟩
                    obtain ⟨y2, hy2⟩ : ∃ z, db.getD u 0 = z := ⟨_, rfl⟩
                    rw [hy1] at cx LE
                    rw [hy2] at ca LE
                    have d1 : decide (y1 < y2) = false := by simp; omega
                    obtain ⟨u1, hu1⟩ : ∃ u1, u + 1 = u1 := ⟨_, rfl⟩
                    have HI := Lib.hid hu1; have HIN := Lib.hid hum
                    have v0 : (0 : Int) ≤ (u : Int) := by omega
                    have vl : (u : Int) < (uu : Int) := by omega
                    have ve : (u : Int) + 1 = (u1 : Int) := by omega
                    have vw : IntKind.i64.wrap (u1 : Int) = (u1 : Int) := by rw [IntKind.wrap_i64]; have := HM12.out; omega
                    clear hu1 hum hu hy1 hy2 LE
                    go_wp2_with fail
                    (try (go_quiet (fail)); go_wp2_with fail)
                    go_roundw
                    case measure => simp [intOf]; have := HI.out; have := HIN.out; omega
                    case rel => exact ⟨u1, by have := HI.out; have := HIN.out; omega, rfl, by first | exact BW | exact below_drewN BW.out _⟩
                  · have vl : ¬ (u : Int) < (uu : Int) := by omega
                    have FB := Lib.hid (B11.out.trans (BW.out.mono B11.out.size))
                    clear hu hum
                    go_wp2_with fail
                    refine (lives38_any _).mono ?_; rintro e w12 ⟨rfl, b⟩
                    have F9 := Lib.hid (FB.out.trans (b.mono FB.out.size))
                    clear b
                    go_wp2_with fail
                    go_ret
                    exact ⟨rfl, F9.out⟩
set_option maxRecDepth 100000 in
set_option maxHeartbeats 4000000 in
theorem back_many {w : World} {N s v x : Int} {n cap k uc : Nat} {a ua : Option Addr} (hf : fewD N n k = false) : Calls Try.prog 7 #[gv N (.slice a n cap), .slice ua k uc, .int .i64 s, .int .i64 v, .int .u8 x] w fun e w' => e = .returned (.bool true) ∧ Below w.heap.size w w' := by
  obtain ⟨W1, hW1⟩ : ∃ W1, w.alloc (.cells #[.int .i64 N, .slice a n cap] 24) = W1 := ⟨_, rfl⟩
  have r1 : Row W1 w.heap.size 24 [.int .i64 N, .slice a n cap] := by rw [← hW1]; exact Row.new _ _ _
  have b1 : Below w.heap.size w W1 := by rw [← hW1]; exact below_al _ _
  have FW := few_any N n cap k uc a ua
  rw [hf] at FW
  have FF := Lib.hid FW; have BB := Lib.hid b1
  have q0 := r1.cell (i := 0) rfl; have q1 := r1.cell (i := 1) rfl
  clear FW b1 r1 hf
  go_enter Try.func7, Try.ntmps7
  go_wp2_with fail
  refine (FF.out _).mono ?_; rintro e w3 ⟨rfl, b⟩
  have B3 := Lib.hid (BB.out.trans (b.mono BB.out.size))
  clear b
  go_wp2_with fail
  refine (lives38_any _).mono ?_; rintro e w4 ⟨rfl, b⟩
  have B4 := Lib.hid (B3.out.trans (b.mono B3.out.size))
  clear b
  go_wp2_with fail
  go_ret
  exact ⟨rfl, B4.out⟩
abbrev dijkstraBack_zero0 : Value := gv 0 nilV
theorem dijkstraBack_open0 {H : Type} {enc : TypeId × Value → H} {W : World} {base b0 : Nat} {spare : Nat → Bool} {held : Bool} {r : Reach} {v : Value} {d : DataW H} {p : List MemPlace}
    (hv : Value.okWide Try.prog W r b0 24 v) (h : DataW.Trod enc Try.prog W base spare held 24 v d p) : IsG W v := graph_open hv h
theorem dijkstraBack_open1 {H : Type} {enc : TypeId × Value → H} {W : World} {base b0 : Nat} {spare : Nat → Bool} {held : Bool} {r : Reach} {v : Value} {d : DataW H} {p : List MemPlace}
    (hv : Value.okWide Try.prog W r b0 25 v) (h : DataW.Trod enc Try.prog W base spare held 25 v d p) : IsInts W v := ints_open hv h
theorem dijkstraBack_walk (vg u : Value) (s v x : Int) (w : World) (h : IsG w vg) (h1 : IsInts w u) (_ : (Lit.int .i64 s).wf = true) (_ : (Lit.int .i64 v).wf = true) (hx : (Lit.int .u8 x).wf = true) : Calls Try.prog 7 #[vg, u, .int .i64 s, .int .i64 v, .int .u8 x] w fun e w' => e = .returned (.bool true) ∧ Below w.heap.size w w' := by
  obtain ⟨N, y, ars, rfl, ha⟩ := h
  obtain ⟨ws, hw, _⟩ := h1
  have hx' : 0 ≤ x ∧ x ≤ 255 := by simp only [Lit.wf, Bool.and_eq_true, decide_eq_true_eq] at hx; exact hx
  by_cases hf : fewD N ars.length ws.length = true
  · exact back_few ha hw hf hx'.1 (by omega)
  · obtain ⟨a, cap, rfl, _⟩ := ha
    obtain ⟨ua, uc, rfl⟩ := hw.form
    exact back_many (by simpa using hf)
end Go.Proofs.Ytgofachgoflgnaa
