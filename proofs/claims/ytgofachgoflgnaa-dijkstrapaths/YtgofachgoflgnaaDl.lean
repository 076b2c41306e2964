/- dijkstra: Path. -/
import Derived.Test.YtgofachgoflgnaaDk
namespace Go.Proofs.Ytgofachgoflgnaa
open Go.ChangeShapes Go.WideShapes Go.ChangeAt Go.RowKit Go.Joins Go.Deep

theorem ints_two {W : World} {xb : Nat} {s t : Int} (c : W.cell? ⟨xb, 0, none⟩ = some (.int .i64 s)) (d : W.cell? ⟨xb, 1, none⟩ = some (.int .i64 t)) : IntsAt W (.slice (some ⟨xb, 0, none⟩) 2 2) [s, t] :=
  ⟨_, 2, rfl, Nat.le_refl _, Or.inr ⟨xb, 0, rfl, cell_lt c, fun j hj => by
    have h : j = 0 ∨ j = 1 := by simp at hj; omega
    rcases h with rfl | rfl
    · exact c
    · exact d⟩⟩
def PPost (ars : List (Int × Int)) (ws : List Int) (N s t : Int) (w : World) (e : Ending) (w' : World) : Prop :=
  (∃ c : Int, c ≠ 0 ∧ ckv N ars ws [s, t] = c ∧ e = .returned (.tuple #[nilV, .int .i64 0, .int .i64 c]) ∧ Below w.heap.size w w') ∨
  (∃ (m q r : Nat) (d : List Int), N = (m : Int) ∧ s = (q : Int) ∧ t = (r : Int) ∧ q < m ∧ r < m ∧ OkW m ars ws ∧ IsD ars ws m q d ∧ d.getD r 0 = INF ∧ e = .returned (.tuple #[nilV, .int .i64 0, .int .i64 18]) ∧ Below w.heap.size w w') ∨
  (∃ (m q r : Nat) (d : List Int) (u : Value) (pl : List Int), N = (m : Int) ∧ s = (q : Int) ∧ t = (r : Int) ∧ q < m ∧ r < m ∧ OkW m ars ws ∧ IsD ars ws m q d ∧ d.getD r 0 < INF ∧ e = .returned (.tuple #[u, .int .i64 (d.getD r 0), .int .i64 0]) ∧ IntsAt w' u pl ∧ pl.length ≤ m ∧ cst ars ws (q : Int) 0 pl = some (d.getD r 0, (r : Int)) ∧ Below w.heap.size w w')
set_option maxRecDepth 100000 in
set_option maxHeartbeats 8000000 in
theorem path_any {w : World} {N s t : Int} {v u : Value} {ars : List (Int × Int)} {ws : List Int} (A : ArcsAt w v ars) (U : IntsAt w u ws) : Calls Try.prog 17 #[gv N v, u, .int .i64 s, .int .i64 t] w (PPost ars ws N s t w) := by
  have A0 := A; have U0 := U
  obtain ⟨a, cap, rfl, _⟩ := A
  obtain ⟨ua, uc, rfl⟩ := U.form
  have CK : Hid (∀ W xb, Below w.heap.size w W → W.cell? ⟨xb, 0, none⟩ = some (.int .i64 s) → W.cell? ⟨xb, 1, none⟩ = some (.int .i64 t) → Calls Try.prog 22 #[gv N (.slice a ars.length cap), .slice ua ws.length uc, .slice (some ⟨xb, 0, none⟩) 2 2] W fun e w' => e = .returned (.int .i64 (ckv N ars ws [s, t])) ∧ Below W.heap.size W w') := fun W xb b c d => ckv_any (A0.below b) (U0.below b) (ints_two c d) (by simp)
  obtain ⟨n, hn⟩ : ∃ n, ars.length = n := ⟨_, rfl⟩
  obtain ⟨k, hk⟩ : ∃ k, ws.length = k := ⟨_, rfl⟩
  have HA : Hid (ArcsAt w (.slice a n cap) ars) := by have h := A0; rw [hn] at h; exact h
  have HU : Hid (IntsAt w (.slice ua k uc) ws) := by have h := U0; rw [hk] at h; exact h
  have HN := Lib.hid hn
  rw [hn, hk] at CK
  rw [hn, hk]
  obtain ⟨gB, hgB⟩ : ∃ gB, w.heap.size = gB := ⟨_, rfl⟩
  obtain ⟨W1, hW1⟩ : ∃ W1, w.alloc (.cells #[.int .i64 N, .slice a n cap] 24) = W1 := ⟨_, rfl⟩
  obtain ⟨xB, hxB⟩ : ∃ xB, W1.heap.size = xB := ⟨_, rfl⟩
  obtain ⟨W2, hW2⟩ : ∃ W2, W1.alloc (.cells #[.int .i64 s, .int .i64 t] 3) = W2 := ⟨_, rfl⟩
  have r1 : Row W1 gB 24 [.int .i64 N, .slice a n cap] := by rw [← hW1, ← hgB]; exact Row.new _ _ _
  have g0 := r1.cell (i := 0) rfl; have g1 := r1.cell (i := 1) rfl
  have b1 : Below w.heap.size w W1 := by rw [← hW1]; exact below_al _ _
  have b2 : Below W1.heap.size W1 W2 := by rw [← hW2]; exact below_al _ _
  have r2 := r1.below b2 r1.lt
  have x2 : W2.cell? ⟨xB, 0, none⟩ = some (.int .i64 s) := by rw [← hW2, ← hxB]; exact (Row.new _ _ [.int .i64 s, .int .i64 t]).cell (i := 0) rfl
  have x3 : W2.cell? ⟨xB, 1, none⟩ = some (.int .i64 t) := by rw [← hW2, ← hxB]; exact (Row.new _ _ [.int .i64 s, .int .i64 t]).cell (i := 1) rfl
  have B2 := Lib.hid (b1.trans (b2.mono b1.size))
  have CC := Lib.hid (CK.out W2 xB B2.out x2 x3)
  have R2 := Lib.hid r2
  clear A0 U0 U b1 b2 r1 r2 x2 x3 hn hk CK
  by_cases hc : ckv N ars ws [s, t] = 0
  · obtain ⟨h1, h2⟩ := ckv_zero hc
    obtain ⟨m, rfl, O⟩ := ck_ok h1
    have hs := h2 s (List.mem_cons_self ..)
    have ht := h2 t (List.mem_cons_of_mem _ (List.mem_singleton.2 rfl))
    unfold out at hs ht
    obtain ⟨q, rfl⟩ : ∃ q : Nat, s = (q : Int) := ⟨s.toNat, by omega⟩
    obtain ⟨r, rfl⟩ : ∃ r : Nat, t = (r : Int) := ⟨t.toNat, by omega⟩
    have HS : Hid (q < m) := by show q < m; omega
    have HT : Hid (r < m) := by show r < m; omega
    have HO := Lib.hid O
    have HM : Hid (m ≤ 1048576) := O.size.1
    have r0 : (0 : Int) ≤ (r : Int) := by omega
    have rl : (r : Int) < (m : Int) := by have := HT.out; omega
    obtain ⟨i0, hi, hz0, hz1, hz2⟩ := Go.info_parts Try.info3
    have II := Lib.hid hi; have Z0 := Lib.hid hz0; have Z1 := Lib.hid hz1; have Z2 := Lib.hid hz2
    rw [hc] at CC
    clear hi hz0 hz1 hz2 hc h1 h2 O hs ht
    go_enter Try.func17, Try.ntmps17
    go_wp2_with fail
    refine CC.out.mono ?_; rintro e w4 ⟨rfl, b⟩
    have B4 := Lib.hid (B2.out.trans (b.mono B2.out.size))
    have R4 := Lib.hid (R2.out.below b R2.out.lt)
    clear b g0 g1 hW1 hW2 CC
    have g0 := R4.out.cell (i := 0) rfl; have g1 := R4.out.cell (i := 1) rfl
    go_wp2_with fail
    refine (search_any (HA.out.below B4.out) (HU.out.below B4.out) HO.out HS.out).mono ?_; rintro e w5 ⟨uD, uL, d, la, rfl, sr, hd, hl, b⟩
    have B5 := Lib.hid (B4.out.trans (b.mono B4.out.size)); have SR5 := Lib.hid sr
    have R5 := Lib.hid (R4.out.below b R4.out.lt)
    obtain ⟨aD, cD, hDe⟩ : ∃ aD cD, uD = .slice aD m cD := by obtain ⟨x, y, e⟩ := hd.form; rw [sr.isd.len] at e; exact ⟨x, y, e⟩
    obtain ⟨aL, cL, hLe⟩ : ∃ aL cL, uL = .slice aL m cL := by obtain ⟨x, y, e⟩ := hl.form; rw [sr.ll] at e; exact ⟨x, y, e⟩
    subst hDe hLe
    obtain ⟨bD, oD, hae, dr⟩ := hd.at (k := r) (by rw [sr.isd.len]; exact HT.out)
    subst hae
    obtain ⟨bL, oL, hae, lr⟩ := hl.at (k := r) (by rw [sr.ll]; exact HT.out)
    subst hae
    obtain ⟨dt, hdt⟩ : ∃ dt, d.getD r 0 = dt := ⟨_, rfl⟩
    rw [hdt] at dr
    have HDT := Lib.hid hdt; have HDR := Lib.hid dr
    have HD := Lib.hid hd; have HL := Lib.hid hl
    clear b g0 g1 sr hd hl hdt R4
    by_cases hI : dt = INF
    · have d1 : (dt == 1152921504606846976) = true := by simpa [INF] using hI
      have V : Hid (d.getD r 0 = INF) := by rw [HDT.out]; exact hI
      clear hI
      go_wp2_with fail
      go_ret3
      exact Or.inr (Or.inl ⟨m, q, r, d, rfl, rfl, rfl, HS.out, HT.out, HO.out, SR5.out.isd, V.out, rfl, B5.out⟩)
    · have d1 : (dt == 1152921504606846976) = false := by simpa [INF] using hI
      have V : Hid (d.getD r 0 < INF) := by have h := SR5.out.isd.top r HT.out; rw [HDT.out] at h; show d.getD r 0 < INF; rw [HDT.out]; omega
      clear hI
      obtain ⟨ps, rk, v1, v2⟩ := SR5.out.via
      have V1 := Lib.hid v1; have V2 := Lib.hid v2
      clear v1 v2
      go_wp2_with fail
      clear dr lr d1
      go_loopg [14, 15] (rk r + 1) (fun gk s14 s15 wr => ∃ (x : Nat) (pl : List Int), s15 = .int .i64 (la.getD x 0) ∧ Hid (x < m ∧ d.getD x 0 < INF) ∧ Hid (gk = rk x + 1 ∧ pl.length + rk x ≤ rk r) ∧ Hid (wr.ownsRow w5.heap.size 3 1 s14 pl.length (nums pl)) ∧ Hid (cst ars ws (x : Int) 0 pl.reverse = some (d.getD r 0 - d.getD x 0, (r : Int))) ∧ Hid (Below w5.heap.size w5 wr))
      case atStart => exact ⟨r, [], by simp, ⟨HT.out, V.out⟩, ⟨rfl, by simp⟩, World.ownsRow_nil _ _ _ _, by show cst _ _ _ _ [] = _; unfold cst; simp, Below.refl _ _⟩
      case round =>
        obtain ⟨x, pl, rfl, HX, HG, OW, CS, BW⟩ := hrel
        obtain ⟨a4, c4, h4⟩ := row_formB OW.out
        subst h4
        obtain ⟨le, hle⟩ : ∃ le, pl.length = le := ⟨_, rfl⟩
        have OW' : Hid (wr.ownsRow w5.heap.size 3 1 (.slice a4 le c4) le (nums pl)) := by have h := OW.out; rw [hle] at h; exact h
        rw [hle]
        have HE := Lib.hid hle
        have LE : Hid (le < m) := by have h1 := HG.out.2; have h2 := (V2.out r (V1.out r HT.out V.out).1).2.2; show le < m; omega
        clear hle OW
        rcases (V1.out x HX.out.1 HX.out.2).2 with ⟨hxq, hla⟩ | ⟨hne, i, p, hla, hi, epx, hw, hp, hdx, hrk⟩
        · have hq0 : d.getD q 0 = 0 := by
            have h1 := SR5.out.isd.low q HS.out 0 .nil
            have h2 := SR5.out.isd.nonneg HS.out
            omega
          have FC : Hid (cst ars ws (q : Int) 0 pl.reverse = some (d.getD r 0, (r : Int))) := by
            have h := CS.out
            rw [hxq, hq0] at h
            rw [h]; congr 2; omega
          rw [hla]
          have dc := (HD.out.below BW.out)
          have dr : wr.cell? ⟨bD, oD + r, none⟩ = some (.int .i64 dt) := by rw [BW.out.cell (cell_lt HDR.out)]; exact HDR.out
          clear dc hla hxq hq0 CS
          rcases OW'.out.2 with ⟨e4, e5⟩ | ⟨g, cg, cur, e4, hg, _⟩
          · injection e4 with e4 _ e6
            have hl0 : pl = [] := by
              have h := OW'.out.1
              have : le = 0 := e5
              have h2 := HE.out
              exact List.length_eq_zero_iff.1 (by omega)
            subst e4 e5 e6
            have BF := Lib.hid (B5.out.trans (BW.out.mono B5.out.size))
            rw [hl0] at FC
            go_wp2_with fail
            refine (reverse_nil _).mono ?_; rintro e w8 ⟨rfl, rfl⟩
            go_wp2_with fail
            go_quiet (fail)
            go_wp2_with fail
            go_ret3
            exact Or.inr (Or.inr ⟨m, q, r, d, _, [], rfl, rfl, rfl, HS.out, HT.out, HO.out, SR5.out.isd, V.out, by rw [HDT.out]; rfl, ints_nil _, Nat.zero_le _, FC.out, below_drewN BF.out _⟩)
          · injection e4 with e4 _ e6
            subst e4 e6
            have NU : Nums wr g le c4 pl := ⟨own_base OW'.out (Nat.zero_le _), HE.out⟩
            have RV := Lib.hid (reverse_any NU (by have h1 := LE.out; have h2 := HM.out; omega))
            have HGG := Lib.hid hg
            clear NU hg
            go_wp2_with fail
            refine RV.out.mono ?_; rintro e w8 ⟨rfl, nu, f8⟩
            have B8 := Lib.hid (BW.out.trans (f8.below BW.out.size (fun j e => by rw [e]; exact HGG.out)))
            have dr' : w8.cell? ⟨bD, oD + r, none⟩ = some (.int .i64 dt) := by rw [B8.out.cell (cell_lt HDR.out)]; exact HDR.out
            have NU8 := Lib.hid nu
            have BF := Lib.hid (B5.out.trans (B8.out.mono B5.out.size))
            clear nu f8 dr RV
            go_wp2_with fail
            go_quiet (fail)
            go_wp2_with fail
            go_ret3
            exact Or.inr (Or.inr ⟨m, q, r, d, _, pl.reverse, rfl, rfl, rfl, HS.out, HT.out, HO.out, SR5.out.isd, V.out, by rw [HDT.out]; rfl, (NU8.out.ints).below (below_drewN (Below.refl _ _) _), by rw [List.length_reverse, HE.out]; exact Nat.le_of_lt LE.out, FC.out, below_drewN BF.out _⟩)
        · rw [hla]
          have hpm := V2.out p hp
          have HP := Lib.hid hpm
          have n1 : ((i : Int) != -1) = true := by simp <;> omega
          obtain ⟨ba, oa, hae, o0, o1⟩ := (HA.out.below B5.out).at_ hi
          subst hae
          rw [epx] at o0 o1
          dsimp only at o0 o1
          obtain ⟨bL', oL', e5, lp⟩ := HL.out.at (k := p) (by rw [SR5.out.ll]; exact hpm.1)
          injection e5 with e5; injection e5 with e6 e7; subst e6 e7
          have SB : Hid (w5.heap.size ≤ wr.heap.size) := BW.out.size
          have i00 : (0 : Int) ≤ (i : Int) := by omega
          have il : (i : Int) < (n : Int) := by have := HN.out; omega
          have p00 : (0 : Int) ≤ (p : Int) := by omega
          have pll : (p : Int) < (m : Int) := by have := hpm.1; omega
          have CN : Hid (cst ars ws (p : Int) 0 (pl ++ [(i : Int)]).reverse = some (d.getD r 0 - d.getD p 0, (r : Int))) := by
            show _ = _
            rw [List.reverse_append, List.reverse_singleton, List.singleton_append, cst_cons hi epx hw CS.out]
            congr 2; omega
          have GN : Hid (rk p + 1 < gk ∧ (pl ++ [(i : Int)]).length + rk p ≤ rk r) := by
            have h1 := HG.out
            have h2 := hrk (V1.out x HX.out.1 HX.out.2).1
            rw [List.length_append]; simp only [List.length_cons, List.length_nil]
            exact ⟨by omega, by omega⟩
          obtain ⟨lpv, hlpv⟩ : ∃ z, la.getD p 0 = z := ⟨_, rfl⟩
          rw [hlpv] at lp
          have HLP := Lib.hid hlpv
          have LQ := Lib.hid lp; have OQ := Lib.hid o0
          clear hpm hla hi epx hw hp hdx hrk hne hlpv CS HG HX lp o0 o1
          go_wp2_with (at_builtin; refine wpList_append_own_at _ rfl _ _ 25 rfl w5.heap.size 3 i0 (.int .i64 0) 1 8 Try.underlying25 II.out Z0.out Z1.out Z2.out rfl (by decide) (.slice a4 le c4) le (nums pl) rfl (OW'.out.alloc _) ⟨wr.heap.size, 0, none⟩ 1 1 [.int .i64 i] rfl rfl (cell_one_new _ _ _) (by simp [Value.oneCell']) (by have := HM.out; have := LE.out; unfold maxLen; omega) (by have := HM.out; have := LE.out; omega) (by have := SB.out; simp <;> omega) ?_; intro v' w7 hown' hgrow hnil hloc; have O7 := Lib.hid hown'; have G7 := Lib.hid hgrow; clear hown' hgrow hnil hloc; have B7 := Lib.hid ((BW.out.alloc SB.out _).grown G7.out (by have := SB.out; simp <;> omega) (fun q e => (OW'.out.lt q e).1)); have lp7 : w7.cell? ⟨bL, oL + p, none⟩ = some (.int .i64 lpv) := (B7.out.cell (cell_lt LQ.out)).trans LQ.out; have o07 : w7.cell? ⟨ba, oa + i * 2, none⟩ = some (.int .i64 (p : Int)) := (B7.out.cell (cell_lt OQ.out)).trans OQ.out; have g17 := (R5.out.below B7.out R5.out.lt).cell (i := 1) rfl)
          have O8 : Hid (w7.ownsRow w5.heap.size 3 1 v' (pl ++ [(i : Int)]).length (nums (pl ++ [(i : Int)]))) := by
            show World.ownsRow _ _ _ _ _ _ _
            rw [nums_append, List.length_append, HE.out]; exact O7.out
          clear lp7 o07 g17
          rw [← HLP.out]
          go_roundg (rk p + 1)
          case measure => exact GN.out.1
          case rel => exact ⟨p, pl ++ [(i : Int)], rfl, ⟨HP.out.1, HP.out.2.1⟩, ⟨rfl, GN.out.2⟩, O8, CN, B7⟩
  · obtain ⟨c, hcc⟩ : ∃ c, ckv N ars ws [s, t] = c := ⟨_, rfl⟩
    have HC := Lib.hid hcc
    rw [hcc] at CC hc
    have HZ := Lib.hid hc
    have c1 : (c == 0) = false := by simpa using hc
    have c2 : (c != 0) = true := by simpa using hc
    clear hc hcc
    go_enter Try.func17, Try.ntmps17
    go_wp2_with fail
    refine CC.out.mono ?_; rintro e w4 ⟨rfl, b⟩
    have B4 := Lib.hid (B2.out.trans (b.mono B2.out.size))
    clear b g0 g1 hW1 hW2
    go_wp2_with fail
    go_ret3
    exact Or.inl ⟨c, HZ.out, HC.out, rfl, B4.out⟩
end Go.Proofs.Ytgofachgoflgnaa
