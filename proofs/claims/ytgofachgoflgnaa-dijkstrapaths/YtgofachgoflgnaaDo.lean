/- dijkstra: Cost, the program's and the reference's; DijkstraCosts. -/
import Derived.Test.YtgofachgoflgnaaDn
namespace Go.Proofs.Ytgofachgoflgnaa
open Go.ChangeShapes Go.WideShapes Go.ChangeAt Go.RowKit Go.Joins Go.Deep

def cres (N : Int) (ars : List (Int × Int)) (ws : List Int) (s t : Int) (path : List Int) : Int × Bool :=
  if ckv N ars ws [s, t] = 0 then (match cst ars ws s 0 path with | some (c, r) => if r = t then (c, true) else (0, false) | none => (0, false)) else (0, false)
theorem cres_bad {N : Int} {ars : List (Int × Int)} {ws : List Int} {s t : Int} {path : List Int} (h : ckv N ars ws [s, t] ≠ 0) : cres N ars ws s t path = (0, false) := if_neg h
theorem cres_none {N : Int} {ars : List (Int × Int)} {ws : List Int} {s t : Int} {path : List Int} (h : ckv N ars ws [s, t] = 0) (k : cst ars ws s 0 path = none) : cres N ars ws s t path = (0, false) := by unfold cres; rw [if_pos h, k]
theorem cres_some {N : Int} {ars : List (Int × Int)} {ws : List Int} {s t : Int} {path : List Int} {c r : Int} (h : ckv N ars ws [s, t] = 0) (k : cst ars ws s 0 path = some (c, r)) : cres N ars ws s t path = if r = t then (c, true) else (0, false) := by unfold cres; rw [if_pos h, k]
def CPost (r : Int × Bool) (w : World) (e : Ending) (w' : World) : Prop := e = .returned (.tuple #[.int .i64 r.1, .bool r.2]) ∧ Below w.heap.size w w'
theorem drop_at {l : List Int} {j : Nat} (h : j < l.length) : l.drop j = l.getD j 0 :: l.drop (j + 1) := by
  rw [List.drop_eq_getElem_cons h, List.getD, List.getElem?_eq_getElem h]; rfl
set_option maxRecDepth 100000 in
set_option maxHeartbeats 8000000 in
theorem cost_any {w : World} {N s t : Int} {v u p : Value} {ars : List (Int × Int)} {ws path : List Int} (A : ArcsAt w v ars) (U : IntsAt w u ws) (P : IntsAt w p path) (hp60 : path.length ≤ 60) : Calls Try.prog 20 #[gv N v, u, .int .i64 s, .int .i64 t, p] w (CPost (cres N ars ws s t path) w) := by
  have A0 := A; have U0 := U; have P0 := P
  obtain ⟨a, cap, rfl, _⟩ := A
  obtain ⟨ua, uc, rfl⟩ := U.form
  obtain ⟨pa, pc, rfl⟩ := P.form
  have CK : Hid (∀ W xb, Below w.heap.size w W → W.cell? ⟨xb, 0, none⟩ = some (.int .i64 s) → W.cell? ⟨xb, 1, none⟩ = some (.int .i64 t) → Calls Try.prog 22 #[gv N (.slice a ars.length cap), .slice ua ws.length uc, .slice (some ⟨xb, 0, none⟩) 2 2] W fun e w' => e = .returned (.int .i64 (ckv N ars ws [s, t])) ∧ Below W.heap.size W w') := fun W xb b c d => ckv_any (A0.below b) (U0.below b) (ints_two c d) (by simp)
  obtain ⟨n, hn⟩ : ∃ n, ars.length = n := ⟨_, rfl⟩
  obtain ⟨k, hk⟩ : ∃ k, ws.length = k := ⟨_, rfl⟩
  obtain ⟨pk, hpk⟩ : ∃ pk, path.length = pk := ⟨_, rfl⟩
  have HA : Hid (ArcsAt w (.slice a n cap) ars) := by have h := A0; rw [hn] at h; exact h
  have HU : Hid (IntsAt w (.slice ua k uc) ws) := by have h := U0; rw [hk] at h; exact h
  have HP : Hid (IntsAt w (.slice pa pk pc) path) := by have h := P0; rw [hpk] at h; exact h
  have HN := Lib.hid hn; have HK := Lib.hid hk; have HPK := Lib.hid hpk
  have HP60 : Hid (pk ≤ 60) := by rw [hpk] at hp60; exact hp60
  rw [hn, hk] at CK
  rw [hn, hk, hpk]
  obtain ⟨gB, hgB⟩ : ∃ gB, w.heap.size = gB := ⟨_, rfl⟩
  obtain ⟨W1, hW1⟩ : ∃ W1, w.alloc (.cells #[.int .i64 N, .slice a n cap] 24) = W1 := ⟨_, rfl⟩
  have r1 : Row W1 gB 24 [.int .i64 N, .slice a n cap] := by rw [← hW1, ← hgB]; exact Row.new _ _ _
  have g0 := r1.cell (i := 0) rfl; have g1 := r1.cell (i := 1) rfl
  have b1 : Below w.heap.size w W1 := by rw [← hW1]; exact below_al _ _
  obtain ⟨xB, hxB⟩ : ∃ xB, W1.heap.size = xB := ⟨_, rfl⟩
  obtain ⟨W2, hW2⟩ : ∃ W2, W1.alloc (.cells #[.int .i64 s, .int .i64 t] 3) = W2 := ⟨_, rfl⟩
  have b2 : Below W1.heap.size W1 W2 := by rw [← hW2]; exact below_al _ _
  have r2 := r1.below b2 r1.lt
  have x2 : W2.cell? ⟨xB, 0, none⟩ = some (.int .i64 s) := by rw [← hW2, ← hxB]; exact (Row.new _ _ [.int .i64 s, .int .i64 t]).cell (i := 0) rfl
  have x3 : W2.cell? ⟨xB, 1, none⟩ = some (.int .i64 t) := by rw [← hW2, ← hxB]; exact (Row.new _ _ [.int .i64 s, .int .i64 t]).cell (i := 1) rfl
  have B2 := Lib.hid (b1.trans (b2.mono b1.size))
  have CC := Lib.hid (CK.out W2 xB B2.out x2 x3)
  have R2 := Lib.hid r2
  clear A0 U0 U P0 P b1 b2 r1 r2 x2 x3 hn hk hpk hp60 CK
  by_cases hc : ckv N ars ws [s, t] = 0
  · obtain ⟨h1, h2⟩ := ckv_zero hc
    obtain ⟨m, rfl, O⟩ := ck_ok h1
    have HO := Lib.hid O; have CV := Lib.hid hc
    rw [hc] at CC
    clear hc h1 h2 O
    go_enter Try.func20, Try.ntmps20
    go_wp2_with fail
    refine CC.out.mono ?_; rintro e w4 ⟨rfl, b⟩
    have B4 := Lib.hid (B2.out.trans (b.mono B2.out.size))
    have R4 := Lib.hid (R2.out.below b R2.out.lt)
    clear b g0 g1 hW1 hW2 CC
    go_wp2_with fail
    go_loopw [12, 13, 26] (fun sa ss si wr => ∃ (j : Nat) (at_ sum : Int), j ≤ pk ∧ sa = .int .i64 at_ ∧ ss = .int .i64 sum ∧ si = .int .i64 (j : Int) ∧ Hid (cst ars ws s 0 path = cst ars ws at_ sum (path.drop j)) ∧ Hid (0 ≤ sum ∧ sum ≤ (j : Int) * 1073741824) ∧ Hid (Below w4.heap.size w4 wr)) (fun _ _ si _ => pk - (intOf si).toNat)
    case atStart => exact ⟨0, s, 0, Nat.zero_le _, rfl, rfl, rfl, rfl, ⟨Int.le_refl _, by simp⟩, Below.refl _ _⟩
    case round =>
      obtain ⟨j, at_, sum, hj, rfl, rfl, rfl, CS, SU, BW⟩ := hrel
      have rr := R4.out.below BW.out R4.out.lt
      have g0 := rr.cell (i := 0) rfl; have g1 := rr.cell (i := 1) rfl
      have BX := Lib.hid (B4.out.trans (BW.out.mono B4.out.size))
      clear rr
      by_cases hjk : j < pk
      · obtain ⟨bp, op, hpa, p0⟩ := (HP.out.below BX.out).at (k := j) (by rw [HPK.out]; exact hjk)
        subst hpa
        have DP := Lib.hid (drop_at (l := path) (j := j) (by rw [HPK.out]; exact hjk))
        obtain ⟨kk, hkk⟩ : ∃ kk, path.getD j 0 = kk := ⟨_, rfl⟩
        rw [hkk] at p0 DP
        have CT : Hid (cst ars ws s 0 path = if kk < 0 ∨ (ars.length : Int) ≤ kk ∨ ws.getD kk.toNat 0 < 0 ∨ (ars.getD kk.toNat (0, 0)).1 ≠ at_ then none else cst ars ws (ars.getD kk.toNat (0, 0)).2 (sum + ws.getD kk.toNat 0) (path.drop (j + 1))) := by
          show _ = _
          rw [CS.out, DP.out, cst]
        obtain ⟨j1, hj1⟩ : ∃ j1, j + 1 = j1 := ⟨_, rfl⟩
        have HJ := Lib.hid hj1; have HJK := Lib.hid hjk
        have j00 : (0 : Int) ≤ (j : Int) := by omega
        have jl : (j : Int) < (pk : Int) := by omega
        have e1 : (j : Int) + 1 = (j1 : Int) := by omega
        have e2 : IntKind.i64.wrap (j1 : Int) = (j1 : Int) := by rw [IntKind.wrap_i64]; have := HP60.out; omega
        clear hkk hj1 hj hjk CS
        by_cases c0 : kk < 0
        · have V : Hid (cres (m : Int) ars ws s t path = (0, false)) := cres_none CV.out (by rw [CT.out, if_pos (Or.inl c0)])
          go_wp2_with fail
          go_ret2
          exact ⟨by rw [V.out]; rfl, BX.out⟩
        · by_cases c1 : (n : Int) ≤ kk
          · have V : Hid (cres (m : Int) ars ws s t path = (0, false)) := cres_none CV.out (by rw [CT.out, if_pos (Or.inr (Or.inl (by rw [HN.out]; exact c1)))])
            have c1' : (k : Int) ≤ kk := by have h1 := HO.out.l; have h2 := HN.out; have h3 := HK.out; omega
            go_wp2_with fail
            go_ret2
            exact ⟨by rw [V.out]; rfl, BX.out⟩
          · obtain ⟨q, rfl⟩ : ∃ q : Nat, kk = (q : Int) := ⟨kk.toNat, by omega⟩
            have hq : q < ars.length := by have := HN.out; omega
            obtain ⟨x, y, exy, hx, hy⟩ := arc_nat HO.out.arc hq
            obtain ⟨ba, oa, haa, o0, o1⟩ := (HA.out.below BX.out).at_ hq
            subst haa
            obtain ⟨bu, ou, hua, u0⟩ := (HU.out.below BX.out).at (k := q) (by rw [HO.out.l]; exact hq)
            subst hua
            have hzb := HO.out.w q (by rw [HO.out.l]; exact hq)
            rw [Int.toNat_natCast, exy] at CT
            dsimp only at CT
            rw [exy] at o0 o1
            dsimp only at o0 o1
            obtain ⟨z, hz⟩ : ∃ z, ws.getD q 0 = z := ⟨_, rfl⟩
            rw [hz] at CT u0 hzb
            have q00 : (0 : Int) ≤ (q : Int) := by omega
            have ql : (q : Int) < (n : Int) := by omega
            have qk : (q : Int) < (k : Int) := by have h1 := HO.out.l; have h2 := HN.out; have h3 := HK.out; omega
            have qn : decide ((q : Int) < 0) = false := by simp
            have qn1 : decide (n ≤ q) = false := by simp; omega
            have qn2 : decide (k ≤ q) = false := by simp; omega
            have qn3 : ¬ (k : Int) ≤ (q : Int) := by omega
            have HQL := Lib.hid hq
            clear hx hy hq exy hz
            by_cases c2 : z < 0
            · have V : Hid (cres (m : Int) ars ws s t path = (0, false)) := cres_none CV.out (by rw [CT.out, if_pos (Or.inr (Or.inr (Or.inl c2)))])
              obtain rfl : z = -1 := by omega
              clear c2 hzb
              go_wp2_with fail
              go_ret2
              exact ⟨by rw [V.out]; rfl, BX.out⟩
            · have z1 : (z == -1) = false := by simp; omega
              have z2 : decide (z < 0) = false := by simp; omega
              by_cases c3 : (x : Int) = at_
              · subst c3
                have CN : Hid (cst ars ws s 0 path = cst ars ws (y : Int) (sum + z) (path.drop j1)) := by
                  show _ = _
                  rw [CT.out, if_neg (by have h1 := HN.out; have h2 := HQL.out; omega), HJ.out]
                obtain ⟨t1, ht1⟩ : ∃ t1, sum + z = t1 := ⟨_, rfl⟩
                rw [ht1] at CN
                have tw : IntKind.i64.wrap t1 = t1 := by rw [← ht1]; rw [IntKind.wrap_i64]; have h1 := SU.out; have h2 := HP60.out; omega
                have SU2 : Hid (0 ≤ t1 ∧ t1 ≤ (j1 : Int) * 1073741824) := by have h1 := SU.out; rw [← ht1]; show 0 ≤ sum + z ∧ _; omega
                have xx : ((x : Int) != (x : Int)) = false := by simp
                clear CT c2 hzb
                go_wp2_with fail
                (try (go_quiet (fail)); go_wp2_with fail)
                go_roundw
                case measure => simp [intOf]; have := HJ.out; have := HJK.out; omega
                case rel => exact ⟨j1, (y : Int), t1, by have := HJ.out; have := HJK.out; omega, rfl, rfl, rfl, CN, SU2, by first | exact BW | exact below_drewN BW.out _ | exact BW.out.drew⟩
              · have V : Hid (cres (m : Int) ars ws s t path = (0, false)) := cres_none CV.out (by rw [CT.out, if_pos (Or.inr (Or.inr (Or.inr c3)))])
                have x1 : ((x : Int) != at_) = true := by simpa using c3
                clear c2 c3 hzb
                go_wp2_with fail
                go_ret2
                exact ⟨by rw [V.out]; rfl, BX.out⟩
      · have jl : ¬ (j : Int) < (pk : Int) := by omega
        obtain rfl : j = pk := by omega
        have CE : Hid (cst ars ws s 0 path = some (sum, at_)) := by
          show _ = _
          rw [CS.out, List.drop_of_length_le (by rw [HPK.out]; exact Nat.le_refl _), cst]
        clear CS hj hjk
        by_cases c4 : at_ = t
        · subst c4
          have V : Hid (cres (m : Int) ars ws s at_ path = (sum, true)) := by show _ = _; rw [cres_some CV.out CE.out, if_pos rfl]
          go_wp2_with fail
          go_ret2
          exact ⟨by rw [V.out]; rfl, BX.out⟩
        · have V : Hid (cres (m : Int) ars ws s t path = (0, false)) := by show _ = _; rw [cres_some CV.out CE.out, if_neg c4]
          have t1 : (at_ != t) = true := by simpa using c4
          clear c4
          go_wp2_with fail
          go_ret2
          exact ⟨by rw [V.out]; rfl, BX.out⟩
  · have V := Lib.hid (cres_bad (path := path) hc)
    obtain ⟨c, hcc⟩ : ∃ c, ckv N ars ws [s, t] = c := ⟨_, rfl⟩
    rw [hcc] at CC hc
    have c1 : (c == 0) = false := by simpa using hc
    have c2 : (c != 0) = true := by simpa using hc
    clear hc hcc
    go_enter Try.func20, Try.ntmps20
    go_wp2_with fail
    refine CC.out.mono ?_; rintro e w4 ⟨rfl, b⟩
    have B4 := Lib.hid (B2.out.trans (b.mono B2.out.size))
    clear b g0 g1 hW1 hW2
    go_wp2_with fail
    go_ret2
    exact ⟨by rw [V.out]; rfl, B4.out⟩
set_option maxRecDepth 100000 in
set_option maxHeartbeats 8000000 in
theorem costr_any {w : World} {N s t : Int} {v u p : Value} {ars : List (Int × Int)} {ws path : List Int} (A : ArcsAt w v ars) (U : IntsAt w u ws) (P : IntsAt w p path) (hp60 : path.length ≤ 60) : Calls Try.prog 19 #[gv N v, u, .int .i64 s, .int .i64 t, p] w (CPost (cres N ars ws s t path) w) := by
  have A0 := A; have U0 := U; have P0 := P
  obtain ⟨a, cap, rfl, _⟩ := A
  obtain ⟨ua, uc, rfl⟩ := U.form
  obtain ⟨pa, pc, rfl⟩ := P.form
  have CK := Lib.hid (fun W (b : Below w.heap.size w W) => ckr_any (N := N) (A0.below b) (U0.below b))
  obtain ⟨n, hn⟩ : ∃ n, ars.length = n := ⟨_, rfl⟩
  obtain ⟨k, hk⟩ : ∃ k, ws.length = k := ⟨_, rfl⟩
  obtain ⟨pk, hpk⟩ : ∃ pk, path.length = pk := ⟨_, rfl⟩
  have HA : Hid (ArcsAt w (.slice a n cap) ars) := by have h := A0; rw [hn] at h; exact h
  have HU : Hid (IntsAt w (.slice ua k uc) ws) := by have h := U0; rw [hk] at h; exact h
  have HP : Hid (IntsAt w (.slice pa pk pc) path) := by have h := P0; rw [hpk] at h; exact h
  have HN := Lib.hid hn; have HK := Lib.hid hk; have HPK := Lib.hid hpk
  have HP60 : Hid (pk ≤ 60) := by rw [hpk] at hp60; exact hp60
  rw [hn, hk] at CK
  rw [hn, hk, hpk]
  obtain ⟨gB, hgB⟩ : ∃ gB, w.heap.size = gB := ⟨_, rfl⟩
  obtain ⟨W1, hW1⟩ : ∃ W1, w.alloc (.cells #[.int .i64 N, .slice a n cap] 24) = W1 := ⟨_, rfl⟩
  have r1 : Row W1 gB 24 [.int .i64 N, .slice a n cap] := by rw [← hW1, ← hgB]; exact Row.new _ _ _
  have g0 := r1.cell (i := 0) rfl; have g1 := r1.cell (i := 1) rfl
  have b1 : Below w.heap.size w W1 := by rw [← hW1]; exact below_al _ _
  have B1 := Lib.hid b1; have R1 := Lib.hid r1
  clear A0 U0 U P0 P b1 r1 hn hk hpk hp60
  by_cases hc : ck N ars ws = 0
  · rw [hc] at CK
    obtain ⟨m, rfl, O⟩ := ck_ok hc
    have HO := Lib.hid O
    by_cases hs : out (m : Int) s ∨ out (m : Int) t
    · have V : Hid (cres (m : Int) ars ws s t path = (0, false)) := cres_bad (by
        rw [ckv_ok hc]
        rcases hs with h | h
        · rw [if_pos ⟨s, List.mem_cons_self .., h⟩]; decide
        · rw [if_pos ⟨t, List.mem_cons_of_mem _ (List.mem_singleton.2 rfl), h⟩]; decide)
      unfold out at hs
      clear hc O
      by_cases h0 : s < 0
      · clear hs
        go_enter Try.func19, Try.ntmps19
        go_wp2_with fail
        refine (CK.out _ B1.out).mono ?_; rintro e w4 ⟨rfl, b⟩
        have B4 := Lib.hid (B1.out.trans (b.mono B1.out.size))
        have R4 := Lib.hid (R1.out.below b R1.out.lt)
        clear b g0 g1 hW1
        have g0 := R4.out.cell (i := 0) rfl; have g1 := R4.out.cell (i := 1) rfl
        go_wp2_with fail
        go_ret2
        exact ⟨by rw [V.out]; rfl, B4.out⟩
      · by_cases h1 : (m : Int) ≤ s
        · clear hs
          go_enter Try.func19, Try.ntmps19
          go_wp2_with fail
          refine (CK.out _ B1.out).mono ?_; rintro e w4 ⟨rfl, b⟩
          have B4 := Lib.hid (B1.out.trans (b.mono B1.out.size))
          have R4 := Lib.hid (R1.out.below b R1.out.lt)
          clear b g0 g1 hW1
          have g0 := R4.out.cell (i := 0) rfl; have g1 := R4.out.cell (i := 1) rfl
          go_wp2_with fail
          go_ret2
          exact ⟨by rw [V.out]; rfl, B4.out⟩
        · by_cases h2 : t < 0
          · clear hs
            go_enter Try.func19, Try.ntmps19
            go_wp2_with fail
            refine (CK.out _ B1.out).mono ?_; rintro e w4 ⟨rfl, b⟩
            have B4 := Lib.hid (B1.out.trans (b.mono B1.out.size))
            have R4 := Lib.hid (R1.out.below b R1.out.lt)
            clear b g0 g1 hW1
            have g0 := R4.out.cell (i := 0) rfl; have g1 := R4.out.cell (i := 1) rfl
            go_wp2_with fail
            go_ret2
            exact ⟨by rw [V.out]; rfl, B4.out⟩
          · have h3 : (m : Int) ≤ t := by omega
            clear hs
            go_enter Try.func19, Try.ntmps19
            go_wp2_with fail
            refine (CK.out _ B1.out).mono ?_; rintro e w4 ⟨rfl, b⟩
            have B4 := Lib.hid (B1.out.trans (b.mono B1.out.size))
            have R4 := Lib.hid (R1.out.below b R1.out.lt)
            clear b g0 g1 hW1
            have g0 := R4.out.cell (i := 0) rfl; have g1 := R4.out.cell (i := 1) rfl
            go_wp2_with fail
            go_ret2
            exact ⟨by rw [V.out]; rfl, B4.out⟩
    · have CV : Hid (ckv (m : Int) ars ws [s, t] = 0) := by
        show _ = _
        rw [ckv_ok hc, if_neg]
        rintro ⟨x, hx, ho⟩
        rcases List.mem_cons.1 hx with rfl | hx
        · exact hs (Or.inl ho)
        · rw [List.mem_singleton] at hx; subst hx; exact hs (Or.inr ho)
      unfold out at hs
      have h0 : ¬ s < 0 := by omega
      have h1 : ¬ (m : Int) ≤ s := by omega
      have h2 : ¬ t < 0 := by omega
      have h3 : ¬ (m : Int) ≤ t := by omega
      clear hs hc O
      go_enter Try.func19, Try.ntmps19
      go_wp2_with fail
      refine (CK.out _ B1.out).mono ?_; rintro e w4 ⟨rfl, b⟩
      have B4 := Lib.hid (B1.out.trans (b.mono B1.out.size))
      have R4 := Lib.hid (R1.out.below b R1.out.lt)
      clear b g0 g1 hW1
      have g0 := R4.out.cell (i := 0) rfl; have g1 := R4.out.cell (i := 1) rfl
      go_wp2_with fail
      clear h0 h1 h2 h3 g0 g1
      go_loopw [2, 12, 13] (fun sa ss si wr => ∃ (j : Nat) (at_ sum : Int), j ≤ pk ∧ sa = .int .i64 at_ ∧ ss = .int .i64 sum ∧ si = .int .i64 (j : Int) ∧ Hid (cst ars ws s 0 path = cst ars ws at_ sum (path.drop j)) ∧ Hid (0 ≤ sum ∧ sum ≤ (j : Int) * 1073741824) ∧ Hid (Below w4.heap.size w4 wr)) (fun _ _ si _ => pk - (intOf si).toNat)
      case atStart => exact ⟨0, s, 0, Nat.zero_le _, rfl, rfl, rfl, rfl, ⟨Int.le_refl _, by simp⟩, Below.refl _ _⟩
      case round =>
        obtain ⟨j, at_, sum, hj, rfl, rfl, rfl, CS, SU, BW⟩ := hrel
        have rr := R4.out.below BW.out R4.out.lt
        have g0 := rr.cell (i := 0) rfl; have g1 := rr.cell (i := 1) rfl
        have BX := Lib.hid (B4.out.trans (BW.out.mono B4.out.size))
        clear rr
        by_cases hjk : j < pk
        · obtain ⟨bp, op, hpa, p0⟩ := (HP.out.below BX.out).at (k := j) (by rw [HPK.out]; exact hjk)
          subst hpa
          have DP := Lib.hid (drop_at (l := path) (j := j) (by rw [HPK.out]; exact hjk))
          obtain ⟨kk, hkk⟩ : ∃ kk, path.getD j 0 = kk := ⟨_, rfl⟩
          rw [hkk] at p0 DP
          have CT : Hid (cst ars ws s 0 path = if kk < 0 ∨ (ars.length : Int) ≤ kk ∨ ws.getD kk.toNat 0 < 0 ∨ (ars.getD kk.toNat (0, 0)).1 ≠ at_ then none else cst ars ws (ars.getD kk.toNat (0, 0)).2 (sum + ws.getD kk.toNat 0) (path.drop (j + 1))) := by
            show _ = _
            rw [CS.out, DP.out, cst]
          obtain ⟨j1, hj1⟩ : ∃ j1, j + 1 = j1 := ⟨_, rfl⟩
          have HJ := Lib.hid hj1; have HJK := Lib.hid hjk
          have j00 : (0 : Int) ≤ (j : Int) := by omega
          have jl : (j : Int) < (pk : Int) := by omega
          have e1 : (j : Int) + 1 = (j1 : Int) := by omega
          have e2 : IntKind.i64.wrap (j1 : Int) = (j1 : Int) := by rw [IntKind.wrap_i64]; have := HP60.out; omega
          clear hkk hj1 hj hjk CS
          by_cases c0 : kk < 0
          · have V : Hid (cres (m : Int) ars ws s t path = (0, false)) := cres_none CV.out (by rw [CT.out, if_pos (Or.inl c0)])
            go_wp2_with fail
            go_ret2
            exact ⟨by rw [V.out]; rfl, BX.out⟩
          · by_cases c1 : (n : Int) ≤ kk
            · have V : Hid (cres (m : Int) ars ws s t path = (0, false)) := cres_none CV.out (by rw [CT.out, if_pos (Or.inr (Or.inl (by rw [HN.out]; exact c1)))])
              have c1' : (k : Int) ≤ kk := by have h1 := HO.out.l; have h2 := HN.out; have h3 := HK.out; omega
              go_wp2_with fail
              go_ret2
              exact ⟨by rw [V.out]; rfl, BX.out⟩
            · obtain ⟨q, rfl⟩ : ∃ q : Nat, kk = (q : Int) := ⟨kk.toNat, by omega⟩
              have hq : q < ars.length := by have := HN.out; omega
              obtain ⟨x, y, exy, hx, hy⟩ := arc_nat HO.out.arc hq
              obtain ⟨ba, oa, haa, o0, o1⟩ := (HA.out.below BX.out).at_ hq
              subst haa
              obtain ⟨bu, ou, hua, u0⟩ := (HU.out.below BX.out).at (k := q) (by rw [HO.out.l]; exact hq)
              subst hua
              have hzb := HO.out.w q (by rw [HO.out.l]; exact hq)
              rw [Int.toNat_natCast, exy] at CT
              dsimp only at CT
              rw [exy] at o0 o1
              dsimp only at o0 o1
              obtain ⟨z, hz⟩ : ∃ z, ws.getD q 0 = z := ⟨_, rfl⟩
              rw [hz] at CT u0 hzb
              have q00 : (0 : Int) ≤ (q : Int) := by omega
              have ql : (q : Int) < (n : Int) := by omega
              have qk : (q : Int) < (k : Int) := by have h1 := HO.out.l; have h2 := HN.out; have h3 := HK.out; omega
              have qn : decide ((q : Int) < 0) = false := by simp
              have qn1 : decide (n ≤ q) = false := by simp; omega
              have qn2 : decide (k ≤ q) = false := by simp; omega
              have qn3 : ¬ (k : Int) ≤ (q : Int) := by omega
              have HQL := Lib.hid hq
              clear hx hy hq exy hz
              by_cases c2 : z < 0
              · have V : Hid (cres (m : Int) ars ws s t path = (0, false)) := cres_none CV.out (by rw [CT.out, if_pos (Or.inr (Or.inr (Or.inl c2)))])
                obtain rfl : z = -1 := by omega
                clear c2 hzb
                go_wp2_with fail
                go_ret2
                exact ⟨by rw [V.out]; rfl, BX.out⟩
              · have z1 : (z == -1) = false := by simp; omega
                have z2 : decide (z < 0) = false := by simp; omega
                by_cases c3 : (x : Int) = at_
                · subst c3
                  have CN : Hid (cst ars ws s 0 path = cst ars ws (y : Int) (sum + z) (path.drop j1)) := by
                    show _ = _
                    rw [CT.out, if_neg (by have h1 := HN.out; have h2 := HQL.out; omega), HJ.out]
                  obtain ⟨t1, ht1⟩ : ∃ t1, sum + z = t1 := ⟨_, rfl⟩
                  rw [ht1] at CN
                  have tw : IntKind.i64.wrap t1 = t1 := by rw [← ht1]; rw [IntKind.wrap_i64]; have h1 := SU.out; have h2 := HP60.out; omega
                  have SU2 : Hid (0 ≤ t1 ∧ t1 ≤ (j1 : Int) * 1073741824) := by have h1 := SU.out; rw [← ht1]; show 0 ≤ sum + z ∧ _; omega
                  have xx : ((x : Int) != (x : Int)) = false := by simp
                  clear CT c2 hzb
                  go_wp2_with fail
                  (try (go_quiet (fail)); go_wp2_with fail)
                  go_roundw
                  case measure => simp [intOf]; have := HJ.out; have := HJK.out; omega
                  case rel => exact ⟨j1, (y : Int), t1, by have := HJ.out; have := HJK.out; omega, rfl, rfl, rfl, CN, SU2, by first | exact BW | exact below_drewN BW.out _ | exact BW.out.drew⟩
                · have V : Hid (cres (m : Int) ars ws s t path = (0, false)) := cres_none CV.out (by rw [CT.out, if_pos (Or.inr (Or.inr (Or.inr c3)))])
                  have x1 : ((x : Int) != at_) = true := by simpa using c3
                  clear c2 c3 hzb
                  go_wp2_with fail
                  go_ret2
                  exact ⟨by rw [V.out]; rfl, BX.out⟩
        · have jl : ¬ (j : Int) < (pk : Int) := by omega
          obtain rfl : j = pk := by omega
          have CE : Hid (cst ars ws s 0 path = some (sum, at_)) := by
            show _ = _
            rw [CS.out, List.drop_of_length_le (by rw [HPK.out]; exact Nat.le_refl _), cst]
          clear CS hj hjk
          by_cases c4 : at_ = t
          · subst c4
            have V : Hid (cres (m : Int) ars ws s at_ path = (sum, true)) := by show _ = _; rw [cres_some CV.out CE.out, if_pos rfl]
            go_wp2_with fail
            go_ret2
            exact ⟨by rw [V.out]; rfl, BX.out⟩
          · have V : Hid (cres (m : Int) ars ws s t path = (0, false)) := by show _ = _; rw [cres_some CV.out CE.out, if_neg c4]
            have t1 : (at_ != t) = true := by simpa using c4
            clear c4
            go_wp2_with fail
            go_ret2
            exact ⟨by rw [V.out]; rfl, BX.out⟩
  · have V := Lib.hid (cres_bad (s := s) (t := t) (path := path) (N := N) (ars := ars) (ws := ws) (by rw [ckv_no hc]; exact hc))
    obtain ⟨c, hcc⟩ : ∃ c, ck N ars ws = c := ⟨_, rfl⟩
    rw [hcc] at CK hc
    have c1 : (c == 0) = false := by simpa using hc
    have c2 : (c != 0) = true := by simpa using hc
    clear hc hcc
    go_enter Try.func19, Try.ntmps19
    go_wp2_with fail
    refine (CK.out _ B1.out).mono ?_; rintro e w4 ⟨rfl, b⟩
    have B4 := Lib.hid (B1.out.trans (b.mono B1.out.size))
    have R4 := Lib.hid (R1.out.below b R1.out.lt)
    clear b g0 g1 hW1
    have g0 := R4.out.cell (i := 0) rfl; have g1 := R4.out.cell (i := 1) rfl
    go_wp2_with fail
    go_ret2
    exact ⟨by rw [V.out]; rfl, B4.out⟩
set_option maxRecDepth 100000 in
theorem costs_few {w : World} {N s t : Int} {v u p : Value} {ars : List (Int × Int)} {ws path : List Int} (A : ArcsAt w v ars) (U : IntsAt w u ws) (P : IntsAt w p path) (hf : fewD N ars.length ws.length = true) (hp60 : path.length ≤ 60) : Calls Try.prog 5 #[gv N v, u, .int .i64 s, .int .i64 t, p] w fun e w' => e = .returned (.bool true) ∧ Below w.heap.size w w' := by
  have A0 := A; have U0 := U; have P0 := P
  obtain ⟨a, cap, rfl, _⟩ := A
  obtain ⟨ua, uc, rfl⟩ := U.form
  obtain ⟨pa, pc, rfl⟩ := P.form
  have FW := few_any N ars.length cap ws.length uc a ua
  rw [hf] at FW
  have FF := Lib.hid FW
  have C1 := Lib.hid (fun W (b : Below w.heap.size w W) => cost_any (N := N) (s := s) (t := t) (A0.below b) (U0.below b) (P0.below b) hp60)
  have C2 := Lib.hid (fun W (b : Below w.heap.size w W) => costr_any (N := N) (s := s) (t := t) (A0.below b) (U0.below b) (P0.below b) hp60)
  obtain ⟨n, hn⟩ : ∃ n, ars.length = n := ⟨_, rfl⟩
  obtain ⟨k, hk⟩ : ∃ k, ws.length = k := ⟨_, rfl⟩
  obtain ⟨pk, hpk⟩ : ∃ pk, path.length = pk := ⟨_, rfl⟩
  obtain ⟨⟨rc, rb⟩, hr⟩ : ∃ r, cres N ars ws s t path = r := ⟨_, rfl⟩
  rw [hn, hk] at FF C1 C2
  rw [hpk, hr] at C1 C2
  rw [hn, hk, hpk]
  rw [hpk] at hp60
  have hp' : ¬ 60 < (pk : Int) := by omega
  obtain ⟨gB, hgB⟩ : ∃ gB, w.heap.size = gB := ⟨_, rfl⟩
  obtain ⟨W1, hW1⟩ : ∃ W1, w.alloc (.cells #[.int .i64 N, .slice a n cap] 24) = W1 := ⟨_, rfl⟩
  have r1 : Row W1 gB 24 [.int .i64 N, .slice a n cap] := by rw [← hW1, ← hgB]; exact Row.new _ _ _
  have q0 := r1.cell (i := 0) rfl; have q1 := r1.cell (i := 1) rfl
  have b1 : Below w.heap.size w W1 := by rw [← hW1]; exact below_al _ _
  have B1 := Lib.hid b1; have R1 := Lib.hid r1
  clear A0 U0 U P0 P b1 r1 hn hk hpk hf FW hr hp60
  go_enter Try.func5, Try.ntmps5
  go_wp2_with fail
  refine (FF.out _).mono ?_; rintro e w2 ⟨rfl, b⟩
  have B2 := Lib.hid (B1.out.trans (b.mono B1.out.size)); have R2 := Lib.hid (R1.out.below b R1.out.lt)
  clear b q0 q1 hW1
  have q0 := R2.out.cell (i := 0) rfl; have q1 := R2.out.cell (i := 1) rfl
  go_wp2_with fail
  refine (C1.out _ B2.out).mono ?_; rintro e w3 ⟨rfl, b⟩
  have B3 := Lib.hid (B2.out.trans (b.mono B2.out.size)); have R3 := Lib.hid (R2.out.below b R2.out.lt)
  clear b q0 q1
  have q0 := R3.out.cell (i := 0) rfl; have q1 := R3.out.cell (i := 1) rfl
  go_wp2_with fail
  refine (C2.out _ B3.out).mono ?_; rintro e w4 ⟨rfl, b⟩
  have B4 := Lib.hid (B3.out.trans (b.mono B3.out.size))
  clear b q0 q1
  go_wp2_with fail
  refine (lives38_any _).mono ?_; rintro e w5 ⟨rfl, b⟩
  have B5 := Lib.hid (B4.out.trans (b.mono B4.out.size))
  clear b
  go_wp2_with fail
  go_ret
  exact ⟨rfl, B5.out⟩
theorem costs_many {w : World} {N s t : Int} {n cap k uc pk pc : Nat} {a ua pa : Option Addr} (h : fewD N n k = false ∨ 60 < pk) : Calls Try.prog 5 #[gv N (.slice a n cap), .slice ua k uc, .int .i64 s, .int .i64 t, .slice pa pk pc] w fun e w' => e = .returned (.bool true) ∧ Below w.heap.size w w' := by
  obtain ⟨W1, hW1⟩ : ∃ W1, w.alloc (.cells #[.int .i64 N, .slice a n cap] 24) = W1 := ⟨_, rfl⟩
  have r1 : Row W1 w.heap.size 24 [.int .i64 N, .slice a n cap] := by rw [← hW1]; exact Row.new _ _ _
  have b1 : Below w.heap.size w W1 := by rw [← hW1]; exact below_al _ _
  have FW := few_any N n cap k uc a ua
  have BB := Lib.hid b1
  have q0 := r1.cell (i := 0) rfl; have q1 := r1.cell (i := 1) rfl
  by_cases hf : fewD N n k = true
  · have hp' : 60 < (pk : Int) := by
      rcases h with h | h
      · rw [hf] at h; cases h
      · omega
    rw [hf] at FW
    have FF := Lib.hid FW
    clear FW b1 r1 hf h
    go_enter Try.func5, Try.ntmps5
    go_wp2_with fail
    refine (FF.out _).mono ?_; rintro e w3 ⟨rfl, b⟩
    have B3 := Lib.hid (BB.out.trans (b.mono BB.out.size))
    clear b
    go_wp2_with fail
    refine (lives38_any _).mono ?_; rintro e w4 ⟨rfl, b⟩
    have B4 := Lib.hid (B3.out.trans (b.mono B3.out.size))
    clear b
    go_wp2_with fail
    go_ret
    exact ⟨rfl, B4.out⟩
  · have hf' : fewD N n k = false := by simpa using hf
    rw [hf'] at FW
    have FF := Lib.hid FW
    clear FW b1 r1 hf hf' h
    go_enter Try.func5, Try.ntmps5
    go_wp2_with fail
    refine (FF.out _).mono ?_; rintro e w3 ⟨rfl, b⟩
    have B3 := Lib.hid (BB.out.trans (b.mono BB.out.size))
    clear b
    go_wp2_with fail
    refine (lives38_any _).mono ?_; rintro e w4 ⟨rfl, b⟩
    have B4 := Lib.hid (B3.out.trans (b.mono B3.out.size))
    clear b
    go_wp2_with fail
    go_ret
    exact ⟨rfl, B4.out⟩
abbrev dijkstraCosts_zero0 : Value := gv 0 nilV
theorem dijkstraCosts_open0 {H : Type} {enc : TypeId × Value → H} {W : World} {base b0 : Nat} {spare : Nat → Bool} {held : Bool} {r : Reach} {v : Value} {d : DataW H} {p : List MemPlace}
    (hv : Value.okWide Try.prog W r b0 24 v) (h : DataW.Trod enc Try.prog W base spare held 24 v d p) : IsG W v := graph_open hv h
theorem dijkstraCosts_open1 {H : Type} {enc : TypeId × Value → H} {W : World} {base b0 : Nat} {spare : Nat → Bool} {held : Bool} {r : Reach} {v : Value} {d : DataW H} {p : List MemPlace}
    (hv : Value.okWide Try.prog W r b0 25 v) (h : DataW.Trod enc Try.prog W base spare held 25 v d p) : IsInts W v := ints_open hv h
theorem dijkstraCosts_open4 {H : Type} {enc : TypeId × Value → H} {W : World} {base b0 : Nat} {spare : Nat → Bool} {held : Bool} {r : Reach} {v : Value} {d : DataW H} {p : List MemPlace}
    (hv : Value.okWide Try.prog W r b0 25 v) (h : DataW.Trod enc Try.prog W base spare held 25 v d p) : IsInts W v := ints_open hv h
theorem dijkstraCosts_walk (v u : Value) (s t : Int) (p : Value) (w : World) (h : IsG w v) (h1 : IsInts w u) (_ : (Lit.int .i64 s).wf = true) (_ : (Lit.int .i64 t).wf = true) (h4 : IsInts w p) : Calls Try.prog 5 #[v, u, .int .i64 s, .int .i64 t, p] w fun e w' => e = .returned (.bool true) ∧ Below w.heap.size w w' := by
  obtain ⟨N, x, ars, rfl, ha⟩ := h
  obtain ⟨ws, hw, _⟩ := h1
  obtain ⟨path, hp, _⟩ := h4
  by_cases hf : fewD N ars.length ws.length = true ∧ path.length ≤ 60
  · exact costs_few ha hw hp hf.1 hf.2
  · obtain ⟨a, cap, rfl, _⟩ := ha
    obtain ⟨ua, uc, rfl⟩ := hw.form
    obtain ⟨pa, pc, rfl⟩ := hp.form
    refine costs_many ?_
    by_cases h5 : fewD N ars.length ws.length = true
    · exact Or.inr (Nat.lt_of_not_le (fun h6 => hf ⟨h5, h6⟩))
    · exact Or.inl (by simpa using h5)
end Go.Proofs.Ytgofachgoflgnaa
