/- dijkstra: From and To. -/
import Derived.Test.YtgofachgoflgnaaDf
namespace Go.Proofs.Ytgofachgoflgnaa
open Go.ChangeShapes Go.WideShapes Go.ChangeAt Go.RowKit Go.Joins Go.Deep

theorem flip_get (l : List (Int × Int)) (i : Nat) : (l.map flip).getD i (0, 0) = flip (l.getD i (0, 0)) := by
  rw [List.getD, List.getD, List.getElem?_map]
  cases l[i]? <;> rfl
theorem bad_flip (N : Int) (a : Int × Int) : bad N (flip a) ↔ bad N a := by unfold bad flip; dsimp only; omega
theorem chk_flip (N : Int) (l : List (Int × Int)) : chk N (l.map flip) = chk N l := by
  by_cases h : long N l.length
  · rw [chk_long h, chk_long (by rw [List.length_map]; exact h)]
  · by_cases h2 : ∃ j, j < l.length ∧ bad N (l.getD j (0, 0))
    · obtain ⟨j, hj, hb⟩ := h2
      rw [chk_bad h hj hb, chk_bad (by rw [List.length_map]; exact h) (j := j) (by rw [List.length_map]; exact hj) (by rw [flip_get, bad_flip]; exact hb)]
    · rw [chk_ok h (fun j hj hb => h2 ⟨j, hj, hb⟩), chk_ok (by rw [List.length_map]; exact h) (fun j hj hb => h2 ⟨j, by rw [List.length_map] at hj; exact hj, by rw [flip_get, bad_flip] at hb; exact hb⟩)]
theorem OkW.flip {m : Nat} {ars : List (Int × Int)} {ws : List Int} (h : OkW m ars ws) : OkW m (ars.map Go.Proofs.Ytgofachgoflgnaa.flip) ws := ⟨by rw [chk_flip]; exact h.c, by rw [List.length_map]; exact h.l, h.w⟩
theorem ckv_zero {N : Int} {ars : List (Int × Int)} {ws vl : List Int} (h : ckv N ars ws vl = 0) : ck N ars ws = 0 ∧ ∀ x ∈ vl, ¬ out N x := by
  by_cases hc : ck N ars ws = 0
  · refine ⟨hc, fun x hx ho => ?_⟩
    rw [ckv_ok hc, if_pos ⟨x, hx, ho⟩] at h; cases h
  · rw [ckv_no hc] at h; exact absurd h hc
theorem ints_one {W : World} {xb : Nat} {s : Int} (c : W.cell? ⟨xb, 0, none⟩ = some (.int .i64 s)) : IntsAt W (.slice (some ⟨xb, 0, none⟩) 1 1) [s] :=
  ⟨_, 1, rfl, Nat.le_refl _, Or.inr ⟨xb, 0, rfl, cell_lt c, fun j hj => by
    obtain rfl : j = 0 := by simp at hj; omega
    exact c⟩⟩
def DPost (al ars : List (Int × Int)) (ws : List Int) (N s : Int) (w : World) (e : Ending) (w' : World) : Prop :=
  (∃ c : Int, c ≠ 0 ∧ ckv N ars ws [s] = c ∧ e = .returned (.tuple #[nilV, .int .i64 c]) ∧ Below w.heap.size w w') ∨
  (∃ (m q : Nat) (u : Value) (d : List Int), N = (m : Int) ∧ s = (q : Int) ∧ q < m ∧ OkW m ars ws ∧ e = .returned (.tuple #[u, .int .i64 0]) ∧ IsD al ws m q d ∧ IntsAt w' u d ∧ Below w.heap.size w w')
set_option maxRecDepth 100000 in
set_option maxHeartbeats 4000000 in
theorem from_any {w : World} {N s : Int} {v u : Value} {ars : List (Int × Int)} {ws : List Int} (A : ArcsAt w v ars) (U : IntsAt w u ws) : Calls Try.prog 10 #[gv N v, u, .int .i64 s] w (DPost ars ars ws N s w) := by
  have A0 := A; have U0 := U
  obtain ⟨a, cap, rfl, _⟩ := A
  obtain ⟨ua, uc, rfl⟩ := U.form
  have CK : Hid (∀ W xb, Below w.heap.size w W → W.cell? ⟨xb, 0, none⟩ = some (.int .i64 s) → Calls Try.prog 22 #[gv N (.slice a ars.length cap), .slice ua ws.length uc, .slice (some ⟨xb, 0, none⟩) 1 1] W fun e w' => e = .returned (.int .i64 (ckv N ars ws [s])) ∧ Below W.heap.size W w') := fun W xb b c => ckv_any (A0.below b) (U0.below b) (ints_one c) (by simp)
  obtain ⟨n, hn⟩ : ∃ n, ars.length = n := ⟨_, rfl⟩
  obtain ⟨k, hk⟩ : ∃ k, ws.length = k := ⟨_, rfl⟩
  have HA : Hid (ArcsAt w (.slice a n cap) ars) := by have h := A0; rw [hn] at h; exact h
  have HU : Hid (IntsAt w (.slice ua k uc) ws) := by have h := U0; rw [hk] at h; exact h
  have HN := Lib.hid hn
  rw [hn, hk] at CK
  rw [hn, hk]
  obtain ⟨gB, hgB⟩ : ∃ gB, w.heap.size = gB := ⟨_, rfl⟩
  obtain ⟨W1, hW1⟩ : ∃ W1, w.alloc (.cells #[.int .i64 N, .slice a n cap] 24) = W1 := ⟨_, rfl⟩
  obtain ⟨xB, hxB⟩ : ∃ xB, W1.heap.size = xB := ⟨_, rfl⟩
  obtain ⟨W2, hW2⟩ : ∃ W2, W1.alloc (.cells #[.int .i64 s] 3) = W2 := ⟨_, rfl⟩
  have r1 : Row W1 gB 24 [.int .i64 N, .slice a n cap] := by rw [← hW1, ← hgB]; exact Row.new _ _ _
  have g0 := r1.cell (i := 0) rfl; have g1 := r1.cell (i := 1) rfl
  have b1 : Below w.heap.size w W1 := by rw [← hW1]; exact below_al _ _
  have b2 : Below W1.heap.size W1 W2 := by rw [← hW2]; exact below_al _ _
  have r2 := r1.below b2 r1.lt
  have x2 : W2.cell? ⟨xB, 0, none⟩ = some (.int .i64 s) := by rw [← hW2, ← hxB]; exact (Row.new _ _ [.int .i64 s]).cell (i := 0) rfl
  have B2 := Lib.hid (b1.trans (b2.mono b1.size))
  have CC := Lib.hid (CK.out W2 xB B2.out x2)
  have R2 := Lib.hid r2
  clear A0 U0 U b1 b2 r1 r2 x2 hn hk CK
  by_cases hc : ckv N ars ws [s] = 0
  · obtain ⟨h1, h2⟩ := ckv_zero hc
    obtain ⟨m, rfl, O⟩ := ck_ok h1
    have hs := h2 s (List.mem_singleton.2 rfl)
    unfold out at hs
    obtain ⟨q, rfl⟩ : ∃ q : Nat, s = (q : Int) := ⟨s.toNat, by omega⟩
    have HS : Hid (q < m) := by show q < m; omega
    have HO := Lib.hid O
    rw [hc] at CC
    clear hc h1 h2 O hs
    go_enter Try.func10, Try.ntmps10
    go_wp2_with fail
    refine CC.out.mono ?_; rintro e w4 ⟨rfl, b⟩
    have B4 := Lib.hid (B2.out.trans (b.mono B2.out.size))
    have r4 := R2.out.below b R2.out.lt
    clear b g0 g1 hW1 hW2
    have g0 := r4.cell (i := 0) rfl; have g1 := r4.cell (i := 1) rfl
    clear r4
    go_wp2_with fail
    refine (search_any (HA.out.below B4.out) (HU.out.below B4.out) HO.out HS.out).mono ?_; rintro e w6 ⟨uD, uL, d, la, rfl, sr, hd, hl, b⟩
    have FB := Lib.hid (B4.out.trans (b.mono B4.out.size)); have SR6 := Lib.hid sr; have HD := Lib.hid hd
    clear b sr hd hl
    go_wp2_with fail
    go_ret2
    exact Or.inr ⟨m, q, uD, d, rfl, rfl, HS.out, HO.out, rfl, SR6.out.isd, HD.out, FB.out⟩
  · obtain ⟨c, hcc⟩ : ∃ c, ckv N ars ws [s] = c := ⟨_, rfl⟩
    have HC := Lib.hid hcc
    rw [hcc] at CC hc
    have HZ := Lib.hid hc
    have c1 : (c == 0) = false := by simpa using hc
    have c2 : (c != 0) = true := by simpa using hc
    clear hc hcc
    go_enter Try.func10, Try.ntmps10
    go_wp2_with fail
    refine CC.out.mono ?_; rintro e w4 ⟨rfl, b⟩
    have B4 := Lib.hid (B2.out.trans (b.mono B2.out.size))
    clear b g0 g1 hW1 hW2
    go_wp2_with fail
    go_ret2
    exact Or.inl ⟨c, HZ.out, HC.out, rfl, B4.out⟩
set_option maxRecDepth 100000 in
set_option maxHeartbeats 4000000 in
theorem to_any {w : World} {N s : Int} {v u : Value} {ars : List (Int × Int)} {ws : List Int} (A : ArcsAt w v ars) (U : IntsAt w u ws) : Calls Try.prog 12 #[gv N v, u, .int .i64 s] w (DPost (ars.map flip) ars ws N s w) := by
  have A0 := A; have U0 := U
  obtain ⟨a, cap, rfl, _⟩ := A
  obtain ⟨ua, uc, rfl⟩ := U.form
  have CK : Hid (∀ W xb, Below w.heap.size w W → W.cell? ⟨xb, 0, none⟩ = some (.int .i64 s) → Calls Try.prog 22 #[gv N (.slice a ars.length cap), .slice ua ws.length uc, .slice (some ⟨xb, 0, none⟩) 1 1] W fun e w' => e = .returned (.int .i64 (ckv N ars ws [s])) ∧ Below W.heap.size W w') := fun W xb b c => ckv_any (A0.below b) (U0.below b) (ints_one c) (by simp)
  obtain ⟨n, hn⟩ : ∃ n, ars.length = n := ⟨_, rfl⟩
  obtain ⟨k, hk⟩ : ∃ k, ws.length = k := ⟨_, rfl⟩
  have HA : Hid (ArcsAt w (.slice a n cap) ars) := by have h := A0; rw [hn] at h; exact h
  have HU : Hid (IntsAt w (.slice ua k uc) ws) := by have h := U0; rw [hk] at h; exact h
  have HN := Lib.hid hn
  rw [hn, hk] at CK
  rw [hn, hk]
  obtain ⟨gB, hgB⟩ : ∃ gB, w.heap.size = gB := ⟨_, rfl⟩
  obtain ⟨W1, hW1⟩ : ∃ W1, w.alloc (.cells #[.int .i64 N, .slice a n cap] 24) = W1 := ⟨_, rfl⟩
  obtain ⟨xB, hxB⟩ : ∃ xB, W1.heap.size = xB := ⟨_, rfl⟩
  obtain ⟨W2, hW2⟩ : ∃ W2, W1.alloc (.cells #[.int .i64 s] 3) = W2 := ⟨_, rfl⟩
  have r1 : Row W1 gB 24 [.int .i64 N, .slice a n cap] := by rw [← hW1, ← hgB]; exact Row.new _ _ _
  have g0 := r1.cell (i := 0) rfl; have g1 := r1.cell (i := 1) rfl
  have b1 : Below w.heap.size w W1 := by rw [← hW1]; exact below_al _ _
  have b2 : Below W1.heap.size W1 W2 := by rw [← hW2]; exact below_al _ _
  have r2 := r1.below b2 r1.lt
  have x2 : W2.cell? ⟨xB, 0, none⟩ = some (.int .i64 s) := by rw [← hW2, ← hxB]; exact (Row.new _ _ [.int .i64 s]).cell (i := 0) rfl
  have B2 := Lib.hid (b1.trans (b2.mono b1.size))
  have CC := Lib.hid (CK.out W2 xB B2.out x2)
  have R2 := Lib.hid r2
  clear A0 U0 U b1 b2 r1 r2 x2 hn hk CK
  by_cases hc : ckv N ars ws [s] = 0
  · obtain ⟨h1, h2⟩ := ckv_zero hc
    obtain ⟨m, rfl, O⟩ := ck_ok h1
    have hs := h2 s (List.mem_singleton.2 rfl)
    unfold out at hs
    obtain ⟨q, rfl⟩ : ∃ q : Nat, s = (q : Int) := ⟨s.toNat, by omega⟩
    have HS : Hid (q < m) := by show q < m; omega
    have HO := Lib.hid O
    rw [hc] at CC
    have RV := Lib.hid (fun W (b : Below w.heap.size w W) => rev_any (N := (m : Int)) (HA.out.below b) HO.out.c HO.out.size.2)
    clear hc h1 h2 O hs
    go_enter Try.func12, Try.ntmps12
    go_wp2_with fail
    refine CC.out.mono ?_; rintro e w4 ⟨rfl, b⟩
    have B4 := Lib.hid (B2.out.trans (b.mono B2.out.size))
    have r4 := R2.out.below b R2.out.lt
    clear b g0 g1 hW1 hW2
    have g0 := r4.cell (i := 0) rfl; have g1 := r4.cell (i := 1) rfl
    clear r4
    go_wp2_with fail
    refine (RV.out _ B4.out).mono ?_; rintro e w5 ⟨u5, rfl, a5, b5⟩
    have B5 := Lib.hid (B4.out.trans (b5.mono B4.out.size))
    have A5 := Lib.hid a5
    clear b5 a5
    go_wp2_with fail
    refine (search_any A5.out (HU.out.below B5.out) (HO.out.flip) HS.out).mono ?_; rintro e w6 ⟨uD, uL, d, la, rfl, sr, hd, hl, b⟩
    have FB := Lib.hid (B5.out.trans (b.mono B5.out.size)); have SR6 := Lib.hid sr; have HD := Lib.hid hd
    clear b sr hd hl
    go_wp2_with fail
    go_ret2
    exact Or.inr ⟨m, q, uD, d, rfl, rfl, HS.out, HO.out, rfl, SR6.out.isd, HD.out, FB.out⟩
  · obtain ⟨c, hcc⟩ : ∃ c, ckv N ars ws [s] = c := ⟨_, rfl⟩
    have HC := Lib.hid hcc
    rw [hcc] at CC hc
    have HZ := Lib.hid hc
    have c1 : (c == 0) = false := by simpa using hc
    have c2 : (c != 0) = true := by simpa using hc
    clear hc hcc
    go_enter Try.func12, Try.ntmps12
    go_wp2_with fail
    refine CC.out.mono ?_; rintro e w4 ⟨rfl, b⟩
    have B4 := Lib.hid (B2.out.trans (b.mono B2.out.size))
    clear b g0 g1 hW1 hW2
    go_wp2_with fail
    go_ret2
    exact Or.inl ⟨c, HZ.out, HC.out, rfl, B4.out⟩
end Go.Proofs.Ytgofachgoflgnaa
