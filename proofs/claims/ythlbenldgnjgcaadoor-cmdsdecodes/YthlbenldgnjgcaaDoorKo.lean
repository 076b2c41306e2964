/- cmds: the reference's Same. -/
import Derived.Test.YthlbenldgnjgcaaDoorKn
namespace Go.Proofs.YthlbenldgnjgcaaDoor
open Go.ChangeShapes Go.WideShapes Go.ChangeAt Go.RowKit Go.Joins Go.Deep

theorem rows_ne {ls ms : List (List Pt)} {j : Nat} (h : ls.getD j [] ≠ ms.getD j []) : decide (ls = ms) = false := by
  apply decide_eq_false; rintro rfl; exact h rfl
theorem rows_eq {ls ms : List (List Pt)} (hl : ls.length = ms.length) (h : ∀ k, k < ls.length → ls.getD k [] = ms.getD k []) : ls = ms := by
  apply List.ext_getElem hl
  intro k h1 h2
  have := h k h1
  rw [List.getD, List.getD, List.getElem?_eq_getElem h1, List.getElem?_eq_getElem h2] at this
  exact this
theorem pts_eq {l m : List Pt} (hl : l.length = m.length) (h : ∀ k, k < l.length → l.getD k (0, 0) = m.getD k (0, 0)) : l = m := by
  apply List.ext_getElem hl
  intro k h1 h2
  have := h k h1
  rw [List.getD, List.getD, List.getElem?_eq_getElem h1, List.getElem?_eq_getElem h2] at this
  exact this
set_option maxRecDepth 100000 in
set_option maxHeartbeats 8000000 in
theorem same_eqk {w : World} {k : Int} {v u : Value} {ls ms : List (List Pt)} (hv : RowsAt w v ls) (hu : RowsAt w u ms) (sl : ls.length ≤ 1000000) (sl2 : ∀ l ∈ ls, l.length ≤ 1000000) (hlen : ls.length = ms.length) :
    Calls Tryd.prog 16 #[gv k v, gv k u] w fun e w' => e = .returned (.bool (decide (ls = ms))) ∧ Below w.heap.size w w' := by
  have A0 := hv; have A1 := hu
  obtain ⟨S, hS⟩ : ∃ S, decide (ls = ms) = S := ⟨_, rfl⟩
  have HSV := Lib.hid hS
  rw [hS]
  clear hS
  obtain ⟨a, cap, rfl⟩ := hv.form
  obtain ⟨a', cap', rfl⟩ := hu.form
  obtain ⟨n, hn⟩ : ∃ n, ls.length = n := ⟨_, rfl⟩
  have hn' : ms.length = n := by omega
  obtain ⟨B0, hB0⟩ : ∃ B0, w.heap.size = B0 := ⟨_, rfl⟩
  rw [hn, hn']
  obtain ⟨W1, hW1⟩ : ∃ W1, w.alloc (.cells #[.int .i64 k, .slice a n cap] 24) = W1 := ⟨_, rfl⟩
  have s1 : W1.heap.size = B0 + 1 := by rw [← hW1, World.size_alloc, hB0]
  obtain ⟨W2, hW2⟩ : ∃ W2, W1.alloc (.cells #[.int .i64 k, .slice a' n cap'] 24) = W2 := ⟨_, rfl⟩
  have r1 : Row W2 B0 24 [.int .i64 k, .slice a n cap] := by rw [← hW2, ← hW1, ← hB0]; exact (Row.new _ _ _).alloc _
  have r2 : Row W2 (B0 + 1) 24 [.int .i64 k, .slice a' n cap'] := by rw [← hW2, ← s1]; exact Row.new _ _ _
  have b2 : Below w.heap.size w W2 := by
    rw [← hW2, ← hW1]
    exact ((Below.refl _ _).alloc (Nat.le_refl _) _).alloc (by simp) _
  have q0 := r1.cell (i := 0) rfl; have q1 := r1.cell (i := 1) rfl; have q2 := r2.cell (i := 0) rfl; have q3 := r2.cell (i := 1) rfl
  have AA := Lib.hid (A0.below b2); have AB := Lib.hid (A1.below b2)
  rw [hn] at AA; rw [hn'] at AB
  have BB := Lib.hid b2; have R1 := Lib.hid r1; have R2 := Lib.hid r2
  have HN := Lib.hid hn; have HN2 := Lib.hid hn'; have HS := Lib.hid (show n ≤ 1000000 by omega); have HS2 := Lib.hid sl2
  clear A0 A1 hv hu r1 r2 b2 hn hn' sl sl2 hlen
  go_enter Tryd.func16, Tryd.ntmps16
  go_wp2_with fail
  clear q0 q1 q2 q3 hW1 hW2 s1
  go_loopw [5] (fun s wr => ∃ i : Nat, i ≤ n ∧ s = .int .i64 (i : Int) ∧ Hid (∀ j, j < i → ls.getD j [] = ms.getD j []) ∧ Hid (Below W2.heap.size W2 wr)) (fun s _ => n - (intOf s).toNat)
  case atStart => exact ⟨0, Nat.zero_le _, rfl, fun j hj => absurd hj (by omega), Below.refl _ _⟩
  case round =>
    obtain ⟨i, hi, rfl, GG, BW⟩ := hrel
    have r1 := R1.out.below BW.out R1.out.lt; have r2 := R2.out.below BW.out R2.out.lt
    have q0 := r1.cell (i := 0) rfl; have q1 := r1.cell (i := 1) rfl; have q2 := r2.cell (i := 0) rfl; have q3 := r2.cell (i := 1) rfl
    clear r1 r2
    by_cases hin : i < n
    · obtain ⟨ob, off, x0, rfl, bl, o0, pu⟩ := (AA.out.below BW.out).at_ (j := i) (by rw [HN.out]; exact hin)
      obtain ⟨ob', off', x1, rfl, bl', o1, pu'⟩ := (AB.out.below BW.out).at_ (j := i) (by rw [HN2.out]; exact hin)
      have hlm := HS2.out _ (getL_mem (ls := ls) (j := i) (by rw [HN.out]; exact hin))
      have PU0 := pu; have PV0 := pu'
      obtain ⟨au, cu, rfl, _⟩ := pu.form
      obtain ⟨au', cu', rfl, _⟩ := pu'.form
      have NE := Lib.hid (fun h => rows_ne (ls := ls) (ms := ms) (j := i) h)
      obtain ⟨l, hl⟩ : ∃ l, ls.getD i [] = l := ⟨_, rfl⟩
      obtain ⟨l', hl'⟩ : ∃ l', ms.getD i [] = l' := ⟨_, rfl⟩
      rw [hl] at o0 PU0 NE pu hlm; rw [hl'] at o1 PV0 NE pu'
      have HL1 := Lib.hid hl; have HL2 := Lib.hid hl'
      obtain ⟨k1, hk1⟩ : ∃ k1, i + 1 = k1 := ⟨_, rfl⟩
      have HK := Lib.hid hk1
      have k0 : (0 : Int) ≤ (i : Int) := by omega
      have kl : (i : Int) < (n : Int) := by omega
      have e1 : (i : Int) + 1 = (k1 : Int) := by omega
      have e2 : IntKind.i64.wrap (k1 : Int) = (k1 : Int) := by rw [IntKind.wrap_i64]; have := HS.out; omega
      obtain ⟨m, hm⟩ : ∃ m, l.length = m := ⟨_, rfl⟩
      obtain ⟨m', hm'⟩ : ∃ m', l'.length = m' := ⟨_, rfl⟩
      rw [hm] at o0 PU0 hlm; rw [hm'] at o1 PV0
      have HM := Lib.hid hm; have HM' := Lib.hid hm'; have HLM := Lib.hid hlm
      have PU := Lib.hid PU0; have PV := Lib.hid PV0
      have BL := Lib.hid bl; have BL' := Lib.hid bl'
      clear hk1 pu pu' PU0 PV0 hl hl' hm hm' hlm bl bl'
      by_cases hmm : m = m'
      · subst hmm
        have mm : ((m : Int) != (m : Int)) = false := by simp
        have O0 := Lib.hid o0; have O1 := Lib.hid o1
        go_wp2_with fail
        go_quiet (fail)
        go_wp2_with fail
        clear q0 q1 q2 q3 o0 o1 mm
        obtain ⟨wo, rfl⟩ : ∃ wo, wo = wr := ⟨wr, rfl⟩
        go_loopw [6] (fun s wr' => ∃ i2 : Nat, i2 ≤ m ∧ s = .int .i64 (i2 : Int) ∧ Hid (∀ j, j < i2 → l.getD j (0, 0) = l'.getD j (0, 0)) ∧ Hid (Below wo.heap.size wo wr')) (fun s _ => m - (intOf s).toNat)
        case atStart => exact ⟨0, Nat.zero_le _, rfl, fun j hj => absurd hj (by omega), by first | exact Below.refl _ _ | exact below_drewN (Below.refl _ _) _ | exact Below.drew (Below.refl _ _)⟩
        case round =>
          obtain ⟨i2, hi2, rfl, GG2, BW2⟩ := hrel
          have BWW := Lib.hid (BW.out.trans (BW2.out.mono BW.out.size))
          have r1 := R1.out.below BWW.out R1.out.lt; have r2 := R2.out.below BWW.out R2.out.lt
          have q0 := r1.cell (i := 0) rfl; have q1 := r1.cell (i := 1) rfl; have q2 := r2.cell (i := 0) rfl; have q3 := r2.cell (i := 1) rfl
          have o0 : wr.cell? ⟨ob, off + i, none⟩ = some (.slice au m cu) := by rw [BW2.out.cell BL.out]; exact O0.out
          have o1 : wr.cell? ⟨ob', off' + i, none⟩ = some (.slice au' m cu') := by rw [BW2.out.cell BL'.out]; exact O1.out
          clear r1 r2
          by_cases hin2 : i2 < m
          · obtain ⟨b, off2, rfl, bl2, p0, p1⟩ := (PU.out.below BW2.out).at_ (j := i2) (by rw [HM.out]; exact hin2)
            obtain ⟨b', off2', rfl, bl2', p2, p3⟩ := (PV.out.below BW2.out).at_ (j := i2) (by rw [HM'.out]; exact hin2)
            have NP : Hid (l.getD i2 (0, 0) ≠ l'.getD i2 (0, 0) → S = false) := fun h => HSV.out.symm.trans (NE.out (fun e => h (by rw [e])))
            obtain ⟨⟨x, y⟩, hz⟩ : ∃ z, l.getD i2 (0, 0) = z := ⟨_, rfl⟩
            obtain ⟨⟨x', y'⟩, hz'⟩ : ∃ z, l'.getD i2 (0, 0) = z := ⟨_, rfl⟩
            rw [hz] at p0 p1 NP; rw [hz'] at p2 p3 NP
            dsimp only at p0 p1 p2 p3
            have HZ := Lib.hid hz; have HZ' := Lib.hid hz'
            obtain ⟨k2, hk2⟩ : ∃ k2, i2 + 1 = k2 := ⟨_, rfl⟩
            have HK2 := Lib.hid hk2
            have k20 : (0 : Int) ≤ (i2 : Int) := by omega
            have kl2 : (i2 : Int) < (m : Int) := by omega
            have e12 : (i2 : Int) + 1 = (k2 : Int) := by omega
            have e22 : IntKind.i64.wrap (k2 : Int) = (k2 : Int) := by rw [IntKind.wrap_i64]; have := HLM.out; omega
            clear hz hz' hk2 bl2 bl2'
            by_cases hx : x = x'
            · subst hx
              by_cases hy : y = y'
              · subst hy
                have G2 : Hid (∀ j, j < k2 → l.getD j (0, 0) = l'.getD j (0, 0)) := by
                  intro j hj
                  by_cases e : j = i2
                  · rw [e, HZ.out, HZ'.out]
                  · exact GG2.out j (by have := HK2.out; omega)
                clear GG GG2 NP NE
                go_wp2_with fail
                go_quiet (fail)
                go_wp2_with fail
                go_roundw
                case measure => simp [intOf]; have := HK2.out; omega
                case rel => exact ⟨k2, by have := HK2.out; omega, rfl, G2, by first | exact BW2.out | exact below_drewN BW2.out _ | exact Below.drew BW2.out⟩
              · have V := Lib.hid (NP.out (by intro e; injection e with e1 e2; exact hy e2))
                have ey : (y == y') = false := by simpa using hy
                clear GG GG2 NP NE
                go_wp2_with fail
                go_quiet (fail)
                go_wp2_with fail
                go_ret
                refine ⟨by rw [V.out]; rfl, ?_⟩
                have FB := BB.out.trans (BWW.out.mono BB.out.size)
                first | exact FB | exact below_drewN FB _ | exact Below.drew FB | (rw [← hB0]; first | exact FB | exact below_drewN FB _)
            · have V := Lib.hid (NP.out (by intro e; injection e with e1 e2; exact hx e1))
              have ex : (x == x') = false := by simpa using hx
              clear GG GG2 NP NE
              go_wp2_with fail
              go_quiet (fail)
              go_wp2_with fail
              go_ret
              refine ⟨by rw [V.out]; rfl, ?_⟩
              have FB := BB.out.trans (BWW.out.mono BB.out.size)
              first | exact FB | exact below_drewN FB _ | exact Below.drew FB | (rw [← hB0]; first | exact FB | exact below_drewN FB _)
          · have kl2 : ¬ (i2 : Int) < (m : Int) := by omega
            have G2 : Hid (∀ j, j < k1 → ls.getD j [] = ms.getD j []) := by
              intro j hj
              by_cases e : j = i
              · rw [e, HL1.out, HL2.out]; exact pts_eq (by rw [HM.out, HM'.out]) (fun j hj => GG2.out j (by have := HM.out; omega))
              · exact GG.out j (by have := HK.out; omega)
            clear GG GG2 NE
            go_wp2_with fail
            go_roundw
            case measure => simp [intOf]; have := HK.out; omega
            case rel => exact ⟨k1, by have := HK.out; omega, rfl, G2, BWW⟩
      · have V : Hid (S = false) := HSV.out.symm.trans (NE.out (fun e => hmm (by rw [← HM.out, ← HM'.out, e])))
        have mm : ((m : Int) != (m' : Int)) = true := by simp; omega
        have BWW := BW
        clear GG NE
        go_wp2_with fail
        go_quiet (fail)
        go_wp2_with fail
        go_ret
        refine ⟨by rw [V.out]; rfl, ?_⟩
        have FB := BB.out.trans (BWW.out.mono BB.out.size)
        first | exact FB | exact below_drewN FB _ | exact Below.drew FB | (rw [← hB0]; first | exact FB | exact below_drewN FB _)
    · have kl : ¬ (i : Int) < (n : Int) := by omega
      have V : Hid (S = true) := HSV.out.symm.trans (decide_eq_true (rows_eq (by rw [HN.out, HN2.out]) (fun j hj => GG.out j (by have := HN.out; omega))))
      clear GG
      go_wp2_with fail
      go_ret
      exact ⟨by rw [V.out]; rfl, by first | exact BB.out.trans (BW.out.mono BB.out.size) | (rw [← hB0]; exact BB.out.trans (BW.out.mono BB.out.size))⟩
theorem same_any {w : World} {k k' : Int} {v u : Value} {ls ms : List (List Pt)} (hv : RowsAt w v ls) (hu : RowsAt w u ms) (sl : ls.length ≤ 1000000) (sl2 : ∀ l ∈ ls, l.length ≤ 1000000) :
    Calls Tryd.prog 16 #[gv k v, gv k' u] w fun e w' => e = .returned (.bool (decide (k = k' ∧ ls = ms))) ∧ Below w.heap.size w w' := by
  by_cases hk : k = k'
  · subst hk
    by_cases hl : ls.length = ms.length
    · have h := same_eqk (k := k) hv hu sl sl2 hl
      have e : decide (k = k ∧ ls = ms) = decide (ls = ms) := by simp
      rw [e]; exact h
    · have V : decide (k = k ∧ ls = ms) = false := decide_eq_false (by rintro ⟨_, rfl⟩; exact hl rfl)
      rw [V]
      obtain ⟨a, cap, rfl⟩ := hv.form
      obtain ⟨a', cap', rfl⟩ := hu.form
      obtain ⟨n, hn⟩ : ∃ n, ls.length = n := ⟨_, rfl⟩
      obtain ⟨n', hn'⟩ : ∃ n, ms.length = n := ⟨_, rfl⟩
      rw [hn, hn']
      have nn : ((n : Int) != (n' : Int)) = true := by simp; omega
      obtain ⟨B0, hB0⟩ : ∃ B0, w.heap.size = B0 := ⟨_, rfl⟩
      obtain ⟨W1, hW1⟩ : ∃ W1, w.alloc (.cells #[.int .i64 k, .slice a n cap] 24) = W1 := ⟨_, rfl⟩
      have s1 : W1.heap.size = B0 + 1 := by rw [← hW1, World.size_alloc, hB0]
      obtain ⟨W2, hW2⟩ : ∃ W2, W1.alloc (.cells #[.int .i64 k, .slice a' n' cap'] 24) = W2 := ⟨_, rfl⟩
      have r1 : Row W2 B0 24 [.int .i64 k, .slice a n cap] := by rw [← hW2, ← hW1, ← hB0]; exact (Row.new _ _ _).alloc _
      have r2 : Row W2 (B0 + 1) 24 [.int .i64 k, .slice a' n' cap'] := by rw [← hW2, ← s1]; exact Row.new _ _ _
      have b2 : Below w.heap.size w W2 := by
        rw [← hW2, ← hW1]
        exact ((Below.refl _ _).alloc (Nat.le_refl _) _).alloc (by simp) _
      have q0 := r1.cell (i := 0) rfl; have q1 := r1.cell (i := 1) rfl; have q2 := r2.cell (i := 0) rfl; have q3 := r2.cell (i := 1) rfl
      have BB := Lib.hid b2
      clear r1 r2 b2 hv hu hn hn' hl sl sl2 V
      go_enter Tryd.func16, Tryd.ntmps16
      go_wp2_with fail
      go_ret
      exact ⟨rfl, by first | exact BB.out | (rw [← hB0]; exact BB.out)⟩
  · have V : decide (k = k' ∧ ls = ms) = false := decide_eq_false (fun h => hk h.1)
    rw [V]
    obtain ⟨a, cap, rfl⟩ := hv.form
    obtain ⟨a', cap', rfl⟩ := hu.form
    obtain ⟨n, hn⟩ : ∃ n, ls.length = n := ⟨_, rfl⟩
    obtain ⟨n', hn'⟩ : ∃ n, ms.length = n := ⟨_, rfl⟩
    rw [hn, hn']
    have kn : (k != k') = true := by simpa using hk
    obtain ⟨B0, hB0⟩ : ∃ B0, w.heap.size = B0 := ⟨_, rfl⟩
    obtain ⟨W1, hW1⟩ : ∃ W1, w.alloc (.cells #[.int .i64 k, .slice a n cap] 24) = W1 := ⟨_, rfl⟩
    have s1 : W1.heap.size = B0 + 1 := by rw [← hW1, World.size_alloc, hB0]
    obtain ⟨W2, hW2⟩ : ∃ W2, W1.alloc (.cells #[.int .i64 k', .slice a' n' cap'] 24) = W2 := ⟨_, rfl⟩
    have r1 : Row W2 B0 24 [.int .i64 k, .slice a n cap] := by rw [← hW2, ← hW1, ← hB0]; exact (Row.new _ _ _).alloc _
    have r2 : Row W2 (B0 + 1) 24 [.int .i64 k', .slice a' n' cap'] := by rw [← hW2, ← s1]; exact Row.new _ _ _
    have b2 : Below w.heap.size w W2 := by
      rw [← hW2, ← hW1]
      exact ((Below.refl _ _).alloc (Nat.le_refl _) _).alloc (by simp) _
    have q0 := r1.cell (i := 0) rfl; have q1 := r1.cell (i := 1) rfl; have q2 := r2.cell (i := 0) rfl; have q3 := r2.cell (i := 1) rfl
    have BB := Lib.hid b2
    clear r1 r2 b2 hv hu hn hn' sl sl2 V hk
    go_enter Tryd.func16, Tryd.ntmps16
    go_wp2_with fail
    go_ret
    exact ⟨rfl, by first | exact BB.out | (rw [← hB0]; exact BB.out)⟩
end Go.Proofs.YthlbenldgnjgcaaDoor
