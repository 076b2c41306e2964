/- tags: Number, the program's and the reference's. -/
import Derived.Test.YtlojecpladckiaaTd
namespace Go.Proofs.Ytlojecpladckiaa
open Go.ChangeShapes Go.WideShapes Go.ChangeAt Go.RowKit Go.Joins Go.Deep

open Go.Proofs.TagM Go.Shelf

/- the number that digits denote -/
def nmA : List UInt8 → Int → Option Int
  | [], n => some n
  | c :: s, n => if c.toNat < 48 ∨ 57 < c.toNat then none else nmA s (10 * n + ((c.toNat : Int) - 48))
def nm (s : ByteArray) : Int × Bool :=
  if s.size < 1 ∨ 9 < s.size then (0, false) else match nmA s.data.toList 0 with | some n => (n, true) | none => (0, false)
theorem nm_bad {s : ByteArray} (h : s.size < 1 ∨ 9 < s.size) : nm s = (0, false) := if_pos h
theorem nm_none {s : ByteArray} (h : ¬ (s.size < 1 ∨ 9 < s.size)) (k : nmA s.data.toList 0 = none) : nm s = (0, false) := by unfold nm; rw [if_neg h, k]
theorem nm_some {s : ByteArray} {n : Int} (h : ¬ (s.size < 1 ∨ 9 < s.size)) (k : nmA s.data.toList 0 = some n) : nm s = (n, true) := by unfold nm; rw [if_neg h, k]
def ch (s : ByteArray) (k : Nat) : Int := ((s.data.toList.getD k 0).toNat : Int)
theorem ch_lo (s : ByteArray) (k : Nat) : 0 ≤ ch s k ∧ ch s k ≤ 255 := by
  unfold ch; have := (s.data.toList.getD k 0).toNat_lt; omega
theorem nmA_drop {s : ByteArray} {k : Nat} (h : k < s.size) (n : Int) : nmA (s.data.toList.drop k) n = if ch s k < 48 ∨ 57 < ch s k then none else nmA (s.data.toList.drop (k + 1)) (10 * n + (ch s k - 48)) := by
  have hk : k < s.data.toList.length := h
  rw [List.drop_eq_getElem_cons hk, nmA]
  have e : ch s k = ((s.data.toList[k]).toNat : Int) := by unfold ch; rw [List.getD, List.getElem?_eq_getElem hk]; rfl
  rw [e]
  by_cases hc : (s.data.toList[k]).toNat < 48 ∨ 57 < (s.data.toList[k]).toNat
  · rw [if_pos hc, if_pos (by omega)]
  · rw [if_neg hc, if_neg (by omega)]
theorem ix_run {s : ByteArray} {k : Nat} (h : k < s.size) (w : World) : Sem.run Try.prog (Instr.index 9 (.string s) (.int .i64 (k : Int))) w = .ok (.int .u8 (ch s k)) w := by
  rw [run_index_string (h := Try.underlying9), dif_pos ⟨by omega, by omega⟩]
  have hk : k < s.data.toList.length := h
  have e : ch s k = ((s.data.toList[k]).toNat : Int) := by unfold ch; rw [List.getD, List.getElem?_eq_getElem hk]; rfl
  rw [e]; rfl
theorem pow_le {k : Nat} (h : k ≤ 9) : (10 : Int) ^ k ≤ 1000000000 := by
  have : k = 0 ∨ k = 1 ∨ k = 2 ∨ k = 3 ∨ k = 4 ∨ k = 5 ∨ k = 6 ∨ k = 7 ∨ k = 8 ∨ k = 9 := by omega
  rcases this with rfl | rfl | rfl | rfl | rfl | rfl | rfl | rfl | rfl | rfl <;> decide
theorem gt_no : ∀ {l : List Tg} {k : ByteArray}, (gt l k).2 = false → (gt l k).1 = ⟨#[]⟩
  | [], _, _ => rfl
  | t :: l, k, h => by
    rw [gt] at h ⊢
    by_cases e : t.1 = k
    · rw [if_pos e] at h; cases h
    · rw [if_neg e] at h ⊢; exact gt_no h
set_option maxHeartbeats 2000000 in
theorem number_any {w : World} {v : Value} {l : List Tg} (key : ByteArray) (h : TagsAt w v l) (hl : l.length ≤ 1000000) : Calls Try.prog 17 #[v, .string key] w fun e w' => e = .returned (.tuple #[.int .i64 (nm (gt l key).1).1, .bool (nm (gt l key).1).2]) ∧ Below w.heap.size w w' := by
  have HG := Lib.hid (get_any key h hl)
  obtain ⟨a, cap, rfl, _⟩ := h
  obtain ⟨⟨s, ok⟩, hs⟩ : ∃ z, gt l key = z := ⟨_, rfl⟩
  rw [hs] at HG ⊢
  dsimp only at HG ⊢
  obtain ⟨n, hn⟩ : ∃ n, l.length = n := ⟨_, rfl⟩
  rw [hn] at HG ⊢
  clear hs hn hl
  obtain ⟨m, hm⟩ : ∃ m, s.size = m := ⟨_, rfl⟩
  by_cases h1 : (m : Int) < 1
  · have V := Lib.hid (nm_bad (s := s) (by omega))
    go_enter Try.func17, Try.ntmps17
    go_wp2_with fail
    refine HG.out.mono ?_; rintro e w2 ⟨rfl, b⟩
    go_wp2_with fail
    go_ret2
    exact ⟨by rw [V.out]; rfl, b⟩
  · by_cases h2 : 9 < (m : Int)
    · have V := Lib.hid (nm_bad (s := s) (by omega))
      go_enter Try.func17, Try.ntmps17
      go_wp2_with fail
      refine HG.out.mono ?_; rintro e w2 ⟨rfl, b⟩
      go_wp2_with fail
      go_ret2
      exact ⟨by rw [V.out]; rfl, b⟩
    · have NB := Lib.hid (show ¬ (s.size < 1 ∨ 9 < s.size) by omega)
      have HM := Lib.hid hm; have H2 := Lib.hid h2
      go_enter Try.func17, Try.ntmps17
      go_wp2_with fail
      refine HG.out.mono ?_; rintro e w2 ⟨rfl, b⟩
      have B2 := Lib.hid b
      clear b
      go_wp2_with fail
      clear hm
      go_loopw [27, 8] (fun s27 s8 wr => ∃ k : Nat, ∃ z : Int, k ≤ m ∧ s27 = .int .i64 (k : Int) ∧ s8 = .int .i64 z ∧ Hid (nmA s.data.toList 0 = nmA (s.data.toList.drop k) z) ∧ Hid (0 ≤ z ∧ z < (10 : Int) ^ k) ∧ wr = w2) (fun s _ _ => m - (intOf s).toNat)
      case atStart => exact ⟨0, 0, Nat.zero_le _, rfl, rfl, rfl, by show (0 : Int) ≤ 0 ∧ (0 : Int) < 10 ^ 0; decide, rfl⟩
      case round =>
        obtain ⟨k, z, hk, rfl, rfl, GG, ZZ, rfl⟩ := hrel
        by_cases hkm : k < m
        · have hks : k < s.size := by rw [HM.out]; exact hkm
          have IX := fun W => ix_run hks W
          have DR := Lib.hid (nmA_drop hks z)
          have CL := Lib.hid (ch_lo s k)
          obtain ⟨c, hc⟩ : ∃ c, ch s k = c := ⟨_, rfl⟩
          rw [hc] at DR CL
          simp only [hc] at IX
          have kl : (k : Int) < (m : Int) := by omega
          clear hks hc
          by_cases c1 : c < 48
          · have V := Lib.hid (nm_none NB.out (GG.out.trans (DR.out.trans (if_pos (Or.inl c1)))))
            go_wp2_with fail
            go_ret2
            exact ⟨by rw [V.out]; rfl, B2.out⟩
          · by_cases c2 : 57 < c
            · have V := Lib.hid (nm_none NB.out (GG.out.trans (DR.out.trans (if_pos (Or.inr c2)))))
              go_wp2_with fail
              go_ret2
              exact ⟨by rw [V.out]; rfl, B2.out⟩
            · have V := Lib.hid (GG.out.trans (DR.out.trans (if_neg (by omega))))
              obtain ⟨k1, hk1⟩ : ∃ k1, k + 1 = k1 := ⟨_, rfl⟩
              have HK := Lib.hid hk1
              have zb : z < 1000000000 := Int.lt_of_lt_of_le ZZ.out.2 (pow_le (by have := H2.out; omega))
              have z0 := ZZ.out.1
              have pk : (10 : Int) ^ k1 = 10 * 10 ^ k := by rw [← hk1, Int.pow_succ, Int.mul_comm]
              obtain ⟨d, hd⟩ : ∃ d, c - 48 = d := ⟨_, rfl⟩
              have wd : IntKind.u8.wrap d = d := by rw [IntKind.wrap_u8]; omega
              have wd2 : IntKind.i64.wrap d = d := by rw [IntKind.wrap_i64]; omega
              obtain ⟨t, ht⟩ : ∃ t, 10 * z = t := ⟨_, rfl⟩
              have wt : IntKind.i64.wrap t = t := by rw [IntKind.wrap_i64]; omega
              obtain ⟨z1, hz1⟩ : ∃ z1, t + d = z1 := ⟨_, rfl⟩
              have wz : IntKind.i64.wrap z1 = z1 := by rw [IntKind.wrap_i64]; omega
              have e1 : (k : Int) + 1 = (k1 : Int) := by omega
              have e2 : IntKind.i64.wrap (k1 : Int) = (k1 : Int) := by rw [IntKind.wrap_i64]; have := H2.out; omega
              have G2 : Hid (nmA s.data.toList 0 = nmA (s.data.toList.drop k1) z1) := by rw [← hz1, ← ht, ← hd, ← hk1]; exact V.out
              have Z2 : Hid (0 ≤ z1 ∧ z1 < (10 : Int) ^ k1) := by
                have z9 := ZZ.out.2
                show 0 ≤ z1 ∧ z1 < (10 : Int) ^ k1
                rw [pk]; omega
              clear V GG ZZ DR pk hk1 zb z0
              go_wp2_with fail
              go_roundw
              case measure => simp [intOf]; have := HK.out; omega
              case rel => exact ⟨k1, z1, by have := HK.out; omega, rfl, rfl, G2, Z2, by trivial⟩
        · have kl : ¬ (k : Int) < (m : Int) := by omega
          have V := Lib.hid (nm_some NB.out (GG.out.trans (by rw [List.drop_eq_nil_of_le (by show s.size ≤ k; rw [HM.out]; omega)]; rfl)))
          go_wp2_with fail
          go_ret2
          exact ⟨by rw [V.out]; rfl, B2.out⟩
set_option maxHeartbeats 2000000 in
theorem numberr_any {w : World} {v : Value} {l : List Tg} (key : ByteArray) (h : TagsAt w v l) (hl : l.length ≤ 1000000) : Calls Try.prog 18 #[v, .string key] w fun e w' => e = .returned (.tuple #[.int .i64 (nm (gt l key).1).1, .bool (nm (gt l key).1).2]) ∧ w' = w := by
  have HG := Lib.hid (getr_any key h hl)
  obtain ⟨a, cap, rfl, _⟩ := h
  obtain ⟨⟨s, ok⟩, hs⟩ : ∃ z, gt l key = z := ⟨_, rfl⟩
  have HO := Lib.hid (gt_no (l := l) (k := key))
  rw [hs] at HG HO ⊢
  dsimp only at HG HO ⊢
  obtain ⟨n, hn⟩ : ∃ n, l.length = n := ⟨_, rfl⟩
  rw [hn] at HG ⊢
  clear hs hn hl
  cases ok with
  | false =>
    obtain rfl := HO.out rfl
    go_enter Try.func18, Try.ntmps18
    go_wp2_with fail
    refine HG.out.mono ?_; rintro e w2 ⟨rfl, rfl⟩
    go_wp2_with fail
    go_ret2
    exact ⟨rfl, rfl⟩
  | true =>
  obtain ⟨m, hm⟩ : ∃ m, s.size = m := ⟨_, rfl⟩
  by_cases h1 : (m : Int) < 1
  · have V := Lib.hid (nm_bad (s := s) (by omega))
    go_enter Try.func18, Try.ntmps18
    go_wp2_with fail
    refine HG.out.mono ?_; rintro e w2 ⟨rfl, rfl⟩
    go_wp2_with fail
    go_ret2
    exact ⟨by rw [V.out]; rfl, rfl⟩
  · by_cases h2 : 9 < (m : Int)
    · have V := Lib.hid (nm_bad (s := s) (by omega))
      go_enter Try.func18, Try.ntmps18
      go_wp2_with fail
      refine HG.out.mono ?_; rintro e w2 ⟨rfl, rfl⟩
      go_wp2_with fail
      go_ret2
      exact ⟨by rw [V.out]; rfl, rfl⟩
    · have NB := Lib.hid (show ¬ (s.size < 1 ∨ 9 < s.size) by omega)
      have HM := Lib.hid hm; have H2 := Lib.hid h2
      go_enter Try.func18, Try.ntmps18
      go_wp2_with fail
      refine HG.out.mono ?_; rintro e w2 ⟨rfl, rfl⟩
      go_wp2_with fail
      clear hm
      go_loopw [9, 8] (fun s9 s8 wr => ∃ k : Nat, ∃ z : Int, k ≤ m ∧ s9 = .int .i64 (k : Int) ∧ s8 = .int .i64 z ∧ Hid (nmA s.data.toList 0 = nmA (s.data.toList.drop k) z) ∧ Hid (0 ≤ z ∧ z < (10 : Int) ^ k) ∧ wr = w2) (fun s _ _ => m - (intOf s).toNat)
      case atStart => exact ⟨0, 0, Nat.zero_le _, rfl, rfl, rfl, by show (0 : Int) ≤ 0 ∧ (0 : Int) < 10 ^ 0; decide, rfl⟩
      case round =>
        obtain ⟨k, z, hk, rfl, rfl, GG, ZZ, rfl⟩ := hrel
        have hm := HM.out
        by_cases hkm : k < m
        · have hks : k < s.size := by rw [HM.out]; exact hkm
          have IX := fun W => ix_run hks W
          have DR := Lib.hid (nmA_drop hks z)
          have CL := Lib.hid (ch_lo s k)
          obtain ⟨c, hc⟩ : ∃ c, ch s k = c := ⟨_, rfl⟩
          rw [hc] at DR CL
          simp only [hc] at IX
          have kl : (k : Int) < (m : Int) := by omega
          clear hks hc
          by_cases c1 : c < 48
          · have V := Lib.hid (nm_none NB.out (GG.out.trans (DR.out.trans (if_pos (Or.inl c1)))))
            go_wp2_with fail
            go_ret2
            exact ⟨by rw [V.out]; rfl, rfl⟩
          · by_cases c2 : 57 < c
            · have V := Lib.hid (nm_none NB.out (GG.out.trans (DR.out.trans (if_pos (Or.inr c2)))))
              go_wp2_with fail
              go_ret2
              exact ⟨by rw [V.out]; rfl, rfl⟩
            · have V := Lib.hid (GG.out.trans (DR.out.trans (if_neg (by omega))))
              obtain ⟨k1, hk1⟩ : ∃ k1, k + 1 = k1 := ⟨_, rfl⟩
              have HK := Lib.hid hk1
              have zb : z < 1000000000 := Int.lt_of_lt_of_le ZZ.out.2 (pow_le (by have := H2.out; omega))
              have z0 := ZZ.out.1
              have pk : (10 : Int) ^ k1 = 10 * 10 ^ k := by rw [← hk1, Int.pow_succ, Int.mul_comm]
              obtain ⟨d, hd⟩ : ∃ d, c - 48 = d := ⟨_, rfl⟩
              have wd : IntKind.u8.wrap d = d := by rw [IntKind.wrap_u8]; omega
              have wd2 : IntKind.i64.wrap d = d := by rw [IntKind.wrap_i64]; omega
              obtain ⟨t, ht⟩ : ∃ t, 10 * z = t := ⟨_, rfl⟩
              have wt : IntKind.i64.wrap t = t := by rw [IntKind.wrap_i64]; omega
              obtain ⟨z1, hz1⟩ : ∃ z1, t + d = z1 := ⟨_, rfl⟩
              have wz : IntKind.i64.wrap z1 = z1 := by rw [IntKind.wrap_i64]; omega
              have e1 : (k : Int) + 1 = (k1 : Int) := by omega
              have e2 : IntKind.i64.wrap (k1 : Int) = (k1 : Int) := by rw [IntKind.wrap_i64]; have := H2.out; omega
              have G2 : Hid (nmA s.data.toList 0 = nmA (s.data.toList.drop k1) z1) := by rw [← hz1, ← ht, ← hd, ← hk1]; exact V.out
              have Z2 : Hid (0 ≤ z1 ∧ z1 < (10 : Int) ^ k1) := by
                have z9 := ZZ.out.2
                show 0 ≤ z1 ∧ z1 < (10 : Int) ^ k1
                rw [pk]; omega
              clear V GG ZZ DR pk hk1 zb z0
              go_wp2_with fail
              go_roundw
              case measure => simp [intOf]; have := HK.out; omega
              case rel => exact ⟨k1, z1, by have := HK.out; omega, rfl, rfl, G2, Z2, by trivial⟩
        · have kl : ¬ (k : Int) < (m : Int) := by omega
          have V := Lib.hid (nm_some NB.out (GG.out.trans (by rw [List.drop_eq_nil_of_le (by show s.size ≤ k; rw [HM.out]; omega)]; rfl)))
          go_wp2_with fail
          go_ret2
          exact ⟨by rw [V.out]; rfl, rfl⟩
end Go.Proofs.Ytlojecpladckiaa
