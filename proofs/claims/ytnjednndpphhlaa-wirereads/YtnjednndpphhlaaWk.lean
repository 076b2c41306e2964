/- The walk of WireCanonical. -/
import Derived.Test.YtnjednndpphhlaaWj
namespace Go.Proofs.Ytnjednndpphhlaa
open Go.ChangeShapes Go.WideShapes Go.ChangeAt Go.RowKit Go.Maps Go.WideMaps

theorem RdAt.same {w w' : World} {rb : Nat} {s : ByteArray} {e : Int} (h : RdAt w rb s e) (k : w'.heap[rb]? = w.heap[rb]?) : RdAt w' rb s e := by unfold RdAt; rw [k]; exact h
theorem rest_size {s : ByteArray} {k : Nat} (h : k ≤ s.size) : (rest s k 0).size + k = s.size := by
  rw [rest, if_pos rfl, ByteArray.size_extract]; omega
theorem rest_bound {s : ByteArray} {k : Nat} {c : Int} : (rest s k c).size ≤ s.size := by
  unfold rest; split
  · rw [ByteArray.size_extract]; omega
  · exact Nat.le_refl _
theorem put_len (n : Nat) : put ⟨#[]⟩ n = ⟨#[]⟩ ++ ⟨(enc n).toArray⟩ := rfl
/- a text that was read is written as it was -/
theorem text_good {s T : ByteArray} {n k n' k' : Nat} {c' : Int} (hp : Parse s n k 0) (h1 : cntN n 0 2000 = n') (h2 : cntK n k 0 2000 = k') (h3 : cntE n 0 2000 = c') (hT : txtS s n' k' c' = T) (hE : txtE s n' k' c' = 0) :
    put ⟨#[]⟩ T.size ++ T = s.extract 0 (txtK s n' k' c') ∧ txtK s n' k' c' ≤ s.size ∧ T.size ≤ 2000 := by
  have F : Fits s n' k' c' := by
    by_cases F : Fits s n' k' c'
    · exact F
    · rw [txtE, if_neg F] at hE
      split at hE
      · cases hE
      · rename_i a; exact absurd hE a
  have hc := F.1
  have hle : (n : Int) ≤ max 2000 0 := by
    rw [← h3, cntE, if_pos rfl] at hc
    split at hc
    · assumption
    · cases hc
  have e1 : n' = n := by rw [← h1, cntN, if_pos ⟨rfl, hle⟩]
  have e2 : k' = k := by rw [← h2, cntK, if_pos ⟨rfl, hle⟩]
  subst e1 e2
  have hf := F.2
  rw [txtS, if_pos F] at hT
  rw [txtK, if_pos F]
  have hsz : T.size = n' := by rw [← hT, ByteArray.size_extract]; omega
  refine ⟨?_, hf, by omega⟩
  rw [hsz, put_good hp, ← hT]
  apply ByteArray.ext
  simp
set_option maxRecDepth 100000 in
set_option maxHeartbeats 4000000 in
theorem wireCanonical_walk (s : ByteArray) (w : World) (hs : s.size ≤ maxLen) : Calls Try.prog 6 #[.string s] w fun e w' => e = .returned (.bool true) ∧ Below w.heap.size w w' := by
  unfold maxLen at hs
  obtain ⟨L, hL⟩ : ∃ L, s.size = L := ⟨_, rfl⟩
  have HL := Lib.hid hL
  rw [hL] at hs
  obtain ⟨A, hA⟩ : ∃ A, w.heap.size = A := ⟨_, rfl⟩
  have HA := Lib.hid hA
  clear hA
  go_enter Try.func6, Try.ntmps6
  go_wp2_with fail
  refine (read_any s _).mono ?_; rintro e w1 ⟨rfl, r1, b1⟩
  rw [HA.out] at r1 b1 ⊢
  obtain ⟨B, hB⟩ : ∃ B, w1.heap.size = B := ⟨_, rfl⟩
  have HAB : Hid (A < B) := by show _ < _; have := r1.lt; omega
  have HB := Lib.hid hB; have RA := Lib.hid r1; have B1 := Lib.hid b1
  clear r1 b1 hB
  go_wp2_with fail
  refine (read_any s _).mono ?_; rintro e w2 ⟨rfl, r2, b2⟩
  rw [HB.out] at r2 b2 ⊢
  obtain ⟨C, hC⟩ : ∃ C, w2.heap.size = C := ⟨_, rfl⟩
  have HBC : Hid (B < C) := by show _ < _; have := r2.lt; omega
  have RA2 := Lib.hid (RA.out.below b2 HAB.out)
  have HC := Lib.hid hC; have RB2 := Lib.hid r2; have B2 := Lib.hid (B1.out.trans (b2.mono (Nat.le_of_lt HAB.out)))
  clear r2 b2 hC RA B1
  go_wp2_with fail
  refine (read_any s _).mono ?_; rintro e w3 ⟨rfl, r3, b3⟩
  rw [HC.out] at r3 b3 ⊢
  have RA3 := Lib.hid (RA2.out.below b3 (by have := HAB.out; have := HBC.out; omega))
  have RB3 := Lib.hid (RB2.out.below b3 HBC.out)
  have RC3 := Lib.hid r3; have B3 := Lib.hid (B2.out.trans (b3.mono (by have := HAB.out; have := HBC.out; omega)))
  clear r3 b3 RA2 RB2 B2
  by_cases h2 : 2000 < L
  · go_wp2_with fail
    refine (lives_any _).mono ?_; rintro e w4 ⟨rfl, b⟩
    go_wp2_with fail
    go_ret
    refine ⟨rfl, ?_⟩
    rw [HA.out]; exact B3.out.trans (b.mono (Nat.le_of_lt RA3.out.lt))
  · have hL3 : Hid (s.size ≤ 1000000) := by show _ ≤ _; rw [HL.out]; omega
    obtain ⟨n, k, c, hp⟩ := Parse.exists s
    have hu := hp.used
    have HP := Lib.hid hp; have HU := Lib.hid hu
    clear hp hu
    go_wp2_with fail
    refine (uint_any hL3.out HP.out RA3.out).mono ?_; rintro e w4 ⟨rfl, r4, b4, k4⟩
    have RA4 := Lib.hid r4
    have RB4 := Lib.hid (RB3.out.same (k4 B RB3.out.lt (by have := HAB.out; omega)))
    have RC4 := Lib.hid (RC3.out.same (k4 C RC3.out.lt (by have := HAB.out; have := HBC.out; omega)))
    have B4 := Lib.hid (B3.out.trans b4)
    clear r4 b4 k4 RA3 RB3 RC3 B3
    go_wp2_with fail
    refine (int_of HU.out.2 (uint_any hL3.out HP.out RB4.out)).mono ?_; rintro e w5 ⟨rfl, r5, b5, k5⟩
    have RA5 := Lib.hid (RA4.out.same (k5 A RA4.out.lt (by have := HAB.out; omega)))
    have RB5 := Lib.hid r5
    have RC5 := Lib.hid (RC4.out.same (k5 C RC4.out.lt (by have := HBC.out; omega)))
    have B5 := Lib.hid (B4.out.trans (b5.mono (Nat.le_of_lt HAB.out)))
    clear r5 b5 k5 RA4 RB4 RC4 B4
    obtain ⟨n', hn'⟩ : ∃ n', cntN n c 2000 = n' := ⟨_, rfl⟩
    obtain ⟨k', hk'⟩ : ∃ k', cntK n k c 2000 = k' := ⟨_, rfl⟩
    obtain ⟨c', hc'⟩ : ∃ c', cntE n c 2000 = c' := ⟨_, rfl⟩
    have N1 := Lib.hid hn'; have N2 := Lib.hid hk'; have N3 := Lib.hid hc'
    clear hn' hk' hc'
    go_wp2_with fail
    refine (text_any hL3.out HP.out (by decide) (by decide) N1.out N2.out N3.out RC5.out).mono ?_; rintro e w6 ⟨rfl, r6, b6, k6⟩
    have RA6 := Lib.hid (RA5.out.same (k6 A RA5.out.lt (by have := HAB.out; have := HBC.out; omega)))
    have RB6 := Lib.hid (RB5.out.same (k6 B RB5.out.lt (by have := HBC.out; omega)))
    have RC6 := Lib.hid r6
    have B6 := Lib.hid (B5.out.trans (b6.mono (by have := HAB.out; have := HBC.out; omega)))
    clear r6 b6 k6 RA5 RB5 RC5 B5
    obtain ⟨T, hT⟩ : ∃ T, txtS s n' k' c' = T := ⟨_, rfl⟩
    obtain ⟨E, hE⟩ : ∃ E, txtE s n' k' c' = E := ⟨_, rfl⟩
    rw [hE] at RC6
    rw [hT]
    have HT := Lib.hid hT; have HE := Lib.hid hE
    clear hT hE
    by_cases hc : c = 0
    · subst hc
      obtain ⟨X, hX⟩ : ∃ X, s.extract 0 k = X := ⟨_, rfl⟩
      have PX : Hid (∀ w, Calls Try.prog 8 #[.string ⟨#[]⟩, .int .u64 n] w fun e w' => e = .returned (.string X) ∧ Below w.heap.size w w') := fun w => by
        have := put_any ⟨#[]⟩ n w (by decide) HU.out.2
        rw [put_good HP.out, hX] at this; exact this
      have PI : Hid (∀ w, Calls Try.prog 10 #[.string ⟨#[]⟩, .int .i64 (unzz n)] w fun e w' => e = .returned (.string X) ∧ Below w.heap.size w w') := fun w => by
        have := pint_any ⟨#[]⟩ (unzz n) w (by decide) (unzz_range HU.out.2).1 (unzz_range HU.out.2).2
        rw [zz_unzz, put_good HP.out, hX] at this; exact this
      have hk1 := HU.out.1
      obtain ⟨D, hD⟩ : ∃ D, (rest s k 0).size = D := ⟨_, rfl⟩
      have hDk : D + k = L := by rw [← hD, ← hL]; exact rest_size hk1
      rw [hL] at hk1
      have HD := Lib.hid hD
      have g1 : (L : Int) - (D : Int) = (k : Int) := by omega
      have g2 : IntKind.i64.wrap (k : Int) = (k : Int) := by rw [IntKind.wrap_i64]; omega
      have g3 : (k : Int) ≤ (L : Int) := by omega
      have g4 : (X.toList != X.toList) = false := by simp
      clear hD hDk
      go_wp2_with fail
      refine (err_any RA6.out).mono ?_; rintro e w' ⟨rfl, rfl⟩
      go_wp2_with fail
      refine (PX.out _).mono ?_; rintro e w7 ⟨rfl, b⟩
      have RA7 := Lib.hid (RA6.out.below b RA6.out.lt); have RB7 := Lib.hid (RB6.out.below b RB6.out.lt); have RC7 := Lib.hid (RC6.out.below b RC6.out.lt); have B7 := Lib.hid (B6.out.trans (b.mono (Nat.le_of_lt RA6.out.lt)))
      clear b RA6 RB6 RC6 B6
      go_wp2_with fail
      refine (left_any RA7.out).mono ?_; rintro e w' ⟨rfl, rfl⟩
      rw [HD.out]
      go_wp2_with fail
      refine (err_any RB7.out).mono ?_; rintro e w' ⟨rfl, rfl⟩
      go_wp2_with fail
      refine (PI.out _).mono ?_; rintro e w8 ⟨rfl, b⟩
      have RA8 := Lib.hid (RA7.out.below b RA7.out.lt); have RB8 := Lib.hid (RB7.out.below b RB7.out.lt); have RC8 := Lib.hid (RC7.out.below b RC7.out.lt); have B8 := Lib.hid (B7.out.trans (b.mono (Nat.le_of_lt RA7.out.lt)))
      clear b RA7 RB7 RC7 B7
      go_wp2_with fail
      refine (left_any RB8.out).mono ?_; rintro e w' ⟨rfl, rfl⟩
      rw [HD.out]
      by_cases hE : E = 0
      · subst hE
        obtain ⟨q1, q2, q3⟩ := text_good HP.out N1.out N2.out N3.out HT.out HE.out
        obtain ⟨K, hK⟩ : ∃ K, txtK s n' k' c' = K := ⟨_, rfl⟩
        rw [hK] at q1 q2 RC8
        obtain ⟨Y, hY⟩ : ∃ Y, s.extract 0 K = Y := ⟨_, rfl⟩
        rw [hY] at q1
        have PT : Hid (∀ w, Calls Try.prog 12 #[.string ⟨#[]⟩, .string T] w fun e w' => e = .returned (.string Y) ∧ Below w.heap.size w w') := fun w => by
          have := ptext_any ⟨#[]⟩ T w (by decide) (by omega)
          rw [q1] at this; exact this
        obtain ⟨D2, hD2⟩ : ∃ D2, (rest s K 0).size = D2 := ⟨_, rfl⟩
        have hDk : D2 + K = L := by rw [← hD2, ← hL]; exact rest_size q2
        rw [hL] at q2
        have HD2 := Lib.hid hD2
        have g5 : (L : Int) - (D2 : Int) = (K : Int) := by omega
        have g6 : IntKind.i64.wrap (K : Int) = (K : Int) := by rw [IntKind.wrap_i64]; omega
        have g7 : (K : Int) ≤ (L : Int) := by omega
        have g8 : (Y.toList == Y.toList) = true := by simp
        clear hD2 hDk q1 q3 hK
        go_wp2_with fail
        refine (err_any RC8.out).mono ?_; rintro e w' ⟨rfl, rfl⟩
        go_wp2_with fail
        refine (PT.out _).mono ?_; rintro e w9 ⟨rfl, b⟩
        have RA9 := Lib.hid (RA8.out.below b RA8.out.lt); have RB9 := Lib.hid (RB8.out.below b RB8.out.lt); have RC9 := Lib.hid (RC8.out.below b RC8.out.lt); have B9 := Lib.hid (B8.out.trans (b.mono (Nat.le_of_lt RA8.out.lt)))
        clear b RA8 RB8 RC8 B8
        go_wp2_with fail
        refine (left_any RC9.out).mono ?_; rintro e w' ⟨rfl, rfl⟩
        rw [HD2.out]
        go_wp2_with fail
        refine (err_any RA9.out).mono ?_; rintro e w' ⟨rfl, rfl⟩
        go_wp2_with fail
        refine (err_any RB9.out).mono ?_; rintro e w' ⟨rfl, rfl⟩
        go_wp2_with fail
        refine (lives_any _).mono ?_; rintro e w10 ⟨rfl, b⟩
        go_wp2_with fail
        go_ret
        refine ⟨rfl, ?_⟩
        rw [HA.out]; exact B9.out.trans (b.mono (Nat.le_of_lt RA9.out.lt))
      · have hb2 : (E != 0) = true := by simpa using hE
        clear hE
        go_wp2_with fail
        refine (err_any RC8.out).mono ?_; rintro e w' ⟨rfl, rfl⟩
        go_wp2_with fail
        refine (err_any RA8.out).mono ?_; rintro e w' ⟨rfl, rfl⟩
        go_wp2_with fail
        refine (err_any RB8.out).mono ?_; rintro e w' ⟨rfl, rfl⟩
        go_wp2_with fail
        refine (lives_any _).mono ?_; rintro e w10 ⟨rfl, b⟩
        go_wp2_with fail
        go_ret
        refine ⟨rfl, ?_⟩
        rw [HA.out]; exact B8.out.trans (b.mono (Nat.le_of_lt RA8.out.lt))
    · have hb : (c == 0) = false := by simpa using hc
      have hcc : (c == c) = true := by simp
      have hEc : E = c := by
        rw [← HE.out, ← N3.out, txtE, if_neg (fun h => hc (by have := h.1; rw [cntE, if_neg hc] at this; exact this)), cntE, if_neg hc, if_neg hc]
      subst hEc
      have hb2 : (E != 0) = true := by simpa using hc
      clear hc
      go_wp2_with fail
      refine (err_any RA6.out).mono ?_; rintro e w' ⟨rfl, rfl⟩
      go_wp2_with fail
      refine (err_any RB6.out).mono ?_; rintro e w' ⟨rfl, rfl⟩
      go_wp2_with fail
      refine (err_any RC6.out).mono ?_; rintro e w' ⟨rfl, rfl⟩
      go_wp2_with fail
      refine (err_any RA6.out).mono ?_; rintro e w' ⟨rfl, rfl⟩
      go_wp2_with fail
      refine (err_any RB6.out).mono ?_; rintro e w' ⟨rfl, rfl⟩
      go_wp2_with fail
      refine (lives_any _).mono ?_; rintro e w7 ⟨rfl, b⟩
      go_wp2_with fail
      go_ret
      refine ⟨rfl, ?_⟩
      rw [HA.out]; exact B6.out.trans (b.mono (Nat.le_of_lt RA6.out.lt))
end Go.Proofs.Ytnjednndpphhlaa
