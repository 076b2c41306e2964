/- What was written is read back. -/
import Derived.Test.YtnjednndpphhlaaWk
namespace Go.Proofs.Ytnjednndpphhlaa

/- the form of a number's bytes -/
theorem enc_facts : ∀ n, ∃ m, (enc n).length = m + 1 ∧ (∀ j, j < m → 128 ≤ ((enc n).getD j 0).toNat) ∧ ((enc n).getD m 0).toNat < 128 ∧ (0 < m → ((enc n).getD m 0).toNat ≠ 0) ∧ dl (enc n) = n := by
  intro n
  induction n using Nat.strongRecOn with
  | ind n ih =>
    by_cases hs : n < 128
    · have e : (UInt8.ofNat n).toNat = n := by simp; omega
      rw [enc_small hs]
      refine ⟨0, rfl, fun j h => absurd h (Nat.not_lt_zero j), ?_, fun h => absurd h (Nat.lt_irrefl 0), ?_⟩
      · show (UInt8.ofNat n).toNat < 128; omega
      · rw [dl, dl, e]; omega
    · obtain ⟨m, h1, h2, h3, h4, h5⟩ := ih (n / 128) (by omega)
      have e : (UInt8.ofNat (128 + n % 128)).toNat = 128 + n % 128 := by simp; omega
      rw [enc_big hs]
      refine ⟨m + 1, by rw [List.length_cons, h1], ?_, ?_, ?_, ?_⟩
      · intro j hj
        cases j with
        | zero => show 128 ≤ (UInt8.ofNat (128 + n % 128)).toNat; omega
        | succ j => have := h2 j (by omega); simpa using this
      · simpa using h3
      · intro _
        by_cases hm : m = 0
        · subst hm
          match hq : enc (n / 128), h1 with
          | [b], _ =>
            rw [hq] at h5
            have hb : b.toNat % 128 = n / 128 := by simpa [dl] using h5
            show b.toNat ≠ 0
            omega
        · have := h4 (by omega); simpa using this
      · rw [dl, h5, e]; omega
theorem byt_append (l : List UInt8) (r : ByteArray) (j : Nat) (h : j < l.length) : byt (⟨l.toArray⟩ ++ r) j = (l.getD j 0).toNat := by
  have hs : j < ((⟨l.toArray⟩ : ByteArray) ++ r).size := by rw [ByteArray.size_append]; show j < l.length + r.size; omega
  rw [← byt_at hs]
  have e : ((⟨l.toArray⟩ : ByteArray) ++ r)[j] = l[j] := by
    rw [ByteArray.getElem_append_left (by exact h)]; rfl
  rw [e]
  simp [h]
theorem cut_append (l : List UInt8) (r : ByteArray) : cut (⟨l.toArray⟩ ++ r) 0 l.length = l := by
  apply List.ext_getElem (cut_len _ _ _)
  intro j h1 h2
  rw [cut_get, Nat.zero_add, byt_append l r j h2]
  simp [h2]
/- a number and what follows it -/
theorem parse_put {n : Nat} (r : ByteArray) (hn : n < 18446744073709551616) : Parse (⟨(enc n).toArray⟩ ++ r) n (enc n).length 0 := by
  obtain ⟨m, h1, h2, h3, h4, h5⟩ := enc_facts n
  have h10 := enc_ten hn
  obtain ⟨s, hs⟩ : ∃ s : ByteArray, ⟨(enc n).toArray⟩ ++ r = s := ⟨_, rfl⟩
  have hsz : m + 1 ≤ s.size := by rw [← hs, ByteArray.size_append, ← h1]; show (enc n).length ≤ (enc n).length + r.size; omega
  have hb : ∀ j, j < m + 1 → byt s j = ((enc n).getD j 0).toNat := fun j hj => by rw [← hs]; exact byt_append _ _ _ (by omega)
  have hv : val s (m + 1) = n := by
    have hc := dl_cut s (m + 1) 0
    rw [Nat.zero_add] at hc
    rw [hc]
    have : cut s 0 (m + 1) = enc n := by rw [← hs, ← h1]; exact cut_append _ _
    rw [this, h5]; show 0 + 128 ^ 0 * n = n; simp
  rw [hs, h1]
  have hbm := hb m (by omega)
  have hg : Parse s (val s (m + 1)) (m + 1) 0 := by
    refine .good m (fun j hj => by rw [hb j (by omega)]; exact h2 j hj) (by omega) (by omega) (by rw [hbm]; exact h3) (fun h => h4 h.1 (by rw [← hbm]; exact h.2)) ?_
    rintro ⟨rfl, h⟩
    have e : val s (9 + 1) = val s 9 + byt s 9 % 128 * 128 ^ 9 := rfl
    have hm : byt s 9 % 128 = byt s 9 := Nat.mod_eq_of_lt (by rw [hbm]; exact h3)
    rw [e, hm] at hv
    have : 2 * 128 ^ 9 ≤ byt s 9 * 128 ^ 9 := Nat.mul_le_mul_right _ (by omega)
    omega
  rw [hv] at hg
  exact hg
theorem unzz_zz (i : Int) : unzz (zz i) = i := by
  unfold zz
  split
  · rw [unzz, if_pos (by omega)]; omega
  · rw [unzz, if_neg (by omega)]; omega
end Go.Proofs.Ytnjednndpphhlaa
