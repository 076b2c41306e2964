/- The bytes of a good parse are the only ones. -/
import Derived.Test.YtnjednndpphhlaaWi
namespace Go.Proofs.Ytnjednndpphhlaa

/- the number that a list of bytes says -/
def dl : List UInt8 → Nat
  | [] => 0
  | b :: l => b.toNat % 128 + 128 * dl l
def Canon : List UInt8 → Prop
  | [] => False
  | [b] => b.toNat < 128
  | b :: c :: l => 128 ≤ b.toNat ∧ Canon (c :: l) ∧ dl (c :: l) ≠ 0
theorem enc_dl : ∀ l, Canon l → enc (dl l) = l
  | [], h => absurd h (by simp [Canon])
  | [b], h => by
    have h' : b.toNat < 128 := h
    have e : dl [b] = b.toNat := by simp [dl]; omega
    rw [e, enc_small h']
    simp
  | b :: c :: l, ⟨h1, h2, h3⟩ => by
    have hb := UInt8.toNat_lt b
    have e : dl (b :: c :: l) = b.toNat % 128 + 128 * dl (c :: l) := rfl
    have ih := enc_dl (c :: l) h2
    have hbig : ¬ dl (b :: c :: l) < 128 := by rw [e]; omega
    have e1 : dl (b :: c :: l) / 128 = dl (c :: l) := by rw [e]; omega
    have e2 : 128 + dl (b :: c :: l) % 128 = b.toNat := by rw [e]; omega
    rw [enc_big hbig, e1, e2, ih]
    simp
/- the bytes from i on, m of them -/
def cut (s : ByteArray) (i : Nat) : Nat → List UInt8
  | 0 => []
  | m + 1 => UInt8.ofNat (byt s i) :: cut s (i + 1) m
theorem byt_nat (s : ByteArray) (i : Nat) : (UInt8.ofNat (byt s i)).toNat = byt s i := by
  have := byt_lt s i
  simp; omega
theorem dl_cut (s : ByteArray) (m : Nat) : ∀ i, val s (i + m) = val s i + 128 ^ i * dl (cut s i m) := by
  induction m with
  | zero => intro i; simp [cut, dl]
  | succ m ih =>
    intro i
    have h := ih (i + 1)
    rw [show i + (m + 1) = i + 1 + m by omega, h, val, cut, dl, byt_nat]
    have : 128 ^ (i + 1) = 128 ^ i * 128 := Nat.pow_succ ..
    rw [this, Nat.mul_add, Nat.mul_comm (byt s i % 128), Nat.mul_assoc, Nat.add_assoc]
theorem canon_cut (s : ByteArray) (m : Nat) : ∀ i, (∀ j, i ≤ j → j < i + m → 128 ≤ byt s j) → byt s (i + m) < 128 → (0 < m → byt s (i + m) ≠ 0) → Canon (cut s i (m + 1)) ∧ (byt s (i + m) ≠ 0 → dl (cut s i (m + 1)) ≠ 0) := by
  induction m with
  | zero =>
    intro i _ h2 _
    refine ⟨by show (UInt8.ofNat (byt s i)).toNat < 128; rw [byt_nat]; exact h2, fun h => ?_⟩
    simp only [Nat.add_zero] at h h2
    rw [cut, dl, byt_nat, cut, dl]; omega
  | succ m ih =>
    intro i h1 h2 h3
    have h := ih (i + 1) (fun j a b => h1 j (by omega) (by omega)) (by rw [show i + 1 + m = i + (m + 1) by omega]; exact h2) (fun _ => by rw [show i + 1 + m = i + (m + 1) by omega]; exact h3 (by omega))
    have hne := h.2 (by rw [show i + 1 + m = i + (m + 1) by omega]; exact h3 (by omega))
    refine ⟨⟨by rw [byt_nat]; exact h1 i (by omega) (by omega), h.1, hne⟩, fun _ => ?_⟩
    rw [cut, dl]
    omega
theorem cut_len (s : ByteArray) (m : Nat) : ∀ i, (cut s i m).length = m := by
  induction m with
  | zero => intro i; rfl
  | succ m ih => intro i; rw [cut, List.length_cons, ih]
theorem cut_get (s : ByteArray) (m : Nat) : ∀ i j (h : j < (cut s i m).length), (cut s i m)[j] = UInt8.ofNat (byt s (i + j)) := by
  induction m with
  | zero => intro i j h; exact absurd h (Nat.not_lt_zero j)
  | succ m ih =>
    intro i j h
    cases j with
    | zero => rfl
    | succ j =>
      have := ih (i + 1) j (by simpa [cut] using h)
      simp only [cut, List.getElem_cons_succ]
      rw [this, show i + 1 + j = i + (j + 1) by omega]
theorem cut_extract (s : ByteArray) (m : Nat) : ∀ i, i + m ≤ s.size → (⟨(cut s i m).toArray⟩ : ByteArray) = s.extract i (i + m) := by
  intro i h
  have hd : s.data.size = s.size := rfl
  apply ByteArray.ext
  rw [ByteArray.data_extract]
  apply Array.ext
  · simp [cut_len]; omega
  · intro j h1 h2
    have h3 : i + j < s.size := by simp [cut_len] at h1; omega
    have e := byt_at h3
    simp only [List.getElem_toArray, Array.getElem_extract]
    rw [cut_get, ← e]
    show UInt8.ofNat (s.data[i + j]).toNat = s.data[i + j]
    simp
theorem put_good {s : ByteArray} {n k : Nat} (h : Parse s n k 0) : put ⟨#[]⟩ n = s.extract 0 k := by
  cases h with
  | good i hm hk h9 hc hb hb' =>
    have hcan := canon_cut s i 0 (fun j _ hj => hm j (by omega)) (by simpa using hc) (fun h0 => by simp; intro e; exact hb ⟨h0, e⟩)
    have e : val s (i + 1) = dl (cut s 0 (i + 1)) := by
      have hv := dl_cut s (i + 1) 0
      rw [Nat.zero_add] at hv
      rw [hv]; show 0 + 128 ^ 0 * _ = _; simp
    rw [e, put, enc_dl _ hcan.1, cut_extract s (i + 1) 0 (by omega), Nat.zero_add]
    apply ByteArray.ext
    simp [ByteArray.data_append]
theorem zz_unzz {n : Nat} : zz (unzz n) = n := by
  unfold unzz zz
  split
  · rw [if_pos (by omega)]; omega
  · rw [if_neg (by omega)]; omega
theorem unzz_range {n : Nat} (h : n < 18446744073709551616) : -9223372036854775808 ≤ unzz n ∧ unzz n ≤ 9223372036854775807 := by
  unfold unzz; split <;> omega
end Go.Proofs.Ytnjednndpphhlaa
