/- Reader's methods, for every string. -/
import Derived.Test.YtnjednndpphhlaaWf
namespace Go.Proofs.Ytnjednndpphhlaa
open Go.ChangeShapes Go.WideShapes Go.ChangeAt Go.RowKit Go.Maps Go.WideMaps

theorem Parse.used {s : ByteArray} {n k : Nat} {c : Int} (h : Parse s n k c) : k ≤ s.size ∧ n < 18446744073709551616 := by
  cases h with
  | ends => exact ⟨Nat.zero_le _, by decide⟩
  | long => exact ⟨Nat.zero_le _, by decide⟩
  | bad => exact ⟨Nat.zero_le _, by decide⟩
  | good i hm hk h9 hc hb hb' =>
    refine ⟨hk, ?_⟩
    rw [val, Nat.mod_eq_of_lt hc]
    have h1 := val_lt s i
    by_cases e : i = 9
    · subst e
      have : byt s 9 ≤ 1 := by omega
      have h2 := Nat.mul_le_mul_right (128 ^ 9) this
      omega
    · have h2 := pow_le8 (i := i) (x := byt s i) (by omega) hc
      rw [Nat.add_mul, Nat.one_mul] at h2
      omega
theorem Parse.unique {s : ByteArray} {n k n' k' : Nat} {c c' : Int} (h : Parse s n k c) (h' : Parse s n' k' c') : n = n' ∧ k = k' ∧ c = c' := by
  have key : ∀ i j : Nat, More s i → More s j → byt s i < 128 → byt s j < 128 → i = j := fun i j hi hj ci cj => by
    rcases Nat.lt_trichotomy i j with e | e | e
    · have := hj i e; omega
    · exact e
    · have := hi j e; omega
  cases h with
  | ends m l =>
    cases h' with
    | ends => exact ⟨rfl, rfl, rfl⟩
    | long m' l' => omega
    | bad i m' l' h9 hc hb => have := m i l'; omega
    | good i m' l' h9 hc hb hb' => have := m i l'; omega
  | long m l =>
    cases h' with
    | ends m' l' => omega
    | long => exact ⟨rfl, rfl, rfl⟩
    | bad i m' l' h9 hc hb => have := m i h9; omega
    | good i m' l' h9 hc hb hb' => have := m i h9; omega
  | bad i m l h9 hc hb =>
    cases h' with
    | ends m' l' => have := m' i l; omega
    | long m' l' => have := m' i h9; omega
    | bad => exact ⟨rfl, rfl, rfl⟩
    | good j m' l' h9' hc' hb1 hb2 =>
      have e := key i j m m' hc hc'
      subst e
      rcases hb with h | h
      · exact absurd h hb1
      · exact absurd h hb2
  | good i m l h9 hc hb1 hb2 =>
    cases h' with
    | ends m' l' => have := m' i l; omega
    | long m' l' => have := m' i h9; omega
    | bad j m' l' h9' hc' hb =>
      have e := key i j m m' hc hc'
      subst e
      rcases hb with h | h
      · exact absurd h hb1
      · exact absurd h hb2
    | good j m' l' h9' hc' hb3 hb4 =>
      have e := key i j m m' hc hc'
      subst e
      exact ⟨rfl, rfl, rfl⟩
/- some parse there always is -/
theorem Parse.exists (s : ByteArray) : ∃ n k c, Parse s n k c := by
  have step : ∀ d i, d + i = 10 → i ≤ s.size → More s i → ∃ n k c, Parse s n k c := by
    intro d
    induction d with
    | zero => intro i e hi hm; exact ⟨0, 0, 4, .long (by rw [Nat.zero_add] at e; rw [← e]; exact hm) (by omega)⟩
    | succ d ih =>
      intro i e hi hm
      by_cases hl : i < s.size
      · by_cases hc : 128 ≤ byt s i
        · exact ih (i + 1) (by omega) (by omega) (hm.succ hc)
        · by_cases h1 : 0 < i ∧ byt s i = 0
          · exact ⟨0, 0, 4, .bad i hm hl (by omega) (by omega) (Or.inl h1)⟩
          · by_cases h2 : i = 9 ∧ 1 < byt s i
            · exact ⟨0, 0, 4, .bad i hm hl (by omega) (by omega) (Or.inr h2)⟩
            · exact ⟨_, _, _, .good i hm hl (by omega) (by omega) h1 h2⟩
      · have e2 : i = s.size := by omega
        exact ⟨0, 0, 3, .ends (by rw [← e2]; exact hm) (by omega)⟩
  exact step 10 0 rfl (Nat.zero_le _) (fun j h => absurd h (Nat.not_lt_zero j))
/- the closure of Uint -/
theorem clo_uint {w : World} {nb : Nat} {s : ByteArray} {n k : Nat} {c : Int} {v : Value} (hs : s.size ≤ 1000000) (hp : Parse s n k c) (h : Num1 w nb 22 v) : Calls Try.prog 32 #[.string s, .pointer (some ⟨nb, 0, none⟩)] w fun en w' => en = .returned (.tuple #[.int .i64 k, .int .i64 c]) ∧ After nb w w' ∧ Num1 w' nb 22 (.int .u64 n) := by
  have c0 := h.cell
  have f0 := h.fr
  have H := Lib.hid h; have HP := Lib.hid hp; have HS := Lib.hid hs
  clear h hp hs
  go_enter Try.func32, Try.ntmps32
  go_wp2_with fail
  refine (parse_any s _ HS.out).mono ?_; rintro e w1 ⟨n', k', c', hp', rfl, rfl⟩
  obtain ⟨rfl, rfl, rfl⟩ := hp'.unique HP.out
  clear hp'
  go_wp2
  go_ret2
  exact ⟨rfl, After.set _ _ _ _, H.out.set⟩
theorem uint_any {w : World} {rb : Nat} {s : ByteArray} {n k : Nat} {c : Int} (hs : s.size ≤ 1000000) (hp : Parse s n k c) (h : RdAt w rb s 0) : Calls Try.prog 17 #[.pointer (some ⟨rb, 0, none⟩)] w fun en w' => en = .returned (.int .u64 n) ∧ RdAt w' rb (rest s k c) c ∧ Below rb w w' ∧ ∀ j, j < w.heap.size → j ≠ rb → w'.heap[j]? = w.heap[j]? := by
  have hrb := h.lt
  have n1 := Num1.new w 22 (Value.int IntKind.u64 0)
  have b1 := below_alloc w (Obj.cells #[Value.int IntKind.u64 0] 22)
  have z1 : (w.alloc (Obj.cells #[Value.int IntKind.u64 0] 22)).heap.size = w.heap.size + 1 := World.size_alloc ..
  have CO := Lib.hid (rd_32 (p1 := .pointer (some ⟨w.heap.size, 0, none⟩)) (v' := .int .u64 n) (t := 22) (k := k) (c := c) (h.below b1 hrb) (nb := w.heap.size) (by omega) (by omega) (fun _ => hp.used.1)
    (fun W hW => clo_uint hs hp (n1.below hW (by omega))))
  have B1 := Lib.hid b1
  clear h b1 n1 hp hs z1
  go_enter Try.func17, Try.ntmps17
  go_wp2_with fail
  refine CO.out.mono ?_; rintro e w1 ⟨rfl, r2, n2, b2, k2⟩
  have c := n2.cell
  have R2 := Lib.hid r2; have B2 := Lib.hid (b2 rb (Nat.le_refl _) (by omega))
  have K2 : Hid (∀ j, j < w.heap.size → j ≠ rb → w1.heap[j]? = w.heap[j]?) := fun j h1 h2 => by
    rw [k2 j (by rw [World.size_alloc]; omega) h2 (by omega), B1.out.block j h1]
  clear r2 n2 b2 k2
  go_wp2
  go_ret
  exact ⟨rfl, R2.out, (B1.out.mono (by omega)).trans B2.out, K2.out⟩
theorem uint_err {w : World} {rb : Nat} {s : ByteArray} {e : Int} (he : e ≠ 0) (h : RdAt w rb s e) : Calls Try.prog 17 #[.pointer (some ⟨rb, 0, none⟩)] w fun en w' => en = .returned (.int .u64 0) ∧ RdAt w' rb s e ∧ Below w.heap.size w w' := by
  have hrb := h.lt
  have n1 := Num1.new w 22 (Value.int IntKind.u64 0)
  have b1 := below_alloc w (Obj.cells #[Value.int IntKind.u64 0] 22)
  have z1 : (w.alloc (Obj.cells #[Value.int IntKind.u64 0] 22)).heap.size = w.heap.size + 1 := World.size_alloc ..
  have H1 := Lib.hid (h.below b1 hrb); have B1 := Lib.hid b1; have N1 := Lib.hid n1; have Z1 := Lib.hid z1; have HE := Lib.hid he
  clear h b1 n1 z1 he
  go_enter Try.func17, Try.ntmps17
  go_wp2_with fail
  refine (rd_err _ H1.out HE.out).mono ?_; rintro e w1 ⟨rfl, b2⟩
  have c := (N1.out.below b2 N1.out.lt).cell
  have R2 := Lib.hid (H1.out.below b2 H1.out.lt); have B2 := Lib.hid (B1.out.trans (b2.mono (by have := Z1.out; omega)))
  clear b2
  go_wp2
  go_ret
  exact ⟨rfl, R2.out, B2.out⟩
end Go.Proofs.Ytnjednndpphhlaa
