/- A slice of values to write; what WireRoundTrip writes. -/
import Derived.Test.YtnjednndpphhlaaWl
import Derived.Deep.Slices
import Derived.Deep.Strs
namespace Go.Proofs.Ytnjednndpphhlaa
open Go.ChangeShapes Go.WideShapes Go.ChangeAt Go.RowKit Go.Maps Go.WideMaps

structure ValZ where
  kind : Int
  n : Int
  s : ByteArray
instance : Inhabited ValZ := ⟨⟨0, 0, ByteArray.empty⟩⟩
def ValsAt (w : World) (v : Value) (n : Nat) (g : Nat → ValZ) : Prop :=
  ∃ (a : Option Addr) (cap : Nat), v = .slice a n cap ∧ n ≤ maxLen ∧ (∀ j, j < n → 0 ≤ (g j).kind ∧ (g j).kind ≤ 255 ∧ (-9223372036854775808 ≤ (g j).n ∧ (g j).n ≤ 9223372036854775807) ∧ (g j).s.size ≤ maxLen) ∧
    (n = 0 ∨ ∃ b off, a = some ⟨b, off, none⟩ ∧ b < w.heap.size ∧ ∀ j, j < n → w.cell? ⟨b, off + j * 3, none⟩ = some (.int .u8 (g j).kind) ∧ w.cell? ⟨b, off + j * 3 + 1, none⟩ = some (.int .i64 (g j).n) ∧ w.cell? ⟨b, off + j * 3 + 2, none⟩ = some (.string (g j).s))
theorem Try.cells53 : Try.prog.cellsOf 53 = 3 := by kernel_rfl
theorem Try.cells5 : Try.prog.cellsOf 5 = 1 := by kernel_rfl
theorem Try.cells3 : Try.prog.cellsOf 3 = 1 := by kernel_rfl
theorem Try.cells9 : Try.prog.cellsOf 9 = 1 := by kernel_rfl
theorem vals_open {H : Type} {enc : TypeId × Value → H} {W : World} {base b0 : Nat} {spare : Nat → Bool} {held : Bool} {r : Reach} {v : Value} {d : DataW H} {p : List MemPlace}
    (hv : Value.okWide Try.prog W r b0 51 v) (h : DataW.Trod enc Try.prog W base spare held 51 v d p) : ∃ n g, ValsAt W v n g := by
  obtain ⟨a0, len0, cap0, rfl⟩ := okWide_slice Try.underlying51 hv
  obtain ⟨fuel, hf⟩ := h
  rcases Deep.open_slice Try.underlying51 hf with ⟨hcs, _⟩ | ⟨a, len, cap, m, n', D, Pl, hcs, _, hl, hm, hmm, _, hi⟩
  · simp [Value.cells] at hcs
    obtain ⟨rfl, rfl, rfl⟩ := hcs
    exact ⟨0, fun _ => default, none, 0, rfl, by decide, (fun j h => absurd h (Nat.not_lt_zero j)), Or.inl rfl⟩
  · simp [Value.cells] at hcs
    obtain ⟨rfl, rfl, rfl⟩ := hcs
    have hlm : len0 ≤ m := by rw [hmm]; split <;> omega
    have key : ∀ j, j < len0 → ∃ z : ValZ, (0 ≤ z.kind ∧ z.kind ≤ 255 ∧ (-9223372036854775808 ≤ z.n ∧ z.n ≤ 9223372036854775807) ∧ z.s.size ≤ maxLen) ∧ W.cell? (a.add (j * 3)) = some (.int .u8 z.kind) ∧ W.cell? (a.add (j * 3 + 1)) = some (.int .i64 z.n) ∧ W.cell? (a.add (j * 3 + 2)) = some (.string z.s) := by
      intro j hj
      obtain ⟨cs', hc, ht⟩ := hi j (by omega)
      rw [Try.cells53] at hc
      obtain ⟨_, hcl, hat⟩ := World.cells?_some hc
      obtain ⟨z0, z1, z2, n2, _, _, t0, t1, t2⟩ := Deep.trod_struct3 Try.underlying53 ht
      obtain ⟨x, ex, _, wx⟩ := DataW.trod_int Try.underlying5 t0
      obtain ⟨u, eu, _, wu⟩ := DataW.trod_int Try.underlying3 t1
      obtain ⟨y, ey, _, wy⟩ := DataW.trod_string Try.underlying9 t2
      rw [Try.cells5] at ex
      rw [Try.cells3] at eu
      rw [Try.cells9] at ey
      match cs', hcl with
      | [q0, q1, q2], _ =>
        simp at ex ey eu
        subst ex ey eu
        have hb := bounds_u8 wx
        have hu := bounds_i64 wu
        refine ⟨⟨x, u, y⟩, ⟨by show 0 ≤ x; omega, by show x ≤ 255; omega, hu, wy⟩, ?_, ?_, ?_⟩
        · have := hat 0 (by omega); simpa [Addr.add] using this
        · have := hat 1 (by omega); rw [Deep.add_add] at this; simpa using this
        · have := hat 2 (by omega); rw [Deep.add_add] at this; simpa using this
    obtain ⟨g, hg⟩ := Deep.choose_lt key
    refine ⟨len0, g, some a, cap0, rfl, by omega, fun j hj => (hg j hj).1, ?_⟩
    by_cases hz : len0 = 0
    · exact Or.inl hz
    · right
      obtain ⟨b, off, spot⟩ := a
      have c0 := (hg 0 (by omega)).2.1
      have hspot : spot = none := by simpa [Addr.add] using World.cell?_spot c0
      subst hspot
      refine ⟨b, off, rfl, ?_, fun j hj => ?_⟩
      · rw [Addr.add_lit] at c0
        by_cases hb : b < W.heap.size
        · exact hb
        · exfalso
          unfold World.cell? at c0
          simp [Array.getElem?_eq_none (Nat.le_of_not_lt hb)] at c0
      · obtain ⟨_, h1, h2, h3⟩ := hg j hj
        rw [Addr.add_lit] at h1 h2 h3
        exact ⟨h1, h2, h3⟩
theorem wireRoundTrip_open0 {H : Type} {enc : TypeId × Value → H} {W : World} {base b0 : Nat} {spare : Nat → Bool} {held : Bool} {r : Reach} {v : Value} {d : DataW H} {p : List MemPlace}
    (hv : Value.okWide Try.prog W r b0 51 v) (h : DataW.Trod enc Try.prog W base spare held 51 v d p) : ∃ n g, ValsAt W v n g := vals_open hv h
/- the number that is written for an integer taken as unsigned -/
def u64 (i : Int) : Nat := (i % 18446744073709551616).toNat
def bytes (n : Nat) : ByteArray := ⟨(enc n).toArray⟩
def item (z : ValZ) : ByteArray := if z.kind % 3 = 0 then bytes (u64 z.n) else if z.kind % 3 = 1 then bytes (zz z.n) else bytes z.s.size ++ z.s
def allOf (g : Nat → ValZ) : Nat → ByteArray
  | 0 => ⟨#[]⟩
  | i + 1 => allOf g i ++ item (g i)
def tailOf (g : Nat → ValZ) (i : Nat) : Nat → ByteArray
  | 0 => ⟨#[]⟩
  | m + 1 => item (g i) ++ tailOf g (i + 1) m
theorem ba_assoc (a b c : ByteArray) : a ++ b ++ c = a ++ (b ++ c) := by apply ByteArray.ext; simp [ByteArray.data_append]
theorem ba_nil (a : ByteArray) : a ++ ⟨#[]⟩ = a := by apply ByteArray.ext; simp [ByteArray.data_append]
theorem nil_ba (a : ByteArray) : ⟨#[]⟩ ++ a = a := by apply ByteArray.ext; simp [ByteArray.data_append]
theorem all_tail (g : Nat → ValZ) (m : Nat) : ∀ i, allOf g (i + m) = allOf g i ++ tailOf g i m := by
  induction m with
  | zero => intro i; rw [tailOf, ba_nil]; rfl
  | succ m ih =>
    intro i
    rw [show i + (m + 1) = i + 1 + m by omega, ih (i + 1), allOf, tailOf, ba_assoc]
theorem all_zero (g : Nat → ValZ) (n : Nat) : allOf g n = tailOf g 0 n := by
  have := all_tail g n 0
  rw [Nat.zero_add, allOf, nil_ba] at this
  exact this
theorem u64_lt (i : Int) : u64 i < 18446744073709551616 := by unfold u64; omega
theorem item_size {z : ValZ} (h0 : -9223372036854775808 ≤ z.n) (h1 : z.n ≤ 9223372036854775807) (hs : z.s.size ≤ 200) : (item z).size ≤ 210 := by
  have b1 := enc_ten (u64_lt z.n)
  have b2 := enc_ten (zz_lt h0 h1)
  have b3 := enc_ten (n := z.s.size) (by omega)
  unfold item
  split
  · show (enc _).length ≤ 210; omega
  · split
    · show (enc _).length ≤ 210; omega
    · rw [ByteArray.size_append]; show (enc _).length + z.s.size ≤ 210; omega
end Go.Proofs.Ytnjednndpphhlaa
