/- Both readers read alike, kind by kind; a slice of reads. -/
import Derived.Test.YtnjednndpphhlaaWs
import Derived.Deep.Slices
import Derived.Deep.Strs
namespace Go.Proofs.Ytnjednndpphhlaa
open Go.ChangeShapes Go.WideShapes Go.ChangeAt Go.RowKit Go.Maps Go.WideMaps

theorem T_ext {S : ByteArray} {t k l : Nat} (h : t + k + l ≤ S.size) : (T S t).extract k (k + l) = S.extract (t + k) (t + k + l) := by
  unfold T
  rw [ByteArray.extract_extract]
  congr 1; omega
theorem T_rest {S : ByteArray} {t k : Nat} {c : Int} (ht : t + k ≤ S.size) (hk : c ≠ 0 → k = 0) : rest (T S t) k c = T S (t + k) := by
  unfold rest
  by_cases hc : c = 0
  · rw [if_pos hc]
    have e : (T S t).size = k + (S.size - (t + k)) := by rw [t_size (by omega)]; omega
    rw [e, T_ext (by omega)]
    unfold T; congr 1; omega
  · rw [if_neg hc, hk hc]; rfl
theorem Parse.zero {s : ByteArray} {n k : Nat} {c : Int} (h : Parse s n k c) (hc : c ≠ 0) : k = 0 := by
  cases h with
  | ends => rfl
  | long => rfl
  | bad => rfl
  | good => exact absurd rfl hc
/- what a call of the reader and a call of the reference's do: the value v, and the state that is left -/
def Both (S : ByteArray) (t : Nat) (e : Int) (f g : Nat) (more : List Value) (v : Value) (t' : Nat) (e' : Int) : Prop :=
  t' ≤ S.size ∧
  (∀ (w : World) (rb : Nat), RdAt w rb (T S t) e → Calls Try.prog f (Value.pointer (some ⟨rb, 0, none⟩) :: more).toArray w fun en w' => en = .returned v ∧ RdAt w' rb (T S t') e' ∧ Below rb w w' ∧ ∀ j, j < w.heap.size → j ≠ rb → w'.heap[j]? = w.heap[j]?) ∧
  (∀ W : World, Calls Try.prog g (rv S t e :: more).toArray W fun en w' => en = .returned (.tuple #[rv S t' e', v]) ∧ Below W.heap.size W w')
theorem size_T {S : ByteArray} {t : Nat} (hs : S.size ≤ 2000) : (T S t).size ≤ 1000000 := by
  unfold T; rw [ByteArray.size_extract]; omega
theorem far {w w' : World} {rb : Nat} (hb : rb < w.heap.size) (b : Below w.heap.size w w') : Below rb w w' ∧ ∀ j, j < w.heap.size → j ≠ rb → w'.heap[j]? = w.heap[j]? :=
  ⟨b.mono (by omega), fun j hj _ => b.block j hj⟩
theorem both_uint {S : ByteArray} {t : Nat} {e : Int} (ht : t ≤ S.size) (hs : S.size ≤ 2000) : ∃ (n t' : Nat) (e' : Int), n < 18446744073709551616 ∧ Both S t e 17 16 [] (.int .u64 n) t' e' := by
  by_cases he : e = 0
  · subst he
    obtain ⟨n, k, c, hp⟩ := Parse.exists (T S t)
    have hk : t + k ≤ S.size := by have := hp.used.1; rw [t_size ht] at this; omega
    refine ⟨n, t + k, c, hp.used.2, hk, fun w rb h => ?_, fun W => runi_ok ht hs hp W⟩
    refine (uint_any (size_T hs) hp h).mono ?_
    rintro en w' ⟨rfl, h1, h2, h3⟩
    rw [T_rest hk hp.zero] at h1
    exact ⟨rfl, h1, h2, h3⟩
  · refine ⟨0, t, e, by decide, ht, fun w rb h => ?_, fun W => runi_err S t e he W⟩
    have hb := h.lt
    refine (uint_err he h).mono ?_
    rintro en w' ⟨rfl, h1, h2⟩
    exact ⟨rfl, h1, far hb h2⟩
theorem both_int {S : ByteArray} {t : Nat} {e : Int} (ht : t ≤ S.size) (hs : S.size ≤ 2000) : ∃ (i : Int) (t' : Nat) (e' : Int), Both S t e 19 18 [] (.int .i64 i) t' e' := by
  obtain ⟨n, t', e', hn, h1, h2, h3⟩ := both_uint (e := e) ht hs
  refine ⟨unzz n, t', e', h1, fun w rb h => ?_, fun W => rint_of rfl hn h3 W⟩
  exact int_of hn (h2 w rb h)
theorem both_count {S : ByteArray} {t : Nat} {e most : Int} (ht : t ≤ S.size) (hs : S.size ≤ 2000) (h0 : -9223372036854775808 ≤ most) (h1 : most ≤ 9223372036854775807) : ∃ (i : Int) (t' : Nat) (e' : Int), Both S t e 21 20 [.int .i64 most] (.int .i64 i) t' e' := by
  by_cases he : e = 0
  · subst he
    obtain ⟨n, k, c, hp⟩ := Parse.exists (T S t)
    have hk : t + cntK n k c most ≤ S.size := by have := cnt_used (most := most) hp; rw [t_size ht] at this; omega
    refine ⟨cntN n c most, t + cntK n k c most, cntE n c most, hk, fun w rb h => ?_, fun W => rcount_ok ht hs h0 h1 hp W⟩
    refine (count_any (size_T hs) hp h0 h1 h).mono ?_
    rintro en w' ⟨rfl, h1, h2, h3⟩
    rw [T_rest hk ?_] at h1
    · exact ⟨rfl, h1, h2, h3⟩
    · intro hc
      unfold cntK; rw [if_neg]
      rintro ⟨rfl, hm⟩
      exact hc (by unfold cntE; rw [if_pos rfl, if_pos hm])
  · refine ⟨0, t, e, ht, fun w rb h => ?_, fun W => rcount_err S t e most he W⟩
    have hb := h.lt
    refine (count_err he h).mono ?_
    rintro en w' ⟨rfl, h1, h2⟩
    exact ⟨rfl, h1, far hb h2⟩
theorem both_text {S : ByteArray} {t : Nat} {e most : Int} (ht : t ≤ S.size) (hs : S.size ≤ 2000) (h0 : -9223372036854775808 ≤ most) (h1 : most ≤ 9223372036854775807) : ∃ (s : ByteArray) (t' : Nat) (e' : Int), Both S t e 23 22 [.int .i64 most] (.string s) t' e' := by
  by_cases he : e = 0
  · subst he
    obtain ⟨n', k', c', hp⟩ := Parse.exists (T S t)
    obtain ⟨n, hN⟩ : ∃ n, cntN n' c' most = n := ⟨_, rfl⟩
    obtain ⟨k, hK⟩ : ∃ k, cntK n' k' c' most = k := ⟨_, rfl⟩
    obtain ⟨c, hE⟩ : ∃ c, cntE n' c' most = c := ⟨_, rfl⟩
    have hk : t + k ≤ S.size := by have := cnt_used (most := most) hp; rw [hK, t_size ht] at this; omega
    have cz : c ≠ 0 → k = 0 := fun hc => by
      rw [← hK]; unfold cntK; rw [if_neg]
      rintro ⟨rfl, hm⟩
      exact hc (by rw [← hE]; unfold cntE; rw [if_pos rfl, if_pos hm])
    have RC := fun W => rcount_ok (most := most) ht hs h0 h1 hp W
    rw [hN, hK, hE] at RC
    have hsz := t_size ht
    by_cases fz : Fits (T S t) n k c
    · obtain ⟨rfl, hf⟩ := fz
      have fz : Fits (T S t) n k 0 := ⟨rfl, hf⟩
      rw [hsz] at hf
      refine ⟨S.extract (t + k) (t + k + n), t + k + n, 0, by omega, fun w rb h => ?_, fun W => rtext_fit hs (by omega) RC W⟩
      refine (text_any (size_T hs) hp h0 h1 hN hK hE h).mono ?_
      rintro en w' ⟨rfl, g1, g2, g3⟩
      have e1 : txtS (T S t) n k 0 = S.extract (t + k) (t + k + n) := by unfold txtS; rw [if_pos fz, T_ext (by omega)]
      have e2 : txtE (T S t) n k 0 = 0 := by unfold txtE; rw [if_pos fz]
      have e3 : txtK (T S t) n k 0 = k + n := by unfold txtK; rw [if_pos fz]
      rw [e2, e3, T_rest (by omega) (fun h => absurd rfl h), ← Nat.add_assoc] at g1
      rw [e1]
      exact ⟨rfl, g1, g2, g3⟩
    · have e1 : txtS (T S t) n k c = ⟨#[]⟩ := by unfold txtS; rw [if_neg fz]
      have e3 : txtK (T S t) n k c = 0 := by unfold txtK; rw [if_neg fz]
      by_cases hc : c = 0
      · subst hc
        have hf : S.size - (t + k) < n := by
          have : ¬ (k + n ≤ (T S t).size) := fun h => fz ⟨rfl, h⟩
          rw [hsz] at this; omega
        have e2 : txtE (T S t) n k 0 = 3 := by unfold txtE; rw [if_neg fz, if_pos rfl]
        refine ⟨⟨#[]⟩, t, 3, ht, fun w rb h => ?_, fun W => rtext_short hk hs hf RC W⟩
        refine (text_any (size_T hs) hp h0 h1 hN hK hE h).mono ?_
        rintro en w' ⟨rfl, g1, g2, g3⟩
        rw [e2, e3, T_rest (by omega) (fun _ => rfl)] at g1
        rw [e1]
        exact ⟨rfl, g1, g2, g3⟩
      · have e2 : txtE (T S t) n k c = c := by unfold txtE; rw [if_neg fz, if_neg hc]
        have k0 := cz hc
        subst k0
        refine ⟨⟨#[]⟩, t, c, ht, fun w rb h => ?_, fun W => rtext_e hc RC W⟩
        refine (text_any (size_T hs) hp h0 h1 hN hK hE h).mono ?_
        rintro en w' ⟨rfl, g1, g2, g3⟩
        rw [e2, e3, T_rest (by omega) (fun _ => rfl)] at g1
        rw [e1]
        exact ⟨rfl, g1, g2, g3⟩
  · have RC := fun W => rcount_err S t e most he W
    refine ⟨⟨#[]⟩, t, e, ht, fun w rb h => ?_, fun W => rtext_e he RC W⟩
    have hb := h.lt
    refine (text_err he h).mono ?_
    rintro en w' ⟨rfl, h1, h2⟩
    exact ⟨rfl, h1, far hb h2⟩
structure OpZ where
  kind : Int
  most : Int
instance : Inhabited OpZ := ⟨⟨0, 0⟩⟩
def OpsAt (w : World) (v : Value) (n : Nat) (g : Nat → OpZ) : Prop :=
  ∃ (a : Option Addr) (cap : Nat), v = .slice a n cap ∧ n ≤ maxLen ∧ (∀ j, j < n → 0 ≤ (g j).kind ∧ (g j).kind ≤ 255 ∧ (-9223372036854775808 ≤ (g j).most ∧ (g j).most ≤ 9223372036854775807)) ∧
    (n = 0 ∨ ∃ b off, a = some ⟨b, off, none⟩ ∧ b < w.heap.size ∧ ∀ j, j < n → w.cell? ⟨b, off + j * 2, none⟩ = some (.int .u8 (g j).kind) ∧ w.cell? ⟨b, off + j * 2 + 1, none⟩ = some (.int .i64 (g j).most))
theorem Try.cells35 : Try.prog.cellsOf 35 = 2 := by kernel_rfl
theorem wireReads_open1 {H : Type} {enc : TypeId × Value → H} {W : World} {base b0 : Nat} {spare : Nat → Bool} {held : Bool} {r : Reach} {v : Value} {d : DataW H} {p : List MemPlace}
    (hv : Value.okWide Try.prog W r b0 28 v) (h : DataW.Trod enc Try.prog W base spare held 28 v d p) : ∃ n g, OpsAt W v n g := by
  obtain ⟨a0, len0, cap0, rfl⟩ := okWide_slice Try.underlying28 hv
  obtain ⟨fuel, hf⟩ := h
  rcases Deep.open_slice Try.underlying28 hf with ⟨hcs, _⟩ | ⟨a, len, cap, m, n', D, Pl, hcs, _, hl, hm, hmm, _, hi⟩
  · simp [Value.cells] at hcs
    obtain ⟨rfl, rfl, rfl⟩ := hcs
    exact ⟨0, fun _ => default, none, 0, rfl, by decide, (fun j h => absurd h (Nat.not_lt_zero j)), Or.inl rfl⟩
  · simp [Value.cells] at hcs
    obtain ⟨rfl, rfl, rfl⟩ := hcs
    have hlm : len0 ≤ m := by rw [hmm]; split <;> omega
    have key : ∀ j, j < len0 → ∃ z : OpZ, (0 ≤ z.kind ∧ z.kind ≤ 255 ∧ (-9223372036854775808 ≤ z.most ∧ z.most ≤ 9223372036854775807)) ∧ W.cell? (a.add (j * 2)) = some (.int .u8 z.kind) ∧ W.cell? (a.add (j * 2 + 1)) = some (.int .i64 z.most) := by
      intro j hj
      obtain ⟨cs', hc, ht⟩ := hi j (by omega)
      rw [Try.cells35] at hc
      obtain ⟨_, hcl, hat⟩ := World.cells?_some hc
      obtain ⟨z0, z1, n2, _, _, t0, t1⟩ := trod_struct2 Try.underlying35 ht
      obtain ⟨x, ex, _, wx⟩ := DataW.trod_int Try.underlying5 t0
      obtain ⟨u, eu, _, wu⟩ := DataW.trod_int Try.underlying3 t1
      rw [Try.cells5] at ex
      rw [Try.cells3] at eu
      match cs', hcl with
      | [q0, q1], _ =>
        simp at ex eu
        subst ex eu
        have hb := bounds_u8 wx
        have hu := bounds_i64 wu
        refine ⟨⟨x, u⟩, ⟨by show 0 ≤ x; omega, by show x ≤ 255; omega, hu⟩, ?_, ?_⟩
        · have := hat 0 (by omega); simpa [Addr.add] using this
        · have := hat 1 (by omega); rw [Deep.add_add] at this; simpa using this
    obtain ⟨g, hg⟩ := Deep.choose_lt key
    refine ⟨len0, g, some a, cap0, rfl, by omega, fun j hj => (hg j hj).1, ?_⟩
    by_cases hz : len0 = 0
    · exact Or.inl hz
    · right
      obtain ⟨b, off, spot⟩ := a
      have c0 := (hg 0 (by omega)).2.1
      have hspot : spot = none := by simpa [Addr.add] using World.cell?_spot c0
      subst hspot
      refine ⟨b, off, rfl, ?_, fun j hj => ?_⟩
      · rw [Addr.add_lit] at c0
        by_cases hb : b < W.heap.size
        · exact hb
        · exfalso
          unfold World.cell? at c0
          simp [Array.getElem?_eq_none (Nat.le_of_not_lt hb)] at c0
      · obtain ⟨_, h1, h2⟩ := hg j hj
        rw [Addr.add_lit] at h1 h2
        exact ⟨h1, h2⟩
end Go.Proofs.Ytnjednndpphhlaa
