/- tags: Get, the program's and the reference's. -/
import Derived.Test.YtgfhanhonfpngaaDoorTc
namespace Go.Proofs.YtgfhanhonfpngaaDoor
open Go.ChangeShapes Go.WideShapes Go.ChangeAt Go.RowKit Go.Joins Go.Deep

open Go.Proofs.TagM Go.Shelf

/- the value of the first tag with a key -/
def gt : List Tg → ByteArray → ByteArray × Bool
  | [], _ => (⟨#[]⟩, false)
  | t :: l, k => if t.1 = k then (t.2, true) else gt l k
theorem gt_miss : ∀ {l : List Tg} {k : ByteArray}, (∀ t ∈ l, t.1 ≠ k) → gt l k = (⟨#[]⟩, false)
  | [], _, _ => rfl
  | t :: l, k, h => by
    rw [gt, if_neg (h t (List.mem_cons_self ..)), gt_miss fun u hu => h u (List.mem_cons_of_mem _ hu)]
theorem gt_hit : ∀ {l : List Tg} {k : ByteArray} {i : Nat}, i < l.length → (l.getD i default).1 = k → (∀ j, j < i → (l.getD j default).1 ≠ k) → gt l k = ((l.getD i default).2, true)
  | t :: l, k, 0, _, h, _ => by rw [gt, if_pos (by simpa using h)]; rfl
  | t :: l, k, i + 1, hi, h, hj => by
    rw [gt, if_neg (by have := hj 0 (by omega); simpa using this), gt_hit (l := l) (i := i) (by simpa using hi) (by simpa using h) (fun j hlt => by have := hj (j + 1) (by omega); simpa using this)]
    simp
theorem mem_of_getD {l : List Tg} {t : Tg} (h : t ∈ l) : ∃ i, i < l.length ∧ l.getD i default = t := by
  obtain ⟨i, hi, e⟩ := List.getElem_of_mem h
  exact ⟨i, hi, by rw [List.getD, List.getElem?_eq_getElem hi]; exact e⟩
theorem getD_mem {l : List Tg} {i : Nat} (h : i < l.length) : l.getD i default ∈ l := by
  rw [List.getD, List.getElem?_eq_getElem h]; exact List.getElem_mem h
theorem fnd_cases (l : List Tg) (k : ByteArray) : (fnd l k = -1 ∧ ∀ t ∈ l, t.1 ≠ k) ∨ ∃ i : Nat, i < l.length ∧ fnd l k = (i : Int) ∧ (l.getD i default).1 = k ∧ ∀ j, j < i → (l.getD j default).1 ≠ k := by
  by_cases h : ∃ i, i < l.length ∧ (l.getD i default).1 = k
  · right
    have key : ∀ n, (∃ i, i < n ∧ i < l.length ∧ (l.getD i default).1 = k) → ∃ i, i < l.length ∧ (l.getD i default).1 = k ∧ ∀ j, j < i → (l.getD j default).1 ≠ k := by
      intro n
      induction n with
      | zero => rintro ⟨i, h, _⟩; omega
      | succ n ih =>
        intro hx
        by_cases hs : ∃ i, i < n ∧ i < l.length ∧ (l.getD i default).1 = k
        · exact ih hs
        · obtain ⟨i, h1, h2, h3⟩ := hx
          refine ⟨i, h2, h3, fun j hj e => hs ⟨j, by omega, by omega, e⟩⟩
    obtain ⟨i, h1, h2⟩ := h
    obtain ⟨i, h1, h2, h3⟩ := key (i + 1) ⟨i, by omega, h1, h2⟩
    refine ⟨i, h1, ?_, h2, h3⟩
    have := Lib.idxBy_hit (fun (_ : Tg) y => decide (y.1 = k)) l l.length i default h1 (Nat.le_refl _) (by rw [getD_eq h1]; simpa using h2) (fun j hj => by rw [getD_eq (by omega)]; simpa using h3 j hj)
    rw [List.take_length] at this
    exact this
  · left
    have hn : ∀ t ∈ l, t.1 ≠ k := fun t ht e => by
      obtain ⟨i, h1, h2⟩ := mem_of_getD ht
      exact h ⟨i, h1, by rw [h2]; exact e⟩
    refine ⟨?_, hn⟩
    have := Lib.idxBy_miss (zs := l) (fun (_ : Tg) y => decide (y.1 = k)) l.length default (fun j hj => by rw [getD_eq hj]; simpa using hn _ (getD_mem hj))
    rw [List.take_length] at this
    exact this
set_option maxHeartbeats 2000000 in
theorem get_any {w : World} {v : Value} {l : List Tg} (key : ByteArray) (h : TagsAt w v l) (hl : l.length ≤ 1000000) : Calls Tryd.prog 25 #[v, .string key] w fun e w' => e = .returned (.tuple #[.string (gt l key).1, .bool (gt l key).2]) ∧ Below w.heap.size w w' := by
  have HF := Lib.hid (find_any key h hl)
  have A0 := Lib.hid h
  obtain ⟨a, cap, rfl, _⟩ := h
  obtain ⟨n, hn⟩ : ∃ n, l.length = n := ⟨_, rfl⟩
  have HN := Lib.hid hn
  rw [hn] at HF A0 hl ⊢
  rcases fnd_cases l key with ⟨h1, h2⟩ | ⟨i, h1, h2, h3, h4⟩
  · rw [h1] at HF
    rw [gt_miss h2]
    clear h1 h2 hn
    go_enter Tryd.func25, Tryd.ntmps25
    go_wp2_with fail
    refine HF.out.mono ?_; rintro e w2 ⟨rfl, b⟩
    go_wp2_with fail
    go_ret2
    exact ⟨rfl, b⟩
  · rw [h2] at HF
    rw [gt_hit h1 h3 h4]
    have A2 := Lib.hid (fun W (b : Below w.heap.size w W) => (A0.out.below b).at_ h1)
    have q0 : ¬ (i : Int) < 0 := by omega
    have q1 : (i : Int) < (n : Int) := by omega
    have q2 : (0 : Int) ≤ (i : Int) := by omega
    obtain ⟨u, hu⟩ : ∃ u, (l.getD i default).2 = u := ⟨_, rfl⟩
    rw [hu] at A2 ⊢
    clear h1 h2 h3 h4 hn A0
    go_enter Tryd.func25, Tryd.ntmps25
    go_wp2_with fail
    refine HF.out.mono ?_; rintro e w2 ⟨rfl, b⟩
    obtain ⟨bb, off, rfl, _, o0, o1⟩ := A2.out w2 b
    go_wp2_with fail
    go_ret2
    exact ⟨rfl, b⟩
set_option maxHeartbeats 2000000 in
theorem getr_any {w : World} {v : Value} {l : List Tg} (key : ByteArray) (h : TagsAt w v l) (hl : l.length ≤ 1000000) : Calls Tryd.prog 32 #[v, .string key] w fun e w' => e = .returned (.tuple #[.string (gt l key).1, .bool (gt l key).2]) ∧ w' = w := by
  have A0 := Lib.hid h
  obtain ⟨a, cap, rfl, _⟩ := h
  obtain ⟨n, hn⟩ : ∃ n, l.length = n := ⟨_, rfl⟩
  have HN := Lib.hid hn
  rw [hn] at A0 hl ⊢
  have HL := Lib.hid hl
  clear hn hl
  go_enter Tryd.func32, Tryd.ntmps32
  go_wp2_with fail
  go_loopw [6] (fun s wr => ∃ k : Nat, k ≤ n ∧ s = .int .i64 (k : Int) ∧ Hid (∀ j, j < k → (l.getD j default).1 ≠ key) ∧ wr = w) (fun s _ => n - (intOf s).toNat)
  case atStart => exact ⟨0, Nat.zero_le _, rfl, fun j hj => absurd hj (by omega), rfl⟩
  case round =>
    obtain ⟨k, hk, rfl, GG, rfl⟩ := hrel
    by_cases hkn : k < n
    · have hlk : k < l.length := by rw [HN.out]; exact hkn
      obtain ⟨b, off, rfl, hbl, o0, o1⟩ := A0.out.at_ (j := k) hlk
      obtain ⟨⟨x, y⟩, hz⟩ : ∃ z, l.getD k default = z := ⟨_, rfl⟩
      rw [hz] at o0 o1
      dsimp only at o0 o1
      have HZ := Lib.hid hz
      obtain ⟨k1, hk1⟩ : ∃ k1, k + 1 = k1 := ⟨_, rfl⟩
      have HK := Lib.hid hk1
      have k0 : (0 : Int) ≤ (k : Int) := by omega
      have kl : (k : Int) < (n : Int) := by omega
      have e1 : (k : Int) + 1 = (k1 : Int) := by omega
      have e2 : IntKind.i64.wrap (k1 : Int) = (k1 : Int) := by rw [IntKind.wrap_i64]; have := HL.out; omega
      clear hz hk1
      by_cases hx : x = key
      · obtain rfl := hx
        have V := Lib.hid (gt_hit hlk (by rw [HZ.out]) GG.out)
        rw [HZ.out] at V
        clear hlk hbl
        go_wp2_with fail
        go_ret2
        exact ⟨by rw [V.out]; rfl, rfl⟩
      · have h1 := str_ne hx
        have G2 : Hid (∀ j, j < k1 → (l.getD j default).1 ≠ key) := by
          intro j hj
          by_cases e : j = k
          · rw [e, HZ.out]; exact hx
          · exact GG.out j (by have := HK.out; omega)
        clear hx hlk hbl GG
        go_wp2_with fail
        go_roundw
        case measure => simp [intOf]; have := HK.out; omega
        case rel => exact ⟨k1, by have := HK.out; omega, rfl, G2, by trivial⟩
    · have kl : ¬ (k : Int) < (n : Int) := by omega
      have V := Lib.hid (gt_miss (l := l) (k := key) fun t ht => by
        obtain ⟨i, h1, h2⟩ := mem_of_getD ht
        rw [← h2]; exact GG.out i (by rw [HN.out] at h1; omega))
      clear GG
      go_wp2_with fail
      go_ret2
      exact ⟨by rw [V.out]; rfl, rfl⟩
end Go.Proofs.YtgfhanhonfpngaaDoor

