/- Slices of strings: Clone, All; the reference's functions. -/
import Derived.Test.YtpgblcemooamdaaWa
import Derived.WalkSpells
namespace Go.Proofs.Ytpgblcemooamdaa
open Go.ChangeShapes Go.WideShapes Go.ChangeAt Go.RowKit Go.Maps Go.WideMaps

/- a slice that reads as these strings -/
def StrsAt (w : World) (v : Value) (ss : List ByteArray) : Prop :=
  (v = .slice none 0 0 ∧ ss = []) ∨ ∃ ad cap, v = .slice (some ad) ss.length cap ∧ (ss = [] ∨ ad.block < w.heap.size) ∧ ss.length ≤ cap ∧ ∀ i (h : i < ss.length), w.cell? (ad.add i) = some (.string ss[i])
theorem StrsAt.kept {w w' : World} {v : Value} {ss : List ByteArray} {bad : List Nat} (h : StrsAt w v ss) (hk : Kp bad w w') (hn : ∀ ad n cap, v = .slice (some ad) n cap → ad.block ∉ bad) : StrsAt w' v ss := by
  rcases h with h | ⟨ad, cap, e, hb, hcap, hc⟩
  · exact Or.inl h
  · refine Or.inr ⟨ad, cap, e, hb.imp id (fun h => Nat.lt_of_lt_of_le h hk.size), hcap, fun i hi => ?_⟩
    have hb : ad.block < w.heap.size := hb.resolve_left (fun e => by subst e; cases hi)
    have hbl : (ad.add i).block = ad.block := by unfold Addr.add; split <;> rfl
    rw [hk.cell (by rw [hbl]; exact hb) (by rw [hbl]; exact hn _ _ _ e)]
    exact hc i hi
theorem StrsAt.below {w w' : World} {v : Value} {ss : List ByteArray} (h : StrsAt w v ss) (hk : Below w.heap.size w w') : StrsAt w' v ss := h.kept (bad := []) (Kp.of_below hk) (fun _ _ _ _ => by simp)
theorem StrsAt.of_row {w : World} {v : Value} {ss : List ByteArray} (h : w.ownsRow 0 9 1 v ss.length (strs ss)) : StrsAt w v ss := by
  rcases h.2 with ⟨e, h0⟩ | ⟨g, cap, cur, rfl, _, hg, h1, h2, h3, h4⟩
  · exact Or.inl ⟨e, List.eq_nil_of_length_eq_zero h0⟩
  · refine Or.inr ⟨_, cap, rfl, Or.inr ?_, h1, fun i hi => ?_⟩
    · by_cases hb : g < w.heap.size
      · exact hb
      · rw [Array.getElem?_eq_none (Nat.le_of_not_lt hb)] at hg; cases hg
    · obtain ⟨g', cap', e, hc⟩ := row_at h i hi
      injection e with e _ _
      injection e with e
      injection e with e _ _
      subst e
      rw [Addr.add_lit]; simpa using hc
theorem Tab.strs {w : World} {tb mb : Nat} {sv : Value} {ss : List ByteArray} (h : Tab w tb mb sv ss) : StrsAt w sv ss := StrsAt.of_row h.row

/- a new row that reads as these strings -/
def NewRow (ss : List ByteArray) (w : World) (e : Ending) (w' : World) : Prop := ∃ v, e = .returned v ∧ StrsAt w' v ss ∧ (∀ ad n cap, v = .slice (some ad) n cap → w.heap.size ≤ ad.block) ∧ (∃ a cap, v = .slice a ss.length cap) ∧ Below w.heap.size w w'
theorem slice_len {w : World} {v : Value} {ss : List ByteArray} (h : StrsAt w v ss) : ∃ a cap, v = .slice a ss.length cap := by
  rcases h with ⟨e, rfl⟩ | ⟨ad, cap, e, _⟩
  · exact ⟨none, 0, e⟩
  · exact ⟨_, _, e⟩

set_option maxHeartbeats 1000000 in
theorem clone_any {w : World} {v : Value} {ss : List ByteArray} (h : StrsAt w v ss) (hl : ss.length ≤ 1000000) : Calls Try.prog 21 #[v] w (NewRow ss w) := by
  rcases h with ⟨rfl, rfl⟩ | ⟨ad, cap, rfl, hb, _, hc⟩
  · have hq := Lib.run_eql_slice_nil (P := Try.prog)
    go_enter Try.func21, Try.ntmps21
    go_wp2
    go_ret
    exact ⟨_, rfl, Or.inl ⟨rfl, rfl⟩, fun _ _ _ e => by simp at e, ⟨none, 0, rfl⟩, Below.refl _ _⟩
  · obtain ⟨n, hn⟩ : ∃ n, ss.length = n := ⟨_, rfl⟩
    obtain ⟨i0, hi, hz0, hz1, hz2⟩ := info_parts Try.info9
    have II := Lib.hid hi; have Z0 := Lib.hid hz0; have Z1 := Lib.hid hz1; have Z2 := Lib.hid hz2
    rw [hn] at hl
    have HN := Lib.hid hn
    have news : ∀ (o : Obj) (j : Nat) (u : Value), (strs ss)[j]? = some u → (w.alloc o).cell? (ad.add j) = some u := fun o j u hu => by
      have hj : j < ss.length := by
        have := (List.getElem?_eq_some_iff.1 hu).1
        simpa [strs] using this
      have hbl : (ad.add j).block = ad.block := by unfold Addr.add; split <;> rfl
      have hb : ad.block < w.heap.size := hb.resolve_left (fun e => by subst e; cases hj)
      rw [Below.cell ((Below.refl w.heap.size w).alloc (Nat.le_refl _) o) (by rw [hbl]; exact hb), hc j hj]
      rw [← hu]; simp [strs, hj]
    have NEWS := Lib.hid news
    have own0 : ∀ w : World, (w.alloc (.cells #[] 9)).ownsRow 0 9 1 (.slice (some ⟨w.heap.size, 0, none⟩) 0 0) 0 [] := fun w =>
      ⟨by simp, Or.inr ⟨w.heap.size, 0, #[], rfl, Nat.zero_le _, by show (w.heap.push _)[w.heap.size]? = _; rw [Array.getElem?_push, if_pos rfl], by omega, by decide, by simp, by simp⟩⟩
    have OWN0 := Lib.hid own0; clear own0
    have hlen : Hid ((strs ss).length = n * 1) := by show (strs ss).length = n * 1; simp [strs, hn]
    rw [hn]
    have hq := @Lib.run_eql_slice_nil Try.prog
    have hu := Try.underlying26
    clear hi hz0 hz1 hz2 hn news hc
    go_enter Try.func21, Try.ntmps21
    go_wp2_with (at_builtin; refine wpList_append_own_at _ rfl _ _ 26 rfl 0 9 i0 (.string ⟨#[]⟩) 1 16 Try.underlying26 II.out Z0.out Z1.out Z2.out rfl (by decide) _ 0 [] rfl (OWN0.out _) ad n cap (strs ss) rfl hlen.out (NEWS.out _) (by simp [strs, Value.oneCell']) (by unfold maxLen; omega) (by omega) (by simp) ?_; intro v' w1 hown' hgrow hnil hloc)
    go_ret
    have row : w1.ownsRow 0 9 1 v' ss.length (strs ss) := by rw [HN.out]; simpa using hown'
    have hst := StrsAt.of_row row
    refine ⟨v', rfl, hst, ?_, slice_len hst, ?_⟩
    · rintro ad' n' cap' rfl
      have hs : (w.alloc (.cells #[] 9)).heap.size = w.heap.size + 1 := by simp
      rcases row.2 with ⟨e, _⟩ | ⟨g, cap2, cur, e, _⟩
      · cases e
      · injection e with e _ _
        injection e with e
        subst e
        rcases hloc with e | e
        · have e2 : some g = some w.heap.size := e
          injection e2 with e2; show w.heap.size ≤ g; omega
        · rw [hs] at e
          have e2 : some g = some (w.heap.size + 1) := e
          injection e2 with e2; show w.heap.size ≤ g; omega
    · exact ((Below.refl _ _).alloc (Nat.le_refl _) _).grown hgrow (by simp) (fun k e => by have e2 : some w.heap.size = some k := e; injection e2 with e2; omega)

theorem all_nil (w : World) : Calls Try.prog 17 #[.pointer none] w fun e w' => e = .returned (.slice none 0 0) ∧ w = w' := by
  go_enter Try.func17, Try.ntmps17
  go_wp2
  go_ret
  exact ⟨rfl, rfl⟩
theorem all_any {w : World} {tb mb : Nat} {sv : Value} {ss : List ByteArray} (h : Tab w tb mb sv ss) : Calls Try.prog 17 #[.pointer (some ⟨tb, 0, none⟩)] w (NewRow ss w) := by
  have c0 := h.c0
  have HC := Lib.hid (clone_any h.strs h.len)
  obtain ⟨a, cap, rfl⟩ := slice_len h.strs
  clear h
  go_enter Try.func17, Try.ntmps17
  go_wp2_with fail
  refine HC.out.mono ?_; rintro e w1 ⟨v, rfl, h1, h2, ⟨a', cap', rfl⟩, h4⟩
  go_wp2_with fail
  go_ret
  exact ⟨_, rfl, h1, h2, ⟨a', cap', rfl⟩, h4⟩

/- the cell of the i-th string, in the walk's spelling -/
theorem strs_at {w : World} {v : Value} {ss : List ByteArray} (h : StrsAt w v ss) (i : Nat) (hi : i < ss.length) : ∃ b off cap, v = .slice (some ⟨b, off, none⟩) ss.length cap ∧ ss.length ≤ cap ∧ ∀ j (hj : j < ss.length), w.cell? ⟨b, off + j, none⟩ = some (.string ss[j]) := by
  rcases h with ⟨_, rfl⟩ | ⟨⟨b, off, spot⟩, cap, rfl, hb, hcap, hc⟩
  · cases hi
  · have h0 := hc 0 (by omega)
    have hspot : spot = none := by simpa [Addr.add] using World.cell?_spot h0
    subst hspot
    exact ⟨b, off, cap, rfl, hcap, fun j hj => by have := hc j hj; rw [Addr.add_lit] at this; exact this⟩
/- the first place of a string in a list -/
def First (ss : List ByteArray) (s : ByteArray) (c : Int) (o : Bool) : Prop := (s ∉ ss ∧ c = 0 ∧ o = false) ∨ ∃ i, ∃ h : i < ss.length, ss[i] = s ∧ c = i ∧ o = true ∧ ∀ j (hj : j < i), ss[j]'(by omega) ≠ s
def Firsts (ss : List ByteArray) (s : ByteArray) (w : World) (e : Ending) (w' : World) : Prop := ∃ c o, First ss s c o ∧ e = .returned (.tuple #[.int .i64 c, .bool o]) ∧ w = w'
theorem first_none {ss : List ByteArray} {s : ByteArray} (h : ∀ j (hj : j < ss.length), ss[j] ≠ s) : s ∉ ss := by
  intro hm
  obtain ⟨i, hi, e⟩ := List.getElem_of_mem hm
  exact h i hi e
set_option maxHeartbeats 1000000 in
theorem rfind_any {w : World} {v : Value} {ss : List ByteArray} (h : StrsAt w v ss) (s : ByteArray) (hl : ss.length ≤ 1000000) : Calls Try.prog 12 #[v, .string s] w (Firsts ss s w) := by
  have HS := Lib.hid h
  obtain ⟨a, cap, rfl⟩ := slice_len h
  obtain ⟨n, hn⟩ : ∃ n, ss.length = n := ⟨_, rfl⟩
  have HN := Lib.hid hn
  rw [hn] at hl ⊢
  clear h hn
  go_enter Try.func12, Try.ntmps12
  go_wp2_with fail
  go_loop [6] (fun s6 => ∃ k : Nat, k ≤ n ∧ s6 = .int .i64 k ∧ Hid (∀ j (hj : j < ss.length), j < k → ss[j] ≠ s)) (fun s6 => n - (intOf s6).toNat)
  case atStart => exact ⟨0, by omega, rfl, fun j _ h => absurd h (Nat.not_lt_zero j)⟩
  case round =>
    obtain ⟨k, hk, rfl, HK⟩ := hrel
    by_cases hlt : k < n
    · have hk' : k < ss.length := by have := HN.out; omega
      obtain ⟨b, off, cap', e, _, hc⟩ := strs_at HS.out k hk'
      rw [HN.out] at e
      injection e with e1 e2 e3
      subst e1 e3
      have c1 := hc k hk'
      obtain ⟨u, hu⟩ : ∃ u, ss[k] = u := ⟨_, rfl⟩
      rw [hu] at c1
      have HU := Lib.hid hu
      clear hc hu e2
      by_cases hus : u = s
      · subst hus
        have fin : Hid (First ss u k true) := Or.inr ⟨k, hk', HU.out, rfl, rfl, fun j hj => HK.out j _ hj⟩
        go_wp2
        go_ret2
        exact ⟨k, true, fin.out, rfl, rfl⟩
      · have hub := str_ne hus
        have st : Hid (∀ j (hj : j < ss.length), j < k + 1 → ss[j] ≠ s) := fun j hj hj1 => by
          by_cases ej : j = k
          · subst ej; rw [HU.out]; exact hus
          · exact HK.out j hj (by omega)
        go_wp2
        go_round
        case rel => exact ⟨k + 1, by omega, by go_num, st⟩
        case measure => simp [intOf]; omega
    · have fin : Hid (First ss s 0 false) := Or.inl ⟨first_none fun j hj => HK.out j hj (by have := HN.out; omega), rfl, rfl⟩
      go_wp2
      go_ret2
      exact ⟨0, false, fin.out, rfl, rfl⟩
end Go.Proofs.Ytpgblcemooamdaa
