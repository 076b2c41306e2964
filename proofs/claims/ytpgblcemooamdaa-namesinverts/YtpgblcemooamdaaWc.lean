/- The reference's Same, Get, Add. -/
import Derived.Test.YtpgblcemooamdaaWb
import Derived.Deep.QuietTactic
import Derived.BigQuiet
namespace Go.Proofs.Ytpgblcemooamdaa
open Go.ChangeShapes Go.WideShapes Go.ChangeAt Go.RowKit Go.Maps Go.WideMaps

set_option maxHeartbeats 1000000 in
theorem same_eq {w : World} {v u : Value} {ss : List ByteArray} (h : StrsAt w v ss) (k : StrsAt w u ss) (hl : ss.length ≤ 1000000) : Calls Try.prog 16 #[v, u] w fun e w' => e = .returned (.bool true) ∧ ∃ n, w' = w.drewN n := by
  have HS := Lib.hid h; have KS := Lib.hid k
  obtain ⟨a, cap, rfl⟩ := slice_len h
  obtain ⟨a2, cap2, rfl⟩ := slice_len k
  obtain ⟨n, hn⟩ : ∃ n, ss.length = n := ⟨_, rfl⟩
  have HN := Lib.hid hn
  rw [hn] at hl ⊢
  have hne : ((n : Int) != (n : Int)) = false := by simp
  clear h k hn
  go_enter Try.func16, Try.ntmps16
  go_wp2_with fail
  go_loopw [5] (fun s5 wr => ∃ k : Nat, k ≤ n ∧ s5 = .int .i64 k ∧ ∃ q, wr = w.drewN q) (fun s5 _ => n - (intOf s5).toNat)
  case atStart => exact ⟨0, by omega, rfl, 0, rfl⟩
  case round =>
    obtain ⟨k, hk, rfl, q, rfl⟩ := hrel
    by_cases hlt : k < n
    · have hk' : k < ss.length := by have := HN.out; omega
      obtain ⟨b, off, cap', e, _, hc⟩ := strs_at HS.out k hk'
      obtain ⟨b2, off2, cap2', e', _, hc'⟩ := strs_at KS.out k hk'
      rw [HN.out] at e e'
      injection e with e1 e2 e3
      injection e' with e1' e2' e3'
      subst e1 e3 e1' e3'
      have c1 := hc k hk'
      have c2 := hc' k hk'
      obtain ⟨u, hu⟩ : ∃ u, ss[k] = u := ⟨_, rfl⟩
      rw [hu] at c1 c2
      have hlt' : (k : Int) < (n : Int) := by omega
      have hk0 : (0 : Int) ≤ (k : Int) := by omega
      clear hc hc' hu e2 e2' hk' HS KS
      go_wp2_with fail
      go_quiet (fail)
      go_wp2
      go_roundw
      case rel => exact ⟨k + 1, by omega, by go_num, _, rfl⟩
      case measure => simp [intOf]; omega
    · go_wp2
      go_ret
      exact ⟨rfl, q, rfl⟩

theorem rget_no {w : World} {v : Value} {ss : List ByteArray} (h : StrsAt w v ss) (i : Int) (_hl : ss.length ≤ 1000000) (hi : i < 0 ∨ (ss.length : Int) ≤ i) : Calls Try.prog 14 #[v, .int .i64 i] w fun e w' => e = .returned (.tuple #[.string ⟨#[]⟩, .bool false]) ∧ w = w' := by
  obtain ⟨a, cap, rfl⟩ := slice_len h
  obtain ⟨n, hn⟩ : ∃ n, ss.length = n := ⟨_, rfl⟩
  rw [hn] at _hl hi ⊢
  clear h hn
  by_cases h0 : i < 0
  · clear hi
    go_enter Try.func14, Try.ntmps14
    go_wp2
    go_ret2
    exact ⟨rfl, rfl⟩
  · have h1 : (n : Int) ≤ i := by omega
    clear hi
    go_enter Try.func14, Try.ntmps14
    go_wp2
    go_ret2
    exact ⟨rfl, rfl⟩
theorem rget_yes {w : World} {v : Value} {ss : List ByteArray} (h : StrsAt w v ss) (i : Nat) (_hl : ss.length ≤ 1000000) (hi : i < ss.length) : Calls Try.prog 14 #[v, .int .i64 i] w fun e w' => e = .returned (.tuple #[.string ss[i], .bool true]) ∧ w = w' := by
  obtain ⟨b, off, cap, rfl, _, hc⟩ := strs_at h i hi
  have c1 := hc i hi
  obtain ⟨u, hu⟩ : ∃ u, ss[i] = u := ⟨_, rfl⟩
  rw [hu] at c1 ⊢
  obtain ⟨n, hn⟩ : ∃ n, ss.length = n := ⟨_, rfl⟩
  rw [hn] at _hl hi ⊢
  clear h hc hu hn
  go_enter Try.func14, Try.ntmps14
  go_wp2
  go_ret2
  exact ⟨rfl, rfl⟩

/- the reference's Add -/
def RAdds (ss : List ByteArray) (s : ByteArray) (w : World) (v : Value) (e : Ending) (w' : World) : Prop :=
  ∃ c v' ss', AddL ss s c ss' ∧ e = .returned (.tuple #[v', .int .i64 c]) ∧ StrsAt w' v' ss' ∧ (v' = v ∨ ∀ ad n cap, v' = .slice (some ad) n cap → w.heap.size ≤ ad.block) ∧ (∃ a cap, v' = .slice a ss'.length cap) ∧ Below w.heap.size w w'
theorem first_num {ss : List ByteArray} {s : ByteArray} {c : Int} (h : First ss s c true) : s ∈ ss ∧ Num ss s c true := by
  rcases h with ⟨_, _, h⟩ | ⟨i, hi, e, hc, _, _⟩
  · cases h
  · exact ⟨e ▸ List.getElem_mem hi, Or.inr ⟨i, hi, e, hc, rfl⟩⟩
theorem num_unique {ss : List ByteArray} {s : ByteArray} {c c' : Int} {o o' : Bool} (nd : ss.Nodup) (h : Num ss s c o) (k : Num ss s c' o') : c = c' ∧ o = o' := by
  rcases h with ⟨h1, h2, h3⟩ | ⟨i, hi, e, h2, h3⟩ <;> rcases k with ⟨k1, k2, k3⟩ | ⟨j, hj, e', k2, k3⟩
  · exact ⟨h2.trans k2.symm, h3.trans k3.symm⟩
  · exact absurd (e' ▸ List.getElem_mem hj) h1
  · exact absurd (e ▸ List.getElem_mem hi) k1
  · have : i = j := by
      have hp := List.pairwise_iff_getElem.1 nd
      rcases Nat.lt_trichotomy i j with h | h | h
      · exact absurd (e.trans e'.symm) (hp i j hi hj h)
      · exact h
      · exact absurd (e'.trans e.symm) (hp j i hj hi h)
    subst this
    exact ⟨h2.trans k2.symm, h3.trans k3.symm⟩
theorem addL_unique {ss : List ByteArray} {s : ByteArray} {c c' : Int} {t t' : List ByteArray} (nd : ss.Nodup) (h : AddL ss s c t) (k : AddL ss s c' t') : c = c' ∧ t = t' := by
  rcases h with ⟨h1, h2, h3⟩ | ⟨h1, h2, h3⟩ <;> rcases k with ⟨k1, k2, k3⟩ | ⟨k1, k2, k3⟩
  · exact ⟨(num_unique nd h3 k3).1, h2.trans k2.symm⟩
  · exact absurd h1 k1
  · exact absurd k1 h1
  · exact ⟨h3.trans k3.symm, h2.trans k2.symm⟩

/- behind the last append: the whole list lies in new memory -/
theorem radd_end {w w1 w2 : World} {o : Obj} {v : Value} {a' : Option Addr} {cap' : Nat} {ss : List ByteArray} {s : ByteArray} {row : Option Nat} (hm : s ∉ ss) (r : w2.ownsRow 0 9 1 (.slice a' (ss.length + 1) cap') (ss.length + 1) (strs ss ++ [.string s])) (b1 : Below w.heap.size w w1)
    (g : (w1.alloc o).grownBy w2 row) (hr : ∀ k, row = some k → w.heap.size ≤ k) (hloc : (Value.slice a' (ss.length + 1) cap').ownBlock = row ∨ (Value.slice a' (ss.length + 1) cap').ownBlock = some (w1.alloc o).heap.size) :
    RAdds ss s w v (.returned (.tuple #[.slice a' (ss.length + 1) cap', .int .i64 ss.length])) w2 := by
  have hs1 := b1.size
  have row : w2.ownsRow 0 9 1 (.slice a' (ss.length + 1) cap') (ss ++ [s]).length (strs (ss ++ [s])) := by simpa [strs] using r
  have hst := StrsAt.of_row row
  refine ⟨ss.length, .slice a' (ss.length + 1) cap', ss ++ [s], Or.inr ⟨hm, rfl, rfl⟩, rfl, hst, Or.inr ?_, ⟨a', cap', by simp⟩, ?_⟩
  · rintro ad n cap e
    injection e with e1 e2 e3
    subst e1
    rcases hloc with e | e
    · exact hr ad.block e.symm
    · have e2 : some ad.block = some (w1.alloc o).heap.size := e
      injection e2 with e2
      rw [World.size_alloc] at e2; omega
  · exact (b1.alloc hs1 _).grown g (by rw [World.size_alloc]; omega) hr

set_option maxHeartbeats 2000000 in
theorem radd_any {w : World} {v : Value} {ss : List ByteArray} (h : StrsAt w v ss) (s : ByteArray) (hl : ss.length < 1000000) : Calls Try.prog 9 #[v, .string s] w (RAdds ss s w v) := by
  have HS := Lib.hid h
  have FD := Lib.hid (rfind_any h s (by omega))
  obtain ⟨a, cap, rfl⟩ := slice_len h
  obtain ⟨n, hn⟩ : ∃ n, ss.length = n := ⟨_, rfl⟩
  have HN := Lib.hid hn
  obtain ⟨i0, hi, hz0, hz1, hz2⟩ := info_parts Try.info9
  have II := Lib.hid hi; have Z0 := Lib.hid hz0; have Z1 := Lib.hid hz1; have Z2 := Lib.hid hz2
  rw [hn] at hl FD
  clear h hn hi hz0 hz1 hz2
  go_enter Try.func9, Try.ntmps9
  rw [HN.out]
  go_wp2_with fail
  refine FD.out.mono ?_; rintro e w1 ⟨c, o, hf, rfl, rfl⟩
  have HF := Lib.hid hf; clear hf
  cases o
  · have hm : s ∉ ss := by
      rcases HF.out with ⟨h1, _⟩ | ⟨_, _, _, _, h, _⟩
      · exact h1
      · cases h
    have HM := Lib.hid hm; clear hm
    rcases HS.out with ⟨ea, es⟩ | ⟨ad, cap', ev, hb, _, hc⟩
    · injection ea with e1 e2 e3
      subst e1 e3 es
      obtain rfl : n = 0 := by have := HN.out; simpa using this.symm
      clear e2
      go_wp2_with (at_builtin; refine wpList_append_own_at _ rfl _ _ 26 rfl 0 9 i0 (.string ⟨#[]⟩) 1 16 Try.underlying26 II.out Z0.out Z1.out Z2.out rfl (by decide) (.slice none 0 0) 0 [] rfl (World.ownsRow_nil _ _ _ _) ⟨w.heap.size, 0, none⟩ 1 1 [.string s] rfl rfl (cell_one_new _ _ _) (by simp [Value.oneCell']) (by unfold maxLen; omega) (by omega) (by simp) ?_; intro v' w2 hown' hgrow hnil hloc; obtain ⟨a', cap', hv', _⟩ := row_len hown'; subst hv'; have R1 := Lib.hid hown'; have G1 := Lib.hid hgrow; have L1 := Lib.hid hloc; clear hown' hgrow hloc hnil)
      go_ret2
      exact radd_end (w1 := w) (o := .cells #[.string s] 9) (row := none) HM.out (by simpa [strs] using R1.out) (Below.refl _ _) G1.out (fun k e => by cases e) L1.out
    · injection ev with e1 e2 e3
      subst e1 e3
      have news : ∀ (j : Nat) (u : Value), (strs ss)[j]? = some u → w.cell? (ad.add j) = some u := fun j u hu => by
        have hj : j < ss.length := by
          have := (List.getElem?_eq_some_iff.1 hu).1
          simpa [strs] using this
        rw [hc j hj, ← hu]; simp [strs, hj]
      have NEWS := Lib.hid news
      have hlen : Hid ((strs ss).length = n * 1) := by show (strs ss).length = n * 1; have := HN.out; simp [strs, this]
      clear e2 news hc
      have tok : Hid True := trivial
      go_wp2_with (first
        | (at_builtin; have _t := tok; refine wpList_append_own_at _ rfl _ _ 26 rfl 0 9 i0 (.string ⟨#[]⟩) 1 16 Try.underlying26 II.out Z0.out Z1.out Z2.out rfl (by decide) (.slice none 0 0) 0 [] rfl (World.ownsRow_nil _ _ _ _) ad n cap (strs ss) rfl hlen.out NEWS.out (by simp [strs, Value.oneCell']) (by unfold maxLen; omega) (by omega) (by simp) ?_; intro v' w2 hown' hgrow hnil hloc; obtain ⟨a', cap', hv', _⟩ := row_len hown'; subst hv'; have hown2 : w2.ownsRow 0 9 1 (.slice a' n cap') n (strs ss) := (by simpa using hown'); have R1 := Lib.hid hown2; have G1 := Lib.hid hgrow; have L1 := Lib.hid hloc; clear hown' hown2 hgrow hloc hnil tok _t)
        | (at_builtin; refine wpList_append_own_at _ rfl _ _ 26 rfl 0 9 i0 (.string ⟨#[]⟩) 1 16 Try.underlying26 II.out Z0.out Z1.out Z2.out rfl (by decide) _ _ _ rfl (R1.out.alloc _) ⟨w2.heap.size, 0, none⟩ 1 1 [.string s] rfl rfl (cell_one_new _ _ _) (by simp [Value.oneCell']) (by unfold maxLen; omega) (by omega) (by simp) ?_; intro v2 w3 hown' hgrow hnil hloc; obtain ⟨a2, cap2, hv2, _⟩ := row_len hown'; subst hv2; have R2 := Lib.hid hown'; have G2 := Lib.hid hgrow; have L2 := Lib.hid hloc; clear hown' hgrow hloc hnil))
      go_ret2
      have b1 : Below w.heap.size w w2 := (Below.refl _ _).grown G1.out (Nat.le_refl _) (fun k e => by cases e)
      have hr : ∀ k, (Value.slice a' n cap').ownBlock = some k → w.heap.size ≤ k := fun k e => by
        rcases L1.out with h | h
        · have h' : (Value.slice a' n cap').ownBlock = none := by
            have := h; rw [Nat.zero_add] at this; exact this
          rw [h'] at e; cases e
        · have h' : (Value.slice a' n cap').ownBlock = some w.heap.size := by
            have := h; rw [Nat.zero_add] at this; exact this
          rw [h'] at e; injection e with e; omega
      have := radd_end (v := .slice (some ad) n cap) (s := s) (ss := ss) (o := .cells #[.string s] 9) HM.out (by rw [HN.out]; exact R2.out) b1 G2.out hr (by rw [HN.out]; exact L2.out)
      rw [HN.out] at this
      exact this
  · obtain ⟨hm, hnum⟩ := first_num HF.out
    have HM := Lib.hid hm; have NU := Lib.hid hnum
    clear hm hnum
    go_wp2_with fail
    go_ret2
    refine ⟨c, .slice a n cap, ss, Or.inl ⟨HM.out, rfl, NU.out⟩, rfl, ?_, Or.inl ?_, ⟨a, cap, ?_⟩, Below.refl _ _⟩
    · have := HS.out; rw [HN.out] at this; exact this
    · first | rfl | rw [HN.out]
    · first | rfl | rw [HN.out]
end Go.Proofs.Ytpgblcemooamdaa
