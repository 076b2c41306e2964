/- The walk of the law on Of. -/
import Derived.Test.YtpgblcemooamdaaWe
import Derived.SliceStrings
namespace Go.Proofs.Ytpgblcemooamdaa
open Go.ChangeShapes Go.WideShapes Go.ChangeAt Go.RowKit Go.Maps Go.WideMaps

theorem wf_i64 {a : Int} (h : (Lit.int .i64 a).wf = true) : -9223372036854775808 ≤ a ∧ a ≤ 9223372036854775807 := by
  have := bounds_i64 h; exact ⟨by omega, by omega⟩
theorem Try.cells9 : Try.prog.cellsOf 9 = 1 := by kernel_rfl
def IsStrs (w : World) (v : Value) : Prop := ∃ ss, StrsAt w v ss ∧ ss.length ≤ maxLen ∧ ∀ s ∈ ss, s.size ≤ maxLen
theorem strs_open {H : Type} {enc : TypeId × Value → H} {W : World} {base b0 : Nat} {spare : Nat → Bool} {held : Bool} {r : Reach} {v : Value} {d : DataW H} {p : List MemPlace}
    (hv : Value.okWide Try.prog W r b0 26 v) (h : DataW.Trod enc Try.prog W base spare held 26 v d p) : IsStrs W v := by
  obtain ⟨a0, len, cap, rfl⟩ := okWide_slice Try.underlying26 hv
  have k := h
  obtain ⟨fuel, hf⟩ := h
  rcases open_strings Try.underlying26 Try.underlying9 Try.cells9 hf with ⟨hcs, _⟩ | ⟨a, len', cap', ss, hcs, _, hl, hm, hz, hx, hcell, hws⟩
  · simp [Value.cells] at hcs
    obtain ⟨rfl, rfl, rfl⟩ := hcs
    exact ⟨[], Or.inl ⟨rfl, rfl⟩, by simp, (fun s h => by cases h)⟩
  · simp [Value.cells] at hcs
    obtain ⟨rfl, rfl, rfl⟩ := hcs
    have hsl : len ≤ ss.length := by rw [hz]; split <;> omega
    have hlen : (ss.take len).length = len := by simp; omega
    refine ⟨ss.take len, Or.inr ⟨a, cap, by rw [hlen], ?_, by omega, fun i hi => ?_⟩, by omega, fun s hs => hws s (List.mem_of_mem_take hs)⟩
    · by_cases h0 : len = 0
      · exact Or.inl (by subst h0; simp)
      · right
        have c0 := hcell 0 (by omega)
        have hbl : (a.add 0) = a := by unfold Addr.add; simp
        rw [hbl] at c0
        by_cases hb : a.block < W.heap.size
        · exact hb
        · exfalso
          unfold World.cell? at c0
          simp [Array.getElem?_eq_none (Nat.le_of_not_lt hb)] at c0
    · rw [hcell i (by simp at hi; omega)]
      simp at hi
      simp [List.getD, show i < ss.length by omega]
theorem first_to_num {ss : List ByteArray} {s : ByteArray} {c : Int} {o : Bool} (h : First ss s c o) : Num ss s c o := by
  rcases h with h | ⟨i, hi, e, hc, ho, _⟩
  · exact Or.inl h
  · exact Or.inr ⟨i, hi, e, hc, ho⟩
/- Get and the reference's Get answer alike -/
theorem gets {w : World} {tb mb : Nat} {sv v : Value} {ss : List ByteArray} (h : Tab w tb mb sv ss) (k : StrsAt w v ss) (i : Int) : ∃ u b, (Calls Try.prog 13 #[.pointer (some ⟨tb, 0, none⟩), .int .i64 i] w fun e w' => e = .returned (.tuple #[.string u, .bool b]) ∧ w = w') ∧ (Calls Try.prog 14 #[v, .int .i64 i] w fun e w' => e = .returned (.tuple #[.string u, .bool b]) ∧ w = w') := by
  have hl := h.len
  by_cases hi : i < 0 ∨ (ss.length : Int) ≤ i
  · exact ⟨_, _, get_no _ ss.length i (len_any h) hi, rget_no k i hl hi⟩
  · obtain ⟨j, rfl⟩ := Int.eq_ofNat_of_zero_le (show 0 ≤ i by omega)
    have hj : j < ss.length := by omega
    exact ⟨_, _, get_yes h j hj, rget_yes k j hl hj⟩
theorem namesOf_open0 {H : Type} {enc : TypeId × Value → H} {W : World} {base b0 : Nat} {spare : Nat → Bool} {held : Bool} {r : Reach} {v : Value} {d : DataW H} {p : List MemPlace}
    (hv : Value.okWide Try.prog W r b0 26 v) (h : DataW.Trod enc Try.prog W base spare held 26 v d p) : IsStrs W v := strs_open hv h

set_option maxRecDepth 100000 in
set_option maxHeartbeats 2000000 in
theorem namesOf_walk (v : Value) (s : ByteArray) (i : Int) (w : World) (hv : IsStrs w v) (hs : s.size ≤ maxLen) (_ : (Lit.int .i64 i).wf = true) :
    Calls Try.prog 4 #[v, .string s, .int .i64 i] w fun e w' => e = .returned (.bool true) ∧ Below w.heap.size w w' := by
  obtain ⟨ss, h, hl, hz⟩ := hv
  have HS := Lib.hid h; have HZ := Lib.hid hz; have HL := Lib.hid hl; have SZ := Lib.hid hs
  obtain ⟨a, cap, rfl⟩ := slice_len h
  obtain ⟨n, hn⟩ : ∃ n, ss.length = n := ⟨_, rfl⟩
  have HN := Lib.hid hn
  have FW := Lib.hid (few_any h hl hz)
  rw [hn] at FW ⊢
  unfold maxLen at hs
  clear h hn hz hl
  go_enter Try.func4, Try.ntmps4
  go_wp2_with fail
  refine FW.out.mono ?_; rintro e w1 ⟨b, hb, rfl, rfl⟩
  cases b
  · clear hb
    go_wp2_with fail
    refine (lives_any _).mono ?_; rintro e w1 ⟨rfl, b⟩
    go_wp2_with fail
    go_ret
    exact ⟨rfl, b⟩
  · have h60 : n ≤ 60 := by have := hb rfl; rw [HN.out] at this; exact this
    clear hb
    by_cases h300 : 300 < s.size
    · go_wp2_with fail
      refine (lives_any _).mono ?_; rintro e w1 ⟨rfl, b⟩
      go_wp2_with fail
      go_ret
      exact ⟨rfl, b⟩
    · have SV : Hid (StrsAt w (.slice a n cap) ss) := by have := HS.out; rw [HN.out] at this; exact this
      clear HS
      go_wp2_with fail
      refine (of_any SV.out (by rw [HN.out]; omega) HZ.out).mono ?_; rintro e w1 ho
      rcases ho with ⟨nd, rfl, ⟨sv, ht, hown⟩, hb⟩ | ⟨nd, rfl, hb⟩
      · have T1 := Lib.hid ht; have O1 := Lib.hid hown; have B1 := Lib.hid hb; have ND := Lib.hid nd; have S1 := Lib.hid (SV.out.below hb)
        clear ht hown hb nd
        go_wp2_with fail
        refine (rof_any S1.out (by rw [HN.out]; omega)).mono ?_; rintro e w2 ho
        rcases ho with ⟨_, rfl, q, rfl⟩ | ⟨nd', _⟩
        · have hd := below_drewN (Below.refl w1.heap.size w1) q
          have T2 := Lib.hid (T1.out.keep hd); have B2 := Lib.hid (B1.out.trans (hd.mono B1.out.size)); have S2 := Lib.hid (S1.out.below hd)
          clear hd
          go_wp2_with fail
          refine (len_any T2.out).mono ?_; rintro e w' ⟨rfl, rfl⟩
          rw [HN.out]
          have hnn : ((n : Int) != (n : Int)) = false := by simp
          go_wp2_with fail
          refine (all_any T2.out).mono ?_; rintro e w3 ⟨v3, rfl, h1, h2, ⟨a3, cap3, rfl⟩, h4⟩
          have A3 := Lib.hid h1; have T3 := Lib.hid (T2.out.keep h4); have B3 := Lib.hid (B2.out.trans (h4.mono B2.out.size)); have S3 := Lib.hid (S2.out.below h4)
          clear h1 h2 h4
          go_wp2_with fail
          refine (same_eq A3.out S3.out (by rw [HN.out]; omega)).mono ?_; rintro e w4 ⟨rfl, q4, rfl⟩
          have hd := below_drewN (Below.refl w3.heap.size w3) q4
          have T4 := Lib.hid (T3.out.keep hd); have B4 := Lib.hid (B3.out.trans (hd.mono B3.out.size)); have S4 := Lib.hid (S3.out.below hd)
          clear hd
          go_wp2_with fail
          refine (find_any T4.out s SZ.out).mono ?_; rintro e w' ⟨c, o, hnum, rfl, rfl⟩
          have NU := Lib.hid hnum; clear hnum
          go_wp2_with fail
          refine (rfind_any S4.out s (by rw [HN.out]; omega)).mono ?_; rintro e w' ⟨c', o', hf, rfl, rfl⟩
          obtain ⟨rfl, rfl⟩ := num_unique ND.out NU.out (first_to_num hf)
          clear hf
          obtain ⟨u, b, g1, g2⟩ := gets T4.out S4.out i
          have G1 := Lib.hid g1; have G2 := Lib.hid g2; clear g1 g2
          go_wp2_with fail
          refine G1.out.mono ?_; rintro e w' ⟨rfl, rfl⟩
          go_wp2_with fail
          refine G2.out.mono ?_; rintro e w' ⟨rfl, rfl⟩
          go_wp2_with fail
          refine (radd_any S4.out s (by rw [HN.out]; omega)).mono ?_; rintro e w5 ⟨c5, v5, ss5, hA, rfl, _, _, ⟨a5, cap5, rfl⟩, hb⟩
          have AL := Lib.hid hA; have T5 := Lib.hid (T4.out.keep hb); have B5 := Lib.hid (B4.out.trans (hb.mono B4.out.size))
          clear hA hb
          cases o <;> cases b
          all_goals
            go_wp2_with fail
            refine (add_at T5.out s SZ.out (by rw [HN.out]; omega) AL.out).mono ?_; rintro e w6 ⟨rfl, ha⟩
            obtain ⟨sv6, _, _, b6⟩ := Tab.own B5.out (Nat.le_succ _) (Nat.le_refl _) O1.out ha
            have B6 := Lib.hid b6; clear b6 ha
            go_wp2_with fail
            refine (lives_any _).mono ?_; rintro e w7 ⟨rfl, b7⟩
            go_wp2_with fail
            go_ret
            exact ⟨rfl, B6.out.trans (b7.mono B6.out.size)⟩
        · exact absurd ND.out nd'
      · have B1 := Lib.hid hb; have ND := Lib.hid nd; have S1 := Lib.hid (SV.out.below hb)
        clear hb nd
        go_wp2_with fail
        refine (rof_any S1.out (by rw [HN.out]; omega)).mono ?_; rintro e w2 ho
        rcases ho with ⟨nd', _⟩ | ⟨_, rfl, q, rfl⟩
        · exact absurd nd' ND.out
        · have hd := below_drewN (Below.refl w1.heap.size w1) q
          have B2 := Lib.hid (B1.out.trans (hd.mono B1.out.size))
          clear hd
          go_wp2_with fail
          refine (lives_any _).mono ?_; rintro e w7 ⟨rfl, b7⟩
          go_wp2_with fail
          go_ret
          exact ⟨rfl, B2.out.trans (b7.mono B2.out.size)⟩
end Go.Proofs.Ytpgblcemooamdaa
