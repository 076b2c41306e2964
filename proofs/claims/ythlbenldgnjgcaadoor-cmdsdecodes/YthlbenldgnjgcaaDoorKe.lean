/- cmds: rows of ints; the two zigzags; few. -/
import Derived.Test.YthlbenldgnjgcaaDoorKd
namespace Go.Proofs.YthlbenldgnjgcaaDoor
open Go.ChangeShapes Go.WideShapes Go.ChangeAt Go.RowKit Go.Joins Go.Deep

theorem ret_i64 {a b : Int} (h : a = b) : Ending.returned (.int .i64 a) = .returned (.int .i64 b) := by rw [h]
theorem ret_bool {a b : Bool} (h : a = b) : Ending.returned (.bool a) = .returned (.bool b) := by rw [h]
theorem cell_lt {w : World} {p : Addr} {v : Value} (h : w.cell? p = some v) : p.block < w.heap.size := by
  by_cases hb : p.block < w.heap.size
  · exact hb
  · exfalso
    unfold World.cell? at h
    simp [Array.getElem?_eq_none (Nat.le_of_not_lt hb)] at h
def IntsAt (w : World) (v : Value) (l : List Int) : Prop :=
  ∃ a cap, v = .slice a l.length cap ∧ l.length ≤ cap ∧ (l = [] ∨ ∃ b off, a = some ⟨b, off, none⟩ ∧ b < w.heap.size ∧ ∀ j, j < l.length → w.cell? ⟨b, off + j, none⟩ = some (.int .i64 (l.getD j 0)))
theorem IntsAt.below {w w' : World} {v : Value} {l : List Int} (h : IntsAt w v l) (hb : Below w.heap.size w w') : IntsAt w' v l := by
  obtain ⟨a, cap, h1, hc, h2⟩ := h
  refine ⟨a, cap, h1, hc, ?_⟩
  rcases h2 with h2 | ⟨b, off, e, hl, hc⟩
  · exact Or.inl h2
  · exact Or.inr ⟨b, off, e, Nat.lt_of_lt_of_le hl hb.size, fun j hj => by rw [hb.cell (by exact hl)]; exact hc j hj⟩
theorem IntsAt.drewN {w : World} {v : Value} {l : List Int} (h : IntsAt w v l) (n : Nat) : IntsAt (w.drewN n) v l := h.below (below_drewN (Below.refl _ _) n)
theorem ints_nil (w : World) : IntsAt w (.slice none 0 0) [] := ⟨none, 0, rfl, Nat.zero_le _, Or.inl rfl⟩
theorem IntsAt.form {w : World} {v : Value} {l : List Int} (h : IntsAt w v l) : ∃ a cap, v = .slice a l.length cap := by
  obtain ⟨a, cap, h1, _⟩ := h; exact ⟨a, cap, h1⟩
theorem IntsAt.at {w : World} {a : Option Addr} {n cap : Nat} {l : List Int} (h : IntsAt w (.slice a n cap) l) {k : Nat} (hk : k < l.length) : ∃ b off, a = some ⟨b, off, none⟩ ∧ w.cell? ⟨b, off + k, none⟩ = some (.int .i64 (l.getD k 0)) := by
  obtain ⟨a', cap', h1, _, h2⟩ := h
  injection h1 with e1 e2 e3
  subst e1
  rcases h2 with h2 | ⟨b, off, e, hl, hc⟩
  · subst h2; simp at hk
  · exact ⟨b, off, e, hc k hk⟩
def nums (l : List Int) : List Value := l.map (Value.int .i64)
theorem nums_append (l m : List Int) : nums (l ++ m) = nums l ++ nums m := by simp [nums]
theorem IntsAt.of_row {w : World} {base : Nat} {v : Value} {l : List Int} (h : w.ownsRow base 3 1 v l.length (nums l)) : IntsAt w v l := by
  rcases h.2 with ⟨rfl, h0⟩ | ⟨g, cap, cur, rfl, _, hg, h1, h2, h3, h4⟩
  · rw [List.length_eq_zero_iff] at h0; subst h0; exact ints_nil w
  · refine ⟨_, cap, rfl, h1, Or.inr ⟨g, 0, rfl, ?_, fun i hi => ?_⟩⟩
    · by_cases hlt : g < w.heap.size
      · exact hlt
      · rw [Array.getElem?_eq_none (Nat.le_of_not_lt hlt)] at hg; cases hg
    · unfold World.cell?
      rw [hg]
      have e : (cur.toList.take (l.length * 1))[i]? = some (.int .i64 l[i]) := by rw [h4]; simp [nums, hi]
      rw [List.getElem?_take] at e
      split at e
      · simp [List.getD, hi]; simpa using e
      · cases e
theorem row_form {w : World} {base : Nat} {v : Value} {n : Nat} {xs : List Value} (h : w.ownsRow base 3 1 v n xs) : ∃ a cap, v = .slice a n cap := by
  rcases h.2 with ⟨rfl, rfl⟩ | ⟨g, cap, cur, rfl, _⟩
  · exact ⟨none, 0, rfl⟩
  · exact ⟨_, cap, rfl⟩
theorem row_base {w : World} {base : Nat} {v : Value} {n : Nat} {xs : List Value} (h : w.ownsRow base 3 1 v n xs) : ∀ k, v.ownBlock = some k → base ≤ k := by
  rcases h.2 with ⟨rfl, rfl⟩ | ⟨g, cap, cur, rfl, hb, _⟩
  · intro k e; cases e
  · intro k e; injection e with e; subst e; exact hb
theorem Tryd.info3 : (Tryd.prog.info? 3).map (fun i => (i.zero, i.size, i.bytes)) = some (some (.int .i64 0), 1, 8) := by kernel_rfl
theorem info_parts {t : TypeId} {z : Option Value} {s b : Nat} (h : (Tryd.prog.info? t).map (fun i => (i.zero, i.size, i.bytes)) = some (z, s, b)) : ∃ i, Tryd.prog.info? t = some i ∧ i.zero = z ∧ i.size = s ∧ i.bytes = b := by
  cases hi : Tryd.prog.info? t with
  | none => rw [hi] at h; cases h
  | some i => rw [hi] at h; simp at h; exact ⟨i, rfl, h.1, h.2.1, h.2.2⟩
set_option maxHeartbeats 1000000 in
theorem equal_any {w : World} {v u : Value} {l m : List Int} (h : IntsAt w v l) (h' : IntsAt w u m) (hl : l.length ≤ 1000000) (hm : m.length ≤ 1000000) : Calls Tryd.prog 13 #[v, u] w fun e w' => e = .returned (.bool (decide (l = m))) ∧ ∃ q, w' = w.drewN q := by
  have HI := Lib.hid h; have HJ := Lib.hid h'
  obtain ⟨a, cap, rfl⟩ := h.form
  obtain ⟨a2, cap2, rfl⟩ := h'.form
  obtain ⟨n, hn⟩ : ∃ n, l.length = n := ⟨_, rfl⟩
  have HN := Lib.hid hn
  obtain ⟨n2, hn2⟩ : ∃ n, m.length = n := ⟨_, rfl⟩
  have HN2 := Lib.hid hn2
  rw [hn] at hl ⊢; rw [hn2] at hm ⊢; clear hn h hn2 h'
  by_cases hd : n = n2
  · subst hd
    have hnn : ((n : Int) != (n : Int)) = false := by simp
    go_enter Tryd.func13, Tryd.ntmps13
    go_wp2_with fail
    go_loopw [5] (fun s5 wr => ∃ k : Nat, k ≤ n ∧ s5 = .int .i64 k ∧ Hid (l.take k = m.take k) ∧ Hid (∃ q, wr = w.drewN q)) (fun s5 _ => n - (intOf s5).toNat)
    case atStart => exact ⟨0, by omega, rfl, by simp [Hid], ⟨0, rfl⟩⟩
    case round =>
      obtain ⟨k, hk, rfl, HT, HQ⟩ := hrel
      by_cases hlt : k < n
      · have hk1 : k < l.length := by have := HN.out; omega
        have hk2 : k < m.length := by have := HN2.out; omega
        have hi : IntsAt wr (.slice a n cap) l := by obtain ⟨q, e⟩ := HQ.out; have := HI.out; rw [HN.out] at this; rw [e]; exact this.drewN q
        have hj : IntsAt wr (.slice a2 n cap2) m := by obtain ⟨q, e⟩ := HQ.out; have := HJ.out; rw [HN2.out] at this; rw [e]; exact this.drewN q
        obtain ⟨b, off, rfl, c1⟩ := hi.at hk1
        obtain ⟨b2, off2, rfl, c2⟩ := hj.at hk2
        obtain ⟨u, hu⟩ : ∃ u, l.getD k 0 = u := ⟨_, rfl⟩
        obtain ⟨v, hv⟩ : ∃ u, m.getD k 0 = u := ⟨_, rfl⟩
        rw [hu] at c1; rw [hv] at c2
        have t1 : l.take (k + 1) = l.take k ++ [u] := by rw [List.take_succ_eq_append_getElem hk1, ← hu]; simp [List.getD, hk1]
        have t2 : m.take (k + 1) = m.take k ++ [v] := by rw [List.take_succ_eq_append_getElem hk2, ← hv]; simp [List.getD, hk2]
        have T1 := Lib.hid t1; have T2 := Lib.hid t2
        have i1 : (0 : Int) ≤ (k : Int) := by omega
        have i2 : (k : Int) < (n : Int) := by omega
        clear hi hj hu hv t1 t2
        by_cases he : u = v
        · subst he
          have hf : (u != u) = false := by simp
          have HT2 : Hid (l.take (k + 1) = m.take (k + 1)) := by show _ = _; rw [T1.out, T2.out, HT.out]
          go_wp2_with fail
          go_quiet (fail)
          go_wp2
          go_roundw
          case rel => exact ⟨k + 1, by omega, by go_num, HT2, (by obtain ⟨q, e⟩ := HQ.out; subst e; exact ⟨_, World.drewN_drewN ..⟩)⟩
          case measure => simp [intOf]; omega
        · have hf : (u != v) = true := by simpa using he
          have fin : Hid (decide (l = m) = false) := by
            show decide _ = _
            simp; intro e; subst e
            rw [T1.out] at T2
            have := T2.out
            simp at this; exact he this
          clear he
          go_wp2_with fail
          go_quiet (fail)
          go_wp2
          go_ret
          exact ⟨ret_bool fin.out.symm, (by obtain ⟨q, e⟩ := HQ.out; subst e; exact ⟨_, World.drewN_drewN ..⟩)⟩
      · have fin : Hid (decide (l = m) = true) := by
          show decide _ = _
          have := HT.out
          rw [List.take_of_length_le (by have := HN.out; omega), List.take_of_length_le (by have := HN2.out; omega)] at this
          simpa using this
        go_wp2
        go_ret
        exact ⟨ret_bool fin.out.symm, HQ.out⟩
  · have hne : ((n : Int) != (n2 : Int)) = true := by simp; omega
    have fin : Hid (decide (l = m) = false) := by
      show decide _ = _
      simp; intro e; subst e; exact hd (HN.out.symm.trans HN2.out)
    go_enter Tryd.func13, Tryd.ntmps13
    go_wp2
    go_ret
    exact ⟨ret_bool fin.out.symm, ⟨0, rfl⟩⟩

/- the steps -/
def zz (n : Int) : Int := if n < 0 then -2 * n - 1 else 2 * n
def zzOk (n : Int) : Prop := -1000000 ≤ n ∧ n ≤ 1000000
theorem zig_any (x : Int) (hx : zzOk x) (w : World) : Calls Tryd.prog 24 #[.int .i64 x] w fun e w' => e = .returned (.int .i64 (zz x)) ∧ w' = w := by
  obtain ⟨x1, x2⟩ := hx
  by_cases h : x < 0
  · have V := Lib.hid (show zz x = -2 * x - 1 from if_pos h)
    have e1 : IntKind.i64.wrap (-2 * x) = -2 * x := by rw [IntKind.wrap_i64]; omega
    have e2 : IntKind.i64.wrap (-2 * x - 1) = -2 * x - 1 := by rw [IntKind.wrap_i64]; omega
    go_enter Tryd.func24, Tryd.ntmps24
    go_wp2_with fail
    go_ret
    exact ⟨by rw [V.out]; rfl, rfl⟩
  · have V := Lib.hid (show zz x = 2 * x from if_neg h)
    have e1 : IntKind.i64.wrap (2 * x) = 2 * x := by rw [IntKind.wrap_i64]; omega
    go_enter Tryd.func24, Tryd.ntmps24
    go_wp2_with fail
    go_ret
    exact ⟨by rw [V.out]; rfl, rfl⟩
theorem zigr_any (x : Int) (hx : zzOk x) (w : World) : Calls Tryd.prog 25 #[.int .i64 x] w fun e w' => e = .returned (.int .i64 (zz x)) ∧ w' = w := by
  obtain ⟨x1, x2⟩ := hx
  by_cases h : x < 0
  · have V := Lib.hid (show zz x = -2 * x - 1 from if_pos h)
    have e1 : IntKind.i64.wrap (-2 * x) = -2 * x := by rw [IntKind.wrap_i64]; omega
    have e2 : IntKind.i64.wrap (-2 * x - 1) = -2 * x - 1 := by rw [IntKind.wrap_i64]; omega
    go_enter Tryd.func25, Tryd.ntmps25
    go_wp2_with fail
    go_ret
    exact ⟨by rw [V.out]; rfl, rfl⟩
  · have V := Lib.hid (show zz x = 2 * x from if_neg h)
    have e1 : IntKind.i64.wrap (2 * x) = 2 * x := by rw [IntKind.wrap_i64]; omega
    go_enter Tryd.func25, Tryd.ntmps25
    go_wp2_with fail
    go_ret
    exact ⟨by rw [V.out]; rfl, rfl⟩

/- few -/
def tot : List (List Pt) → Nat
  | [] => 0
  | l :: ls => l.length + tot ls
theorem tot_take (ls : List (List Pt)) {i : Nat} (h : i < ls.length) : tot (ls.take (i + 1)) = tot (ls.take i) + (ls.getD i []).length := by
  induction ls generalizing i with
  | nil => simp at h
  | cons l ls ih =>
    cases i with
    | zero => simp [tot]
    | succ i =>
      rw [List.take_succ_cons, List.take_succ_cons, tot, tot, ih (by simpa using h), List.getD_cons_succ]
      omega
theorem tot_le (ls : List (List Pt)) (i : Nat) : tot (ls.take i) ≤ tot ls := by
  induction ls generalizing i with
  | nil => simp [tot]
  | cons l ls ih =>
    cases i with
    | zero => simp [tot]
    | succ i => rw [List.take_succ_cons, tot, tot]; have := ih i; omega
theorem tot_mem {ls : List (List Pt)} {l : List Pt} (h : l ∈ ls) : l.length ≤ tot ls := by
  induction ls with
  | nil => cases h
  | cons m ls ih =>
    rw [tot]
    rcases List.mem_cons.1 h with rfl | h
    · omega
    · have := ih h; omega
def fewB (ls : List (List Pt)) : Bool := decide (ls.length + tot ls ≤ 9000)
set_option maxRecDepth 100000 in
set_option maxHeartbeats 4000000 in
theorem few_any {w : World} {k : Int} {v : Value} {ls : List (List Pt)} (h : RowsAt w v ls) (hm : ls.length ≤ 9223372036854775807) (hp : ∀ l ∈ ls, l.length ≤ 9223372036854700000) : Calls Tryd.prog 7 #[gv k v] w fun e w' => e = .returned (.bool (fewB ls)) ∧ Below w.heap.size w w' := by
  have A0 := h
  obtain ⟨a, cap, rfl⟩ := h.form
  obtain ⟨n, hn⟩ : ∃ n, ls.length = n := ⟨_, rfl⟩
  obtain ⟨B0, hB0⟩ : ∃ B0, w.heap.size = B0 := ⟨_, rfl⟩
  rw [hn]
  obtain ⟨W1, hW1⟩ : ∃ W1, w.alloc (.cells #[.int .i64 k, .slice a n cap] 24) = W1 := ⟨_, rfl⟩
  have r1 : Row W1 B0 24 [.int .i64 k, .slice a n cap] := by rw [← hW1, ← hB0]; exact Row.new _ _ _
  have q0 := r1.cell (i := 0) rfl; have q1 := r1.cell (i := 1) rfl
  have BB := Lib.hid (show Below w.heap.size w W1 by rw [← hW1]; exact (Below.refl _ _).alloc (Nat.le_refl _) _)
  have R1 := Lib.hid r1
  have HN := Lib.hid hn
  have HM := Lib.hid (show n ≤ 9223372036854775807 by omega)
  have HP := Lib.hid hp
  have AA := Lib.hid (A0.below BB.out)
  rw [hn] at AA
  clear A0 h r1 hn hm hp
  go_enter Tryd.func7, Tryd.ntmps7
  go_wp2_with fail
  clear q0 q1 hW1
  go_loopw [3, 4] (fun s t wr => ∃ i c : Nat, i ≤ n ∧ s = .int .i64 (c : Int) ∧ t = .int .i64 (i : Int) ∧ Hid (c = n + tot (ls.take i)) ∧ Hid (Below W1.heap.size W1 wr)) (fun _ s _ => n - (intOf s).toNat)
  case atStart => exact ⟨0, n, Nat.zero_le _, rfl, rfl, (show n = n + tot (ls.take 0) by simp [tot]), Below.refl _ _⟩
  case round =>
    obtain ⟨i, c, hi, rfl, rfl, GG, BW⟩ := hrel
    have r2 := R1.out.below BW.out R1.out.lt
    have q0 := r2.cell (i := 0) rfl; have q1 := r2.cell (i := 1) rfl
    clear r2
    by_cases hin : i < n
    · have kl : (i : Int) < (n : Int) := by omega
      by_cases hc : (c : Int) ≤ 9000
      · obtain ⟨ob, off, u, rfl, bl, o0, pu⟩ := (AA.out.below BW.out).at_ (j := i) (by rw [HN.out]; exact hin)
        obtain ⟨au, cu, rfl, _⟩ := pu.form
        have hlm : (ls.getD i []).length ≤ 9223372036854700000 := HP.out _ (by rw [List.getD, List.getElem?_eq_getElem (by rw [HN.out]; exact hin)]; exact List.getElem_mem _)
        obtain ⟨m, hm⟩ : ∃ m, (ls.getD i []).length = m := ⟨_, rfl⟩
        rw [hm] at o0 hlm
        have HMM := Lib.hid hm
        obtain ⟨k1, hk1⟩ : ∃ k1, i + 1 = k1 := ⟨_, rfl⟩
        have HK := Lib.hid hk1
        obtain ⟨c1, hc1⟩ : ∃ c1, c + m = c1 := ⟨_, rfl⟩
        have HC1 := Lib.hid hc1
        have k0 : (0 : Int) ≤ (i : Int) := by omega
        have e1 : (i : Int) + 1 = (k1 : Int) := by omega
        have e2 : IntKind.i64.wrap (k1 : Int) = (k1 : Int) := by rw [IntKind.wrap_i64]; have := HM.out; omega
        have e3 : (c : Int) + (m : Int) = (c1 : Int) := by omega
        have e4 : IntKind.i64.wrap (c1 : Int) = (c1 : Int) := by rw [IntKind.wrap_i64]; omega
        have G2 : Hid (c1 = n + tot (ls.take k1)) := by
          show c1 = n + tot (ls.take k1)
          rw [← hk1, tot_take _ (by rw [HN.out]; exact hin), HMM.out]; have := GG.out; omega
        clear hk1 hc1 bl pu hm hlm
        go_wp2_with fail
        go_roundw
        case measure => simp [intOf]; have := HK.out; omega
        case rel => exact ⟨k1, c1, by have := HK.out; omega, rfl, rfl, G2, BW⟩
      · have V := Lib.hid (show fewB ls = false by unfold fewB; exact decide_eq_false (by have := GG.out; have := tot_le ls i; have := HN.out; omega))
        clear GG
        go_wp2_with fail
        go_ret
        exact ⟨by rw [V.out]; rfl, by first | exact BB.out.trans (BW.out.mono BB.out.size) | (rw [← hB0]; exact BB.out.trans (BW.out.mono BB.out.size))⟩
    · have kl : ¬ (i : Int) < (n : Int) := by omega
      have ht : tot (ls.take i) = tot ls := by rw [List.take_of_length_le (by have := HN.out; omega)]
      by_cases hc : (c : Int) ≤ 9000
      · have V := Lib.hid (show fewB ls = true by unfold fewB; exact decide_eq_true (by have := GG.out; have := HN.out; omega))
        clear GG ht
        go_wp2_with fail
        go_ret
        exact ⟨by rw [V.out]; rfl, by first | exact BB.out.trans (BW.out.mono BB.out.size) | (rw [← hB0]; exact BB.out.trans (BW.out.mono BB.out.size))⟩
      · have V := Lib.hid (show fewB ls = false by unfold fewB; exact decide_eq_false (by have := GG.out; have := HN.out; omega))
        clear GG ht
        go_wp2_with fail
        go_ret
        exact ⟨by rw [V.out]; rfl, by first | exact BB.out.trans (BW.out.mono BB.out.size) | (rw [← hB0]; exact BB.out.trans (BW.out.mono BB.out.size))⟩
end Go.Proofs.YthlbenldgnjgcaaDoor
