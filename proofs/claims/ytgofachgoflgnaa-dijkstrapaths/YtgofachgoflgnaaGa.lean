/- graph: rows of arcs; Check, the program's and the reference's. -/
import Derived.Test.YtgofachgoflgnaaWa
import Derived.Deep.RegionHeld
namespace Go.Proofs.Ytgofachgoflgnaa
open Go.ChangeShapes Go.WideShapes Go.ChangeAt Go.RowKit Go.Joins Go.Deep

/- a row of arcs -/
def ArcsAt (w : World) (v : Value) (ars : List (Int × Int)) : Prop :=
  ∃ a cap, v = .slice a ars.length cap ∧ (a = none → ars = [] ∧ cap = 0) ∧ (ars = [] ∨ ∃ b off, a = some ⟨b, off, none⟩ ∧ b < w.heap.size ∧ ∀ j, j < ars.length → w.cell? ⟨b, off + j * 2, none⟩ = some (.int .i64 (ars.getD j (0, 0)).1) ∧ w.cell? ⟨b, off + j * 2 + 1, none⟩ = some (.int .i64 (ars.getD j (0, 0)).2))
theorem ArcsAt.below {w w' : World} {v : Value} {ars : List (Int × Int)} (h : ArcsAt w v ars) (hb : Below w.heap.size w w') : ArcsAt w' v ars := by
  obtain ⟨a, cap, h1, hz, h2⟩ := h
  refine ⟨a, cap, h1, hz, ?_⟩
  rcases h2 with h2 | ⟨b, off, e, hl, hc⟩
  · exact Or.inl h2
  · refine Or.inr ⟨b, off, e, by have := hb.size; omega, fun j hj => ?_⟩
    rw [hb.cell hl, hb.cell hl]; exact hc j hj
theorem ArcsAt.at_ {w : World} {a : Option Addr} {n cap j : Nat} {ars : List (Int × Int)} (h : ArcsAt w (.slice a n cap) ars) (hj : j < ars.length) : ∃ b off, a = some ⟨b, off, none⟩ ∧ w.cell? ⟨b, off + j * 2, none⟩ = some (.int .i64 (ars.getD j (0, 0)).1) ∧ w.cell? ⟨b, off + j * 2 + 1, none⟩ = some (.int .i64 (ars.getD j (0, 0)).2) := by
  obtain ⟨a', cap', e, _, h⟩ := h
  injection e with e1 e2 e3
  subst e1
  rcases h with h | ⟨b, off, e, hl, hc⟩
  · rw [h] at hj; exact absurd hj (by simp)
  · exact ⟨b, off, e, hc j hj⟩
def bad (N : Int) (a : Int × Int) : Prop := a.1 < 0 ∨ N ≤ a.1 ∨ a.2 < 0 ∨ N ≤ a.2
instance (N : Int) (a : Int × Int) : Decidable (bad N a) := by unfold bad; infer_instance
/- what Check says -/
def long (N : Int) (n : Nat) : Prop := N < 0 ∨ 1048576 < N ∨ 4194304 < (n : Int)
instance (N : Int) (n : Nat) : Decidable (long N n) := by unfold long; infer_instance
def chk (N : Int) (ars : List (Int × Int)) : Int := if long N ars.length then 5 else if ∃ a ∈ ars, bad N a then 2 else 0
theorem chk_long {N : Int} {ars : List (Int × Int)} (h : long N ars.length) : chk N ars = 5 := if_pos h
theorem chk_bad {N : Int} {ars : List (Int × Int)} (h : ¬ long N ars.length) {j : Nat} (hj : j < ars.length) (hb : bad N (ars.getD j (0, 0))) : chk N ars = 2 := by
  have hm : ars.getD j (0, 0) ∈ ars := by rw [List.getD, List.getElem?_eq_getElem hj]; exact List.getElem_mem hj
  unfold chk
  rw [if_neg h, if_pos ⟨ars.getD j (0, 0), hm, hb⟩]
theorem chk_ok {N : Int} {ars : List (Int × Int)} (h : ¬ long N ars.length) (hb : ∀ j, j < ars.length → ¬ bad N (ars.getD j (0, 0))) : chk N ars = 0 := by
  unfold chk
  rw [if_neg h, if_neg]
  rintro ⟨a, ha, hb'⟩
  obtain ⟨i, hi, e⟩ := List.getElem_of_mem ha
  refine hb i hi ?_
  rw [List.getD, List.getElem?_eq_getElem hi, Option.getD_some, e]; exact hb'
abbrev gv (N : Int) (v : Value) : Value := .agg #[.int .i64 N, v]
/- a block ars a row -/
def Row (w : World) (b : Nat) (T : TypeId) (cs : List Value) : Prop := w.heap[b]? = some (.cells cs.toArray T (0, 0))
theorem Row.cell {w : World} {b T i : Nat} {cs : List Value} {v : Value} (h : Row w b T cs) (hv : cs[i]? = some v) : w.cell? ⟨b, i, none⟩ = some v := by
  unfold Row at h; unfold World.cell?; rw [h]; simpa using hv
theorem Row.fr {w : World} {b T i : Nat} {cs : List Value} (h : Row w b T cs) : w.frozen? ⟨b, i, none⟩ = false := by
  unfold Row at h; unfold World.frozen?; rw [h]; simp
theorem Row.lt {w : World} {b T : Nat} {cs : List Value} (h : Row w b T cs) : b < w.heap.size := by
  by_cases hl : b < w.heap.size
  · exact hl
  · unfold Row at h; rw [Array.getElem?_eq_none (Nat.le_of_not_lt hl)] at h; cases h
theorem Row.set {w : World} {b T i : Nat} {cs : List Value} (h : Row w b T cs) (v : Value) : Row (w.setCell ⟨b, i, none⟩ v) b T (cs.set i v) := by
  unfold Row at h ⊢; rw [heap_setCell_same _ _ _ _ _ _ h]; simp
theorem Row.other {w : World} {b T : Nat} {cs : List Value} {a : Addr} {v : Value} (h : Row w b T cs) (hn : b ≠ a.block) : Row (w.setCell a v) b T cs := by
  unfold Row at h ⊢; rw [Below.heap_setCell _ _ _ _ hn]; exact h
theorem Row.same {w W : World} {b T : Nat} {cs : List Value} (h : Row w b T cs) (e : W.heap[b]? = w.heap[b]?) : Row W b T cs := by unfold Row; rw [e]; exact h
theorem Row.below {w W : World} {b T B : Nat} {cs : List Value} (h : Row w b T cs) (hb : Below B w W) (hn : b < B) : Row W b T cs := h.same (hb.block b hn)
theorem Row.alloc {w : World} {b T : Nat} {cs : List Value} (h : Row w b T cs) (o : Obj) : Row (w.alloc o) b T cs := h.same (Below.heap_alloc _ _ _ h.lt)
theorem Row.new (w : World) (T : TypeId) (cs : List Value) : Row (w.alloc (.cells cs.toArray T)) w.heap.size T cs := heap_alloc_new _ _
theorem check_long {N : Int} {n cap : Nat} {a : Option Addr} (hl : long N n) (w : World) : Calls Try.prog 25 #[gv N (.slice a n cap)] w fun e w' => e = .returned (.int .i64 5) ∧ Below w.heap.size w w' := by
  obtain ⟨W1, hW1⟩ : ∃ W1, w.alloc (.cells #[.int .i64 N, .slice a n cap] 24) = W1 := ⟨_, rfl⟩
  have r1 : Row W1 w.heap.size 24 [.int .i64 N, .slice a n cap] := by rw [← hW1]; exact Row.new _ _ _
  have q0 := r1.cell (i := 0) rfl; have q1 := r1.cell (i := 1) rfl
  have BB := Lib.hid (show Below w.heap.size w W1 by rw [← hW1]; exact (Below.refl _ _).alloc (Nat.le_refl _) _)
  clear r1
  unfold long at hl
  by_cases h0 : N < 0
  · clear hl
    go_enter Try.func25, Try.ntmps25
    go_wp2_with fail
    go_ret
    exact ⟨rfl, BB.out⟩
  · by_cases h1 : 1048576 < N
    · clear hl
      go_enter Try.func25, Try.ntmps25
      go_wp2_with fail
      go_ret
      exact ⟨rfl, BB.out⟩
    · have h2 : 4194304 < (n : Int) := by omega
      clear hl
      go_enter Try.func25, Try.ntmps25
      go_wp2_with fail
      go_ret
      exact ⟨rfl, BB.out⟩
set_option maxRecDepth 100000 in
set_option maxHeartbeats 4000000 in
theorem check_any {w : World} {N : Int} {v : Value} {ars : List (Int × Int)} (h : ArcsAt w v ars) : Calls Try.prog 25 #[gv N v] w fun e w' => e = .returned (.int .i64 (chk N ars)) ∧ Below w.heap.size w w' := by
  have A0 := h
  obtain ⟨a, cap, rfl, _⟩ := h
  by_cases hl : long N ars.length
  · rw [chk_long hl]; exact check_long hl w
  · have HL := Lib.hid hl
    have AA := Lib.hid A0
    obtain ⟨n, hn⟩ : ∃ n, ars.length = n := ⟨_, rfl⟩
    have HN := Lib.hid hn
    unfold long at hl
    rw [hn] at hl AA ⊢
    have n0 : ¬ N < 0 := by omega
    have n1 : ¬ 1048576 < N := by omega
    have n2 : ¬ 4194304 < (n : Int) := by omega
    obtain ⟨W1, hW1⟩ : ∃ W1, w.alloc (.cells #[.int .i64 N, .slice a n cap] 24) = W1 := ⟨_, rfl⟩
    have r1 : Row W1 w.heap.size 24 [.int .i64 N, .slice a n cap] := by rw [← hW1]; exact Row.new _ _ _
    have q0 := r1.cell (i := 0) rfl; have q1 := r1.cell (i := 1) rfl
    have BB := Lib.hid (show Below w.heap.size w W1 by rw [← hW1]; exact (Below.refl _ _).alloc (Nat.le_refl _) _)
    have R1 := Lib.hid r1
    have HC := Lib.hid n2
    clear r1 A0 hn hl
    go_enter Try.func25, Try.ntmps25
    go_wp2_with fail
    clear q0 q1 hW1
    go_loopw [22] (fun s wr => ∃ k : Nat, k ≤ n ∧ s = .int .i64 (k : Int) ∧ Hid (∀ j, j < k → ¬ bad N (ars.getD j (0, 0))) ∧ Hid (Below W1.heap.size W1 wr)) (fun s _ => n - (intOf s).toNat)
    case atStart => exact ⟨0, Nat.zero_le _, rfl, fun j hj => absurd hj (by omega), Below.refl _ _⟩
    case round =>
      obtain ⟨k, hk, rfl, GG, BW⟩ := hrel
      have bw : Below w.heap.size w wr := BB.out.trans (BW.out.mono BB.out.size)
      have BX := Lib.hid bw
      have rr := R1.out.below BW.out R1.out.lt
      have q0 := rr.cell (i := 0) rfl; have q1 := rr.cell (i := 1) rfl
      clear bw rr
      by_cases hkn : k < n
      · obtain ⟨b, off, rfl, o0, o1⟩ := (AA.out.below BX.out).at_ (j := k) (by rw [HN.out]; exact hkn)
        have BD := Lib.hid (fun hb => chk_bad HL.out (j := k) (by rw [HN.out]; exact hkn) hb)
        obtain ⟨⟨x, y⟩, hz⟩ : ∃ z, ars.getD k (0, 0) = z := ⟨_, rfl⟩
        rw [hz] at o0 o1 BD
        dsimp only at o0 o1
        have HZ := Lib.hid hz
        obtain ⟨k1, hk1⟩ : ∃ k1, k + 1 = k1 := ⟨_, rfl⟩
        have HK := Lib.hid hk1
        have k0 : (0 : Int) ≤ (k : Int) := by omega
        have kl : (k : Int) < (n : Int) := by omega
        have e1 : (k : Int) + 1 = (k1 : Int) := by omega
        have e2 : IntKind.i64.wrap (k1 : Int) = (k1 : Int) := by rw [IntKind.wrap_i64]; have := HC.out; omega
        obtain ⟨xb, hxb⟩ : ∃ xb, wr.heap.size = xb := ⟨_, rfl⟩
        obtain ⟨W2, hW2⟩ : ∃ W2, wr.alloc (.cells #[.int .i64 x, .int .i64 y] 47) = W2 := ⟨_, rfl⟩
        have r2 : Row W2 xb 47 [.int .i64 x, .int .i64 y] := by rw [← hW2, ← hxb]; exact Row.new _ _ _
        have b2 : Below wr.heap.size wr W2 := by rw [← hW2]; exact (Below.refl _ _).alloc (Nat.le_refl _) _
        have x0 := r2.cell (i := 0) rfl; have x1 := r2.cell (i := 1) rfl
        have rr := R1.out.below (BW.out.trans (b2.mono BW.out.size)) R1.out.lt
        have p0 := rr.cell (i := 0) rfl; have p1 := rr.cell (i := 1) rfl
        have B2 := Lib.hid (BW.out.trans (b2.mono BW.out.size))
        have BR := Lib.hid (BX.out.trans (b2.mono BX.out.size))
        clear r2 b2 rr hz hk1
        by_cases c0 : x < 0
        · have RV := Lib.hid (BD.out (Or.inl c0))
          go_wp2_with fail
          go_ret
          exact ⟨by rw [RV.out]; rfl, BR.out⟩
        · by_cases c1 : N ≤ x
          · have RV := Lib.hid (BD.out (Or.inr (Or.inl c1)))
            go_wp2_with fail
            go_ret
            exact ⟨by rw [RV.out]; rfl, BR.out⟩
          · by_cases c2 : y < 0
            · have RV := Lib.hid (BD.out (Or.inr (Or.inr (Or.inl c2))))
              go_wp2_with fail
              go_ret
              exact ⟨by rw [RV.out]; rfl, BR.out⟩
            · by_cases c3 : N ≤ y
              · have RV := Lib.hid (BD.out (Or.inr (Or.inr (Or.inr c3))))
                go_wp2_with fail
                go_ret
                exact ⟨by rw [RV.out]; rfl, BR.out⟩
              · have G2 : Hid (∀ j, j < k1 → ¬ bad N (ars.getD j (0, 0))) := by
                  intro j hj
                  by_cases e : j = k
                  · rw [e, HZ.out]; unfold bad; dsimp only; omega
                  · exact GG.out j (by have := HK.out; omega)
                clear GG BD
                go_wp2_with fail
                go_roundw
                case measure => simp [intOf]; have := HK.out; omega
                case rel => exact ⟨k1, by have := HK.out; omega, rfl, G2, B2⟩
      · have kl : ¬ (k : Int) < (n : Int) := by omega
        have RV : Hid (chk N ars = 0) := chk_ok HL.out (fun j hj => GG.out j (by rw [HN.out] at hj; omega))
        go_wp2_with fail
        go_ret
        exact ⟨by rw [RV.out]; rfl, BX.out⟩
theorem checkr_long {N : Int} {n cap : Nat} {a : Option Addr} (hl : long N n) (w : World) : Calls Try.prog 26 #[gv N (.slice a n cap)] w fun e w' => e = .returned (.int .i64 5) ∧ Below w.heap.size w w' := by
  obtain ⟨W1, hW1⟩ : ∃ W1, w.alloc (.cells #[.int .i64 N, .slice a n cap] 24) = W1 := ⟨_, rfl⟩
  have r1 : Row W1 w.heap.size 24 [.int .i64 N, .slice a n cap] := by rw [← hW1]; exact Row.new _ _ _
  have q0 := r1.cell (i := 0) rfl; have q1 := r1.cell (i := 1) rfl
  have BB := Lib.hid (show Below w.heap.size w W1 by rw [← hW1]; exact (Below.refl _ _).alloc (Nat.le_refl _) _)
  clear r1
  unfold long at hl
  by_cases h0 : N < 0
  · clear hl
    go_enter Try.func26, Try.ntmps26
    go_wp2_with fail
    go_ret
    exact ⟨rfl, BB.out⟩
  · by_cases h1 : 1048576 < N
    · clear hl
      go_enter Try.func26, Try.ntmps26
      go_wp2_with fail
      go_ret
      exact ⟨rfl, BB.out⟩
    · have h2 : 4194304 < (n : Int) := by omega
      clear hl
      go_enter Try.func26, Try.ntmps26
      go_wp2_with fail
      go_ret
      exact ⟨rfl, BB.out⟩
set_option maxRecDepth 100000 in
set_option maxHeartbeats 4000000 in
theorem checkr_any {w : World} {N : Int} {v : Value} {ars : List (Int × Int)} (h : ArcsAt w v ars) : Calls Try.prog 26 #[gv N v] w fun e w' => e = .returned (.int .i64 (chk N ars)) ∧ Below w.heap.size w w' := by
  have A0 := h
  obtain ⟨a, cap, rfl, _⟩ := h
  by_cases hl : long N ars.length
  · rw [chk_long hl]; exact checkr_long hl w
  · have HL := Lib.hid hl
    have AA := Lib.hid A0
    obtain ⟨n, hn⟩ : ∃ n, ars.length = n := ⟨_, rfl⟩
    have HN := Lib.hid hn
    unfold long at hl
    rw [hn] at hl AA ⊢
    have n0 : ¬ N < 0 := by omega
    have n1 : ¬ 1048576 < N := by omega
    have n2 : ¬ 4194304 < (n : Int) := by omega
    obtain ⟨W1, hW1⟩ : ∃ W1, w.alloc (.cells #[.int .i64 N, .slice a n cap] 24) = W1 := ⟨_, rfl⟩
    have r1 : Row W1 w.heap.size 24 [.int .i64 N, .slice a n cap] := by rw [← hW1]; exact Row.new _ _ _
    have q0 := r1.cell (i := 0) rfl; have q1 := r1.cell (i := 1) rfl
    have BB := Lib.hid (show Below w.heap.size w W1 by rw [← hW1]; exact (Below.refl _ _).alloc (Nat.le_refl _) _)
    have R1 := Lib.hid r1
    have HC := Lib.hid n2
    clear r1 A0 hn hl
    go_enter Try.func26, Try.ntmps26
    go_wp2_with fail
    clear q0 q1 hW1
    go_loopw [3] (fun s wr => ∃ k : Nat, k ≤ n ∧ s = .int .i64 (k : Int) ∧ Hid (∀ j, j < k → ¬ bad N (ars.getD j (0, 0))) ∧ Hid (Below W1.heap.size W1 wr)) (fun s _ => n - (intOf s).toNat)
    case atStart => exact ⟨0, Nat.zero_le _, rfl, fun j hj => absurd hj (by omega), Below.refl _ _⟩
    case round =>
      obtain ⟨k, hk, rfl, GG, BW⟩ := hrel
      have bw : Below w.heap.size w wr := BB.out.trans (BW.out.mono BB.out.size)
      have BX := Lib.hid bw
      have rr := R1.out.below BW.out R1.out.lt
      have q0 := rr.cell (i := 0) rfl; have q1 := rr.cell (i := 1) rfl
      clear bw rr
      by_cases hkn : k < n
      · obtain ⟨b, off, rfl, o0, o1⟩ := (AA.out.below BX.out).at_ (j := k) (by rw [HN.out]; exact hkn)
        have BD := Lib.hid (fun hb => chk_bad HL.out (j := k) (by rw [HN.out]; exact hkn) hb)
        obtain ⟨⟨x, y⟩, hz⟩ : ∃ z, ars.getD k (0, 0) = z := ⟨_, rfl⟩
        rw [hz] at o0 o1 BD
        dsimp only at o0 o1
        have HZ := Lib.hid hz
        obtain ⟨k1, hk1⟩ : ∃ k1, k + 1 = k1 := ⟨_, rfl⟩
        have HK := Lib.hid hk1
        have k0 : (0 : Int) ≤ (k : Int) := by omega
        have kl : (k : Int) < (n : Int) := by omega
        have e1 : (k : Int) + 1 = (k1 : Int) := by omega
        have e2 : IntKind.i64.wrap (k1 : Int) = (k1 : Int) := by rw [IntKind.wrap_i64]; have := HC.out; omega
        obtain ⟨xb, hxb⟩ : ∃ xb, wr.heap.size = xb := ⟨_, rfl⟩
        obtain ⟨W2, hW2⟩ : ∃ W2, wr.alloc (.cells #[.int .i64 x, .int .i64 y] 47) = W2 := ⟨_, rfl⟩
        have r2 : Row W2 xb 47 [.int .i64 x, .int .i64 y] := by rw [← hW2, ← hxb]; exact Row.new _ _ _
        have b2 : Below wr.heap.size wr W2 := by rw [← hW2]; exact (Below.refl _ _).alloc (Nat.le_refl _) _
        have x0 := r2.cell (i := 0) rfl; have x1 := r2.cell (i := 1) rfl
        have rr := R1.out.below (BW.out.trans (b2.mono BW.out.size)) R1.out.lt
        have p0 := rr.cell (i := 0) rfl; have p1 := rr.cell (i := 1) rfl
        have B2 := Lib.hid (BW.out.trans (b2.mono BW.out.size))
        have BR := Lib.hid (BX.out.trans (b2.mono BX.out.size))
        clear r2 b2 rr hz hk1
        by_cases c0 : x < 0
        · have RV := Lib.hid (BD.out (Or.inl c0))
          go_wp2_with fail
          go_ret
          exact ⟨by rw [RV.out]; rfl, BR.out⟩
        · by_cases c1 : N ≤ x
          · have RV := Lib.hid (BD.out (Or.inr (Or.inl c1)))
            go_wp2_with fail
            go_ret
            exact ⟨by rw [RV.out]; rfl, BR.out⟩
          · by_cases c2 : y < 0
            · have RV := Lib.hid (BD.out (Or.inr (Or.inr (Or.inl c2))))
              go_wp2_with fail
              go_ret
              exact ⟨by rw [RV.out]; rfl, BR.out⟩
            · by_cases c3 : N ≤ y
              · have RV := Lib.hid (BD.out (Or.inr (Or.inr (Or.inr c3))))
                go_wp2_with fail
                go_ret
                exact ⟨by rw [RV.out]; rfl, BR.out⟩
              · have G2 : Hid (∀ j, j < k1 → ¬ bad N (ars.getD j (0, 0))) := by
                  intro j hj
                  by_cases e : j = k
                  · rw [e, HZ.out]; unfold bad; dsimp only; omega
                  · exact GG.out j (by have := HK.out; omega)
                clear GG BD
                go_wp2_with fail
                go_roundw
                case measure => simp [intOf]; have := HK.out; omega
                case rel => exact ⟨k1, by have := HK.out; omega, rfl, G2, B2⟩
      · have kl : ¬ (k : Int) < (n : Int) := by omega
        have RV : Hid (chk N ars = 0) := chk_ok HL.out (fun j hj => GG.out j (by rw [HN.out] at hj; omega))
        go_wp2_with fail
        go_ret
        exact ⟨by rw [RV.out]; rfl, BX.out⟩
end Go.Proofs.Ytgofachgoflgnaa
