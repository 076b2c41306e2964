/- Tiles: lists of tiles, and between. -/
import Derived.Test.YtoibhapjkeakbaaWf
import Derived.Maps.AppendAt
namespace Go.Proofs.Ytoibhapjkeakbaa
open Go.ChangeShapes Go.WideShapes Go.ChangeAt Go.RowKit Go.Joins Go.Deep

abbrev Tl := Int × Int × Int
def tcs (l : List Tl) : List Value := l.flatMap fun t => [.int .i64 t.1, .int .i64 t.2.1, .int .i64 t.2.2]
theorem tcs_append (l m : List Tl) : tcs (l ++ m) = tcs l ++ tcs m := by simp [tcs]
theorem tcs_len (l : List Tl) : (tcs l).length = l.length * 3 := by
  induction l with
  | nil => rfl
  | cons t l ih =>
    have e : tcs (t :: l) = [.int .i64 t.1, .int .i64 t.2.1, .int .i64 t.2.2] ++ tcs l := rfl
    rw [e, List.length_append, ih]; simp; omega
theorem tcs_at (l : List Tl) : ∀ i, i < l.length → (tcs l)[i * 3]? = some (.int .i64 (l.getD i (0, 0, 0)).1) ∧ (tcs l)[i * 3 + 1]? = some (.int .i64 (l.getD i (0, 0, 0)).2.1) ∧ (tcs l)[i * 3 + 2]? = some (.int .i64 (l.getD i (0, 0, 0)).2.2) := by
  induction l with
  | nil => intro i h; simp at h
  | cons t l ih =>
    intro i h
    have e : tcs (t :: l) = .int .i64 t.1 :: .int .i64 t.2.1 :: .int .i64 t.2.2 :: tcs l := rfl
    rw [e]
    cases i with
    | zero => simp
    | succ i =>
      obtain ⟨a, b, c⟩ := ih i (by simpa using h)
      rw [show (i + 1) * 3 = i * 3 + 3 by omega]
      refine ⟨?_, ?_, ?_⟩
      · simpa using a
      · rw [show i * 3 + 3 + 1 = (i * 3 + 1) + 3 by omega]; simpa using b
      · rw [show i * 3 + 3 + 2 = (i * 3 + 2) + 3 by omega]; simpa using c
def TsAt (w : World) (v : Value) (l : List Tl) : Prop :=
  ∃ a cap, v = .slice a l.length cap ∧ (l.length = 0 ∨ ∃ b off, a = some ⟨b, off, none⟩ ∧ b < w.heap.size ∧ ∀ i, i < l.length → w.cell? ⟨b, off + i * 3, none⟩ = some (.int .i64 (l.getD i (0, 0, 0)).1) ∧ w.cell? ⟨b, off + i * 3 + 1, none⟩ = some (.int .i64 (l.getD i (0, 0, 0)).2.1) ∧ w.cell? ⟨b, off + i * 3 + 2, none⟩ = some (.int .i64 (l.getD i (0, 0, 0)).2.2))
theorem TsAt.below {w w' : World} {v : Value} {l : List Tl} (h : TsAt w v l) (hb : Below w.heap.size w w') : TsAt w' v l := by
  obtain ⟨a, cap, h1, h3⟩ := h
  refine ⟨a, cap, h1, ?_⟩
  rcases h3 with h3 | ⟨b, off, e, hlt, hc⟩
  · exact Or.inl h3
  · refine Or.inr ⟨b, off, e, Nat.lt_of_lt_of_le hlt hb.size, fun i hi => ?_⟩
    obtain ⟨c1, c2, c3⟩ := hc i hi
    exact ⟨by rw [hb.cell (by exact hlt)]; exact c1, by rw [hb.cell (by exact hlt)]; exact c2, by rw [hb.cell (by exact hlt)]; exact c3⟩
theorem TsAt.form {w : World} {v : Value} {l : List Tl} (h : TsAt w v l) : ∃ a cap, v = .slice a l.length cap := by
  obtain ⟨a, cap, h1, _⟩ := h; exact ⟨a, cap, h1⟩
theorem TsAt.at {w : World} {a : Option Addr} {n cap : Nat} {l : List Tl} (h : TsAt w (.slice a n cap) l) {k : Nat} (hk : k < l.length) : ∃ b off, a = some ⟨b, off, none⟩ ∧ w.cell? ⟨b, off + k * 3, none⟩ = some (.int .i64 (l.getD k (0, 0, 0)).1) ∧ w.cell? ⟨b, off + k * 3 + 1, none⟩ = some (.int .i64 (l.getD k (0, 0, 0)).2.1) ∧ w.cell? ⟨b, off + k * 3 + 2, none⟩ = some (.int .i64 (l.getD k (0, 0, 0)).2.2) := by
  obtain ⟨a', cap', h1, h2⟩ := h
  injection h1 with e1 e2 e3
  subst e1
  rcases h2 with h2 | ⟨b, off, e, hl, hc⟩
  · omega
  · exact ⟨b, off, e, hc k hk⟩
theorem TsAt.of_row {w : World} {base : Nat} {v : Value} {l : List Tl} (h : w.ownsRow base 23 3 v l.length (tcs l)) : TsAt w v l := by
  rcases h.2 with ⟨rfl, h0⟩ | ⟨g, cap, cur, rfl, _, hg, h1, h2, h3, h4⟩
  · rw [List.length_eq_zero_iff] at h0; subst h0; exact ⟨none, 0, rfl, Or.inl rfl⟩
  · refine ⟨_, cap, rfl, Or.inr ⟨g, 0, rfl, ?_, fun i hi => ?_⟩⟩
    · by_cases hlt : g < w.heap.size
      · exact hlt
      · rw [Array.getElem?_eq_none (Nat.le_of_not_lt hlt)] at hg; cases hg
    · have key : ∀ j u, j < l.length * 3 → (tcs l)[j]? = some u → w.cell? ⟨g, j, none⟩ = some u := by
        intro j u hj hu
        rw [← h4, List.getElem?_take, if_pos hj] at hu
        unfold World.cell?
        rw [hg]
        simpa using hu
      obtain ⟨a, b, c⟩ := tcs_at l i hi
      simp only [Nat.zero_add]
      exact ⟨key _ _ (by omega) a, key _ _ (by omega) b, key _ _ (by omega) c⟩
theorem row_form {w : World} {base : Nat} {v : Value} {n : Nat} {xs : List Value} (h : w.ownsRow base 23 3 v n xs) : ∃ a cap, v = .slice a n cap := by
  rcases h.2 with ⟨rfl, rfl⟩ | ⟨g, cap, cur, rfl, _⟩
  · exact ⟨none, 0, rfl⟩
  · exact ⟨_, cap, rfl⟩
theorem row_base {w : World} {base : Nat} {v : Value} {n : Nat} {xs : List Value} (h : w.ownsRow base 23 3 v n xs) : ∀ k, v.ownBlock = some k → base ≤ k := by
  rcases h.2 with ⟨rfl, rfl⟩ | ⟨g, cap, cur, rfl, hb, _⟩
  · intro k e; cases e
  · intro k e; injection e with e; subst e; exact hb
theorem Try.info23 : (Try.prog.info? 23).map (fun i => (i.zero, i.size, i.bytes)) = some (some (.agg #[.int .i64 0, .int .i64 0, .int .i64 0]), 3, 24) := by kernel_rfl
theorem info_parts {t : TypeId} {z : Option Value} {s b : Nat} (h : (Try.prog.info? t).map (fun i => (i.zero, i.size, i.bytes)) = some (z, s, b)) : ∃ i, Try.prog.info? t = some i ∧ i.zero = z ∧ i.size = s ∧ i.bytes = b := by
  cases hi : Try.prog.info? t with
  | none => rw [hi] at h; cases h
  | some i => rw [hi] at h; simp at h; exact ⟨i, rfl, h.1, h.2.1, h.2.2⟩
theorem row_more {w2 w3 w4 : World} {o : Obj} {O : List Tl} {t : Tl} {v v' : Value} (B : Below w2.heap.size w2 w3) (R : w3.ownsRow w2.heap.size 23 3 v O.length (tcs O)) (hg : (w3.alloc o).grownBy w4 v.ownBlock) (hr : w4.ownsRow w2.heap.size 23 3 v' (O.length + 1) (tcs O ++ [.int .i64 t.1, .int .i64 t.2.1, .int .i64 t.2.2])) :
    Below w2.heap.size w2 w4 ∧ w4.ownsRow w2.heap.size 23 3 v' (O ++ [t]).length (tcs (O ++ [t])) := by
  refine ⟨(B.alloc B.size o).grown hg (by have := B.size; simp; omega) (row_base R), ?_⟩
  have e : (O ++ [t]).length = O.length + 1 := by simp
  rw [e, tcs_append]; exact hr
theorem cells3_new (w : World) (x y z : Value) (t : TypeId) : ∀ j u, [x, y, z][j]? = some u → (w.alloc (.cells #[x, y, z] t)).cell? ((⟨w.heap.size, 0, none⟩ : Addr).add j) = some u := by
  intro j u hj
  match j, hj with
  | 0, hj => simp at hj; subst hj; simp [Addr.add]
  | 1, hj => simp at hj; subst hj; simp [Addr.add]
  | 2, hj => simp at hj; subst hj; simp [Addr.add]
/-- A row of tiles, and rows of them. -/
def rowT (z x y : Int) (m : Nat) : List Tl := (List.range m).map fun (c : Nat) => (z, x + (c : Int), y)
def btw (z x y : Int) (m n : Nat) : List Tl := (List.range n).flatMap fun (r : Nat) => rowT z x (y + (r : Int)) m
theorem rowT_succ (z x y : Int) (m : Nat) : rowT z x y (m + 1) = rowT z x y m ++ [(z, x + (m : Int), y)] := by simp [rowT, List.range_succ]
theorem btw_succ (z x y : Int) (m n : Nat) : btw z x y m (n + 1) = btw z x y m n ++ rowT z x (y + (n : Int)) m := by simp [btw, List.range_succ]
theorem rowT_len (z x y : Int) (m : Nat) : (rowT z x y m).length = m := by simp [rowT]
theorem btw_len (z x y : Int) (m n : Nat) : (btw z x y m n).length = n * m := by
  induction n with
  | zero => simp [btw]
  | succ n ih => rw [btw_succ, List.length_append, ih, rowT_len]; grind
set_option maxRecDepth 100000 in
set_option maxHeartbeats 8000000 in
theorem between_any (z x y u x1 y1 : Int) (m n : Nat) (w : World) (hx0 : 0 ≤ x) (hx1 : x ≤ 1000) (hy0 : 0 ≤ y) (hy1 : y ≤ 1000) (hm : m ≤ 128) (hn : n ≤ 128) (ex : x1 - x + 1 = (m : Int)) (ey : y1 - y + 1 = (n : Int)) :
    Calls Try.prog 38 #[tl z x y, tl u x1 y1] w fun e w' => ∃ v, e = .returned v ∧ TsAt w' v (btw z x y m n) ∧ Below w.heap.size w w' := by
  obtain ⟨i0, hi, hz0, hz1, hz2⟩ := info_parts Try.info23
  have II := Lib.hid hi; have Z0 := Lib.hid hz0; have Z1 := Lib.hid hz1; have Z2 := Lib.hid hz2
  clear hi hz0 hz1 hz2
  go_enter Try.func38, Try.ntmps38
  go_wp2_with fail
  have HB0 := Lib.hid (((Below.refl w.heap.size w).alloc (Nat.le_refl _) (.cells #[.int .i64 z, .int .i64 x, .int .i64 y] 23)).alloc (by simp) (.cells #[.int .i64 u, .int .i64 x1, .int .i64 y1] 23))
  have C : ∀ W, W = ((w.alloc (.cells #[.int .i64 z, .int .i64 x, .int .i64 y] 23)).alloc (.cells #[.int .i64 u, .int .i64 x1, .int .i64 y1] 23)) → W.cell? ⟨w.heap.size, 0, none⟩ = some (.int .i64 z) ∧ W.cell? ⟨w.heap.size, 1, none⟩ = some (.int .i64 x) ∧ W.cell? ⟨w.heap.size, 2, none⟩ = some (.int .i64 y) ∧ W.cell? ⟨w.heap.size + 1, 1, none⟩ = some (.int .i64 x1) := by
    intro W e; subst e
    exact ⟨by go_simp, by go_simp, by go_simp, by go_simp⟩
  have C0 := Lib.hid (C _ rfl); clear C
  generalize ((w.alloc (.cells #[.int .i64 z, .int .i64 x, .int .i64 y] 23)).alloc (.cells #[.int .i64 u, .int .i64 x1, .int .i64 y1] 23)) = W0 at HB0 C0 ⊢
  go_loopw [5, 14] (fun s5 s14 wr => ∃ k : Nat, k ≤ n ∧ s14 = .int .i64 (k : Int) ∧ Hid (wr.ownsRow W0.heap.size 23 3 s5 (btw z x y m k).length (tcs (btw z x y m k))) ∧ Hid (Below W0.heap.size W0 wr)) (fun _ s14 _ => n - (intOf s14).toNat)
  case atStart => exact ⟨0, by omega, rfl, World.ownsRow_nil _ _ _ _, Below.refl _ _⟩
  case round =>
    obtain ⟨k, hk, rfl, RO, BB⟩ := hrel
    obtain ⟨a5, c5, rfl⟩ := row_form RO.out
    by_cases hkn : k < n
    · obtain ⟨d0, d1, d2, d3⟩ := C0.out
      have f0 := old BB.out d0; have f1 := old BB.out d1; have f2 := old BB.out d2; have f3 := old BB.out d3
      clear d0 d1 d2 d3
      go_wp2_with fail
      clear f0 f1 f2 f3
      go_loopw [5, 23] (fun s5 s23 wr => ∃ j : Nat, j ≤ m ∧ s23 = .int .i64 (j : Int) ∧ Hid (wr.ownsRow W0.heap.size 23 3 s5 (btw z x y m k ++ rowT z x (y + (k : Int)) j).length (tcs (btw z x y m k ++ rowT z x (y + (k : Int)) j))) ∧ Hid (Below W0.heap.size W0 wr)) (fun _ s23 _ => m - (intOf s23).toNat)
      case atStart => exact ⟨0, by omega, rfl, (by have r := RO.out; simpa [Hid, rowT] using r), BB⟩
      case round =>
        clear RO BB
        obtain ⟨j, hj, rfl, RO, BB⟩ := hrel
        obtain ⟨a5, c5, rfl⟩ := row_form RO.out
        by_cases hjm : j < m
        · obtain ⟨d0, d1, d2, d3⟩ := C0.out
          have f0 := old BB.out d0; have f1 := old BB.out d1; have f2 := old BB.out d2
          clear d0 d1 d2 d3
          have hol : (btw z x y m k ++ rowT z x (y + (k : Int)) j).length ≤ 20000 := by
            rw [List.length_append, btw_len, rowT_len]
            have : k * m ≤ 128 * 128 := Nat.mul_le_mul (by omega) hm
            omega
          obtain ⟨L, hL⟩ : ∃ L, btw z x y m k ++ rowT z x (y + (k : Int)) j = L := ⟨_, rfl⟩
          rw [hL] at hol RO ⊢
          have HL := Lib.hid hL; clear hL
          have hbs : W0.heap.size ≤ wr.heap.size := BB.out.size
          go_wp2_with (at_builtin; refine wpList_append_own_at _ rfl _ _ 46 rfl W0.heap.size 23 i0 (.agg #[.int .i64 0, .int .i64 0, .int .i64 0]) 3 24 Try.underlying46 II.out Z0.out Z1.out Z2.out rfl (by decide) _ _ _ rfl (RO.out.alloc _) ⟨wr.heap.size, 0, none⟩ 1 1 [.int .i64 z, .int .i64 (x + (j : Int)), .int .i64 (y + (k : Int))] rfl rfl (cells3_new _ _ _ _ _) (by simp [Value.oneCell']) (by unfold maxLen; omega) (by omega) (by simp; omega) ?_; intro v' w4 hown' hgrow hnil hloc; obtain ⟨a', cap', hv'⟩ := row_form hown'; subst hv'; have R4 := Lib.hid hown'; have G4 := Lib.hid hgrow; clear hown' hgrow hloc hnil)
          have RM := row_more (t := (z, x + (j : Int), y + (k : Int))) BB.out RO.out G4.out R4.out
          have R5 := Lib.hid RM.2; have B5 := Lib.hid RM.1; clear RM
          go_roundw
          case rel => exact ⟨j + 1, by omega, by go_num, (by show World.ownsRow _ _ _ _ _ _ _; rw [rowT_succ, ← List.append_assoc, HL.out]; exact R5.out), B5⟩
          case measure => simp [intOf]; omega
        · obtain rfl : j = m := by omega
          go_wp2
          go_roundw
          case rel => exact ⟨k + 1, by omega, by go_num, (by show World.ownsRow _ _ _ _ _ _ _; rw [btw_succ]; exact RO.out), BB⟩
          case measure => simp [intOf]; omega
    · obtain rfl : k = n := by omega
      go_wp2
      go_ret
      exact ⟨_, rfl, TsAt.of_row RO.out, HB0.out.trans (BB.out.mono HB0.out.size)⟩
end Go.Proofs.Ytoibhapjkeakbaa
