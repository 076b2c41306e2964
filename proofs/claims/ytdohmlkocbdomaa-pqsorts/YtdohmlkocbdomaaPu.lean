/- pq: PqSorts. -/
import Derived.Test.YtdohmlkocbdomaaPs
namespace Go.Proofs.Ytdohmlkocbdomaa
open Go.ChangeShapes Go.WideShapes Go.ChangeAt Go.RowKit Go.Joins Go.Deep

theorem info4 : (Try.prog.info? 4).map (fun i => (i.zero, i.size, i.bytes)) = some (some (.bool false), 1, 1) := by kernel_rfl
/- the row 'seen': what is not in the queue any more -/
def Seen (w : World) (sb : Nat) (ins : List Bool) : Prop := w.heap[sb]? = some (.cells (ins.map fun b => Value.bool (!b)).toArray 4 (0, 0))
theorem Seen.cell {w : World} {sb X : Nat} {ins : List Bool} (h : Seen w sb ins) (hX : X < ins.length) : w.cell? ⟨sb, X, none⟩ = some (.bool (!(ins.getD X false))) ∧ w.frozen? ⟨sb, X, none⟩ = false := by
  unfold Seen at h
  constructor
  · unfold World.cell?; rw [h]; simp [List.getD, hX]
  · unfold World.frozen?; rw [h]; simp
theorem Seen.set {w : World} {sb X : Nat} {ins : List Bool} (h : Seen w sb ins) : Seen (w.setCell ⟨sb, X, none⟩ (.bool true)) sb (ins.set X false) := by
  unfold Seen at h ⊢
  rw [heap_setCell_same _ _ _ _ _ _ h]
  congr 2
  rw [List.map_set]; simp
theorem Seen.lt {w : World} {sb : Nat} {ins : List Bool} (h : Seen w sb ins) : sb < w.heap.size := by
  by_cases hl : sb < w.heap.size
  · exact hl
  · unfold Seen at h; rw [Array.getElem?_eq_none (Nat.le_of_not_lt hl)] at h; cases h
/- the last item popped -/
def After (ks : List Int) (ins : List Bool) (i : Nat) (last item : Int) : Prop := i = 0 ∨ ∃ P : Nat, item = (P : Int) ∧ last = ks.getD P 0 ∧ ∀ Z, Z < ins.length → ins.getD Z false = true → leK ks P Z
structure Srt (w wr : World) (qb sb n i : Nat) (ks : List Int) (ins : List Bool) (last item : Int) : Prop where
  q : ∃ F, QI wr qb F ins ks ∧ (∀ k, F k → w.heap.size ≤ k) ∧ ¬ F sb
  b : Below w.heap.size w wr
  s : Seen wr sb ins
  sl : w.heap.size ≤ sb
  len : ins.length = n
  cnt : ins.count true + i = n
  af : After ks ins i last item
theorem sort_pop {w wr : World} {qb sb n i : Nat} {ks : List Int} {ins : List Bool} {last item : Int} (h : Srt w wr qb sb n i ks ins last item) (hi : i < n) : Calls Try.prog 17 #[qp qb] wr fun e w' => ∃ X : Nat, Least ins ks X ∧ e = .returned (.tuple #[.int .i64 X, .int .i64 (ks.getD X 0), .bool true]) ∧
    (∃ F, QI w' qb F (ins.set X false) ks ∧ (∀ k, F k → w.heap.size ≤ k) ∧ ¬ F sb) ∧ Below w.heap.size w w' ∧ Seen w' sb ins := by
  obtain ⟨F, I, l, nf⟩ := h.q
  refine (pop_qi I (by have := h.cnt; omega)).mono ?_
  rintro e w' ⟨X, hX, rfl, I', f⟩
  refine ⟨X, hX, rfl, ⟨F, I', l, nf⟩, h.b.trans (f.below h.b.size l), ?_⟩
  have := h.s
  unfold Seen at this ⊢
  rw [f.block sb h.s.lt nf]; exact this
theorem sort_next {w w' : World} {qb sb n i i1 X : Nat} {ks : List Int} {ins : List Bool} (hX : Least ins ks X) (q : ∃ F, QI w' qb F (ins.set X false) ks ∧ (∀ k, F k → w.heap.size ≤ k) ∧ ¬ F sb) (b : Below w.heap.size w w') (s : Seen w' sb ins) (sl : w.heap.size ≤ sb) (len : ins.length = n) (cnt : ins.count true + i = n) (hi : i + 1 = i1) :
    Srt w (w'.setCell ⟨sb, X, none⟩ (.bool true)) qb sb n i1 ks (ins.set X false) (ks.getD X 0) (X : Int) := by
  obtain ⟨F, I, l, nf⟩ := q
  have f : FrF (fun k => k = sb) w' (w'.setCell ⟨sb, X, none⟩ (.bool true)) := FrF.setCell (F := fun k => k = sb) w' (a := ⟨sb, X, none⟩) rfl _
  refine ⟨⟨F, I.frame f (fun k h1 h2 => nf (h2 ▸ h1)), l, nf⟩, b.setCell sl _, s.set, sl, by rw [List.length_set]; exact len, ?_, Or.inr ⟨X, rfl, rfl, fun Z hZ h => ?_⟩⟩
  · have := count_off ins X hX.lt hX.mem; omega
  · rw [List.length_set] at hZ
    rw [getD_setB _ _ _ _ hX.lt] at h
    by_cases e : X = Z
    · rw [if_pos e] at h; cases h
    · rw [if_neg e] at h; exact hX.min Z hZ h
theorem after_le {ks : List Int} {ins : List Bool} {i X : Nat} {last item : Int} (a : After ks ins i last item) (hX : Least ins ks X) (hi : 0 < i) : ∃ P : Nat, item = (P : Int) ∧ ¬ ks.getD X 0 < last ∧ (ks.getD X 0 = last → ¬ (X : Int) < (P : Int)) := by
  rcases a with h | ⟨P, h1, h2, h3⟩
  · omega
  · have := h3 X hX.lt hX.mem
    unfold leK bfr at this
    simp only [decide_eq_true_eq] at this
    exact ⟨P, h1, by omega, by omega⟩
set_option maxRecDepth 100000 in
set_option maxHeartbeats 4000000 in
theorem sorts_main {w : World} {a0 : Option Addr} {c0 n : Nat} {ks : List Int} (h0 : IntsAt w (.slice a0 n c0) ks) (hf : ks.length = n) (hn : n ≤ 200) :
    Calls Try.prog 4 #[.slice a0 n c0] w fun e w' => e = .returned (.bool true) ∧ Below w.heap.size w w' := by
  obtain ⟨j0, hji, hz0, hz1, hz2⟩ := info_parts info4
  have II := Lib.hid hji; have Z0 := Lib.hid hz0; have Z1 := Lib.hid hz1; have Z2 := Lib.hid hz2
  have A0 := Lib.hid h0; have HF := Lib.hid hf; have HN := Lib.hid hn
  have NE := Lib.hid (fun W => new_any n (by omega) W)
  have n1 : ¬ (200 : Int) < (n : Int) := by omega
  have nw : IntKind.i64.wrap ((n : Int) - 1) = (n : Int) - 1 := by rw [IntKind.wrap_i64]; omega
  clear h0 hf hn hji hz0 hz1 hz2
  go_enter Try.func4, Try.ntmps4
  go_wp2_with fail
  refine (NE.out _).mono ?_; rintro e w1 p1
  obtain ⟨qb, rfl, o⟩ := own_new p1
  have O1 := Lib.hid o
  clear p1 o
  go_wp2_with fail
  go_loopw [4] (fun s4 wr => ∃ j : Nat, j ≤ n ∧ s4 = .int .i64 ((j : Int) - 1) ∧ Hid (Own w wr qb (mix j (List.replicate n false) (List.replicate n true)) (mix j (List.replicate n 0) ks))) (fun s4 _ => (intOf s4 + 1).toNat)
  case atStart => exact ⟨n, Nat.le_refl _, rfl, by show Own _ _ _ _ _; rw [mix_all _ _ (by simp) (by simp), mix_all _ _ (by simp) HF.out]; exact O1.out⟩
  case round =>
    clear O1 nw
    obtain ⟨j, hj, rfl, T⟩ := hrel
    rcases j with _ | p
    · have e0 : (((0 : Nat) : Int) - 1) = -1 := by omega
      rw [e0]
      have T1 : Hid (Own w wr qb (List.replicate n true) ks) := by
        have t := T.out
        rw [mix_zero, mix_zero] at t
        exact t
      clear T
      obtain ⟨W1, hW1⟩ : ∃ W1, wr.alloc (.cells (madeCells #[.bool false] n) 4) = W1 := ⟨_, rfl⟩
      have S0 : Hid (Srt w W1 qb wr.heap.size n 0 ks (List.replicate n true) 0 0) := by
        obtain ⟨F, I, b, l⟩ := T1.out
        have f : FrF (fun _ => False) wr W1 := by rw [← hW1]; exact FrF.of_below ((Below.refl _ _).alloc (Nat.le_refl _) _)
        refine ⟨⟨F, I.frame f (fun _ _ h => h), l, fun h => by have := I.lt _ h; omega⟩, ?_, ?_, b.size, by simp, by rw [List.count_replicate]; simp, Or.inl rfl⟩
        · rw [← hW1]; exact b.alloc b.size _
        · unfold Seen
          rw [← hW1, heap_alloc_new]
          congr 2
          apply Array.ext'
          rw [toList_madeCells_one]; simp
      clear T1
      go_wp2_with (at_make; refine wpList_make_row _ rfl _ _ 26 rfl 4 j0 (.bool false) Try.underlying26 II.out Z0.out Z1.out rfl .i64 .i64 n rfl rfl (by rw [Z2.out]; have := HN.out; omega) (by have := HN.out; omega) ?_)
      obtain ⟨sb, hsb⟩ : ∃ sb, wr.heap.size = sb := ⟨_, rfl⟩
      rw [hsb] at S0 ⊢
      clear hsb hW1
      go_loopw [6, 7, 8] (fun s6 s7 s8 wq => ∃ (i : Nat) (ins : List Bool) (last item : Int), i ≤ n ∧ s6 = .int .i64 last ∧ s7 = .int .i64 item ∧ s8 = .int .i64 (i : Int) ∧ Hid (Srt w wq qb sb n i ks ins last item)) (fun _ _ s8 _ => n - (intOf s8).toNat)
      case atStart => exact ⟨0, _, 0, 0, Nat.zero_le _, rfl, rfl, rfl, S0⟩
      case round =>
        clear S0
        obtain ⟨i, ins, last, item, hi, rfl, rfl, rfl, ST⟩ := hrel
        by_cases hin : i < n
        · obtain ⟨i1, hi1⟩ : ∃ i1, i + 1 = i1 := ⟨_, rfl⟩
          have HI := Lib.hid hi1
          have il : (i : Int) < (n : Int) := by omega
          have w1' : (i : Int) + 1 = (i1 : Int) := by omega
          have w2' : IntKind.i64.wrap (i1 : Int) = (i1 : Int) := by rw [IntKind.wrap_i64]; have := HN.out; omega
          clear hi1
          go_wp2_with fail
          refine (sort_pop ST.out hin).mono ?_; rintro e w3 ⟨X, hX, rfl, q3, b3, s3⟩
          have hXn : X < n := by have := hX.lt; rw [ST.out.len] at this; exact this
          obtain ⟨bk, off, rfl, cx⟩ := A0.out.at_ (j := X) b3 (by rw [HF.out]; exact hXn)
          have NX := Lib.hid (sort_next (i1 := i1) hX q3 b3 s3 ST.out.sl ST.out.len ST.out.cnt HI.out)
          obtain ⟨sc, sf⟩ := s3.cell hX.lt
          rw [hX.mem] at sc
          have sc' : w3.cell? ⟨sb, X, none⟩ = some (.bool false) := sc
          have AF := Lib.hid (fun h => after_le ST.out.af hX h)
          obtain ⟨kx, hkx⟩ : ∃ kx, ks.getD X 0 = kx := ⟨_, rfl⟩
          rw [hkx] at cx NX AF ⊢
          have x0 : (0 : Int) ≤ (X : Int) := by omega
          have x0' : ¬ (X : Int) < 0 := by omega
          have x1 : (X : Int) < (n : Int) := by omega
          have x1' : ¬ (n : Int) ≤ (X : Int) := by omega
          clear hX q3 b3 s3 sc hkx ST hXn
          by_cases hz : 0 < i
          · obtain ⟨P, hP, f1, f2⟩ := AF.out hz
            obtain rfl : item = (P : Int) := hP
            have i0 : (0 : Int) < (i : Int) := by omega
            by_cases hk : kx = last
            · obtain rfl := hk
              have f3 := f2 rfl
              clear f2 f1 AF
              go_wp2_with fail
              go_roundw
              case measure => simp [intOf]; have := HI.out; omega
              case rel => exact ⟨i1, _, kx, X, by have := HI.out; omega, rfl, rfl, rfl, NX⟩
            · have f3 : (kx == last) = false := by simpa using hk
              clear f2 AF
              go_wp2_with fail
              go_roundw
              case measure => simp [intOf]; have := HI.out; omega
              case rel => exact ⟨i1, _, kx, X, by have := HI.out; omega, rfl, rfl, rfl, NX⟩
          · have i0 : ¬ (0 : Int) < (i : Int) := by omega
            clear AF
            go_wp2_with fail
            go_roundw
            case measure => simp [intOf]; have := HI.out; omega
            case rel => exact ⟨i1, _, kx, X, by have := HI.out; omega, rfl, rfl, rfl, NX⟩
        · have il : ¬ (i : Int) < (n : Int) := by omega
          obtain rfl : i = n := by omega
          obtain ⟨F, I, l, nf⟩ := ST.out.q
          have c0 : ins.count true = 0 := by have := ST.out.cnt; omega
          have PN := Lib.hid (pop_no I c0); have LN := Lib.hid (len_qi I)
          rw [c0] at LN
          have BB := Lib.hid ST.out.b
          clear I l nf c0 ST
          go_wp2_with fail
          refine PN.out.mono ?_; rintro e w' ⟨rfl, rfl⟩
          go_wp2_with fail
          refine LN.out.mono ?_; rintro e w' ⟨rfl, rfl⟩
          go_wp2_with fail
          refine (lives_any _).mono ?_; rintro e w3 ⟨rfl, b⟩
          have B2 := Lib.hid b
          clear b
          go_wp2_with fail
          go_ret
          exact ⟨rfl, BB.out.trans (B2.out.mono BB.out.size)⟩
    · have e0 : (((p + 1 : Nat) : Int) - 1) = (p : Int) := by omega
      rw [e0]
      have hpn : p < n := by omega
      have bel : Hid (Below w.heap.size w wr) := by obtain ⟨_, _, b, _⟩ := T.out; exact b
      obtain ⟨b, off, rfl, cx⟩ := A0.out.at_ (j := p) bel.out (by rw [HF.out]; exact hpn)
      obtain ⟨x, hx⟩ : ∃ x, ks.getD p 0 = x := ⟨_, rfl⟩
      rw [hx] at cx
      have HX := Lib.hid hx
      have p0 : (0 : Int) ≤ (p : Int) := by omega
      have p1 : (p : Int) < (n : Int) := by omega
      have w2' : IntKind.i64.wrap ((p : Int) - 1) = (p : Int) - 1 := by rw [IntKind.wrap_i64]; have := HN.out; omega
      clear hx e0
      go_wp2_with fail
      refine (own_set T.out (X := p) (by rw [mix_len _ _ _ (by simp)]; simpa using hpn) x).mono ?_; rintro e w3 ⟨rfl, t⟩
      have T2 : Hid (Own w w3 qb (mix p (List.replicate n false) (List.replicate n true)) (mix p (List.replicate n 0) ks)) := by
        rw [mix_down (by simp) (by simpa using hpn) (rep_get hpn), mix_down (by simp [HF.out]) (by simpa using hpn) (by rw [get_of_getD (by rw [HF.out]; exact hpn), HX.out])] at t
        exact t
      clear t T bel
      go_wp2_with fail
      go_roundw
      case measure => simp [intOf]
      case rel => exact ⟨p, by omega, rfl, T2⟩
theorem sorts_long {w : World} {a0 : Option Addr} {c0 n : Nat} (hn : 200 < n) :
    Calls Try.prog 4 #[.slice a0 n c0] w fun e w' => e = .returned (.bool true) ∧ Below w.heap.size w w' := by
  have n1 : (200 : Int) < (n : Int) := by omega
  clear hn
  go_enter Try.func4, Try.ntmps4
  go_wp2_with fail
  refine (lives_any _).mono ?_; rintro e w3 ⟨rfl, b⟩
  go_wp2_with fail
  go_ret
  exact ⟨rfl, b⟩
theorem pqSorts_walk (v0 : Value) (w : World) (h0 : ∃ l, IntsAt w v0 l) : Calls Try.prog 4 #[v0] w fun e w' => e = .returned (.bool true) ∧ Below w.heap.size w w' := by
  obtain ⟨fs, h0⟩ := h0
  have A0 := h0
  obtain ⟨a0, c0, rfl, _⟩ := h0
  by_cases hn : 200 < fs.length
  · exact sorts_long hn
  · exact sorts_main A0 rfl (by omega)
theorem pqSorts_open0 {H : Type} {enc : TypeId × Value → H} {W : World} {base b0 : Nat} {spare : Nat → Bool} {held : Bool} {r : Reach} {v : Value} {d : DataW H} {p : List MemPlace}
    (hv : Value.okWide Try.prog W r b0 27 v) (h : DataW.Trod enc Try.prog W base spare held 27 v d p) : ∃ l, IntsAt W v l := ints_open hv h
end Go.Proofs.Ytdohmlkocbdomaa
