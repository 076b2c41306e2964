/- graph: Neighbours. -/
import Derived.Test.YthfecllgkldgfaaGj
namespace Go.Proofs.Ythfecllgkldgfaa
open Go.ChangeShapes Go.WideShapes Go.ChangeAt Go.RowKit Go.Joins Go.Deep

theorem grown_drew {w w' : World} {row : Option Nat} (h : w.drew.grownBy w' row) : w.grownBy w' row := ⟨h.os, h.tape, h.output, h.size, h.block⟩
theorem one_new (w : World) (x : Value) (t : TypeId) : ∀ j u, [x][j]? = some u → (w.alloc (.cells #[x] t)).drew.cell? ((⟨w.heap.size, 0, none⟩ : Addr).add j) = some u := fun j u h => cell_one_new w x t j u h
/- blocks that an append leaves alone -/
theorem rr_other {w w4 : World} {base ob n k : Nat} {vs : List Value} {ls : List (List Int)} {o : Obj} {v' : Value} (_r : RR w base ob n vs ls) (_hk : k < n) (gr : (w.alloc o).grownBy w4 (vs.getD k nilV).ownBlock) :
    ∀ q, q < w.heap.size → (vs.getD k nilV).ownBlock ≠ some q → q ≠ ob → (w4.setCell ⟨ob, k, none⟩ v').heap[q]? = w.heap[q]? := by
  intro q h1 h2 h3
  rw [Below.heap_setCell _ _ _ _ (by exact h3), gr.block q (by rw [World.size_alloc]; omega) (fun e => h2 e.symm), Below.heap_alloc _ _ _ h1]
theorem al_keep {w : World} {xb ob p : Nat} {u v z : Value} {o : Obj} (h : w.cell? ⟨xb, 0, none⟩ = some u ∧ w.cell? ⟨xb, 1, none⟩ = some v ∧ w.cell? ⟨ob, p, none⟩ = some z) : (w.alloc o).drew.cell? ⟨xb, 0, none⟩ = some u ∧ (w.alloc o).drew.cell? ⟨xb, 1, none⟩ = some v ∧ (w.alloc o).drew.cell? ⟨ob, p, none⟩ = some z := by
  have b : Below w.heap.size w (w.alloc o).drew := ((Below.refl _ _).alloc (Nat.le_refl _) o).drew
  exact ⟨by rw [b.cell (cell_lt h.1)]; exact h.1, by rw [b.cell (cell_lt h.2.1)]; exact h.2.1, by rw [b.cell (cell_lt h.2.2)]; exact h.2.2⟩
theorem ap_keep {w w7 : World} {xb ob p : Nat} {u v z : Value} {o : Obj} {row : Option Nat} (gr : (w.alloc o).grownBy w7 row) (hx : Row w xb 45 [u, v]) (ho : ob < w.heap.size) (n1 : row ≠ some xb) (n2 : row ≠ some ob) (hz : w.cell? ⟨ob, p, none⟩ = some z) :
    w7.cell? ⟨xb, 0, none⟩ = some u ∧ w7.cell? ⟨xb, 1, none⟩ = some v ∧ w7.cell? ⟨ob, p, none⟩ = some z := by
  have sa : (w.alloc o).heap.size = w.heap.size + 1 := World.size_alloc _ _
  have e1 : w7.heap[xb]? = w.heap[xb]? := by rw [gr.block xb (by have := hx.lt; omega) (fun e => n1 e.symm), Below.heap_alloc _ _ _ hx.lt]
  have e2 : w7.heap[ob]? = w.heap[ob]? := by rw [gr.block ob (by omega) (fun e => n2 e.symm), Below.heap_alloc _ _ _ ho]
  have r := hx.same e1
  exact ⟨r.cell (i := 0) rfl, r.cell (i := 1) rfl, by rw [World.cell?_of_block (w := w) (a := ⟨ob, p, none⟩) e2]; exact hz⟩
/- what one arc adds -/
def addN (ls : List (List Int)) (a : Int × Int) : List (List Int) :=
  if a.1 = a.2 then ls else
    let l1 := ls.set a.1.toNat (ls.getD a.1.toNat [] ++ [a.2])
    l1.set a.2.toNat (l1.getD a.2.toNat [] ++ [a.1])
def nbs (l : List (Int × Int)) (k m : Nat) : List (List Int) := (l.take k).foldl addN (List.replicate m [])
theorem nbs_succ {l : List (Int × Int)} {k m : Nat} (h : k < l.length) : nbs l (k + 1) m = addN (nbs l k m) (l.getD k (0, 0)) := by
  unfold nbs
  rw [List.take_add_one, List.getElem?_eq_getElem h, List.foldl_append, List.getD, List.getElem?_eq_getElem h]; rfl
theorem set_bound {ls : List (List Int)} {B i : Nat} {x : Int} (h : ∀ j, (ls.getD j []).length ≤ B) : ∀ j, ((ls.set i (ls.getD i [] ++ [x])).getD j []).length ≤ B + 1 := by
  intro j
  by_cases hi : i < ls.length
  · rw [getD_setL _ _ _ _ hi]
    by_cases e : i = j
    · rw [if_pos e, List.length_append]; have := h i; show _ + 1 ≤ _; omega
    · rw [if_neg e]; have := h j; omega
  · rw [List.set_eq_of_length_le (by omega)]; have := h j; omega
theorem addN_bound {ls : List (List Int)} {B : Nat} {a : Int × Int} (h : ∀ j, (ls.getD j []).length ≤ B) : ∀ j, ((addN ls a).getD j []).length ≤ B + 2 := by
  unfold addN
  split
  · intro j; have := h j; omega
  · exact set_bound (set_bound h)
theorem nbs_bound (l : List (Int × Int)) (m : Nat) : ∀ k, k ≤ l.length → ∀ j, ((nbs l k m).getD j []).length ≤ 2 * k := by
  intro k
  induction k with
  | zero =>
    intro _ j
    unfold nbs
    rw [List.take_zero, List.foldl_nil, List.getD, List.getElem?_replicate]; split <;> simp
  | succ k ih =>
    intro hk j
    rw [nbs_succ (by omega)]
    have := addN_bound (a := l.getD k (0, 0)) (ih (by omega)) j
    omega
/- rows of numbers that are only read, in a row of the call's own -/
structure NS (w : World) (ob m : Nat) (vs : List Value) (ss : List (List Int)) : Prop where
  o : Row w ob 22 vs
  vl : vs.length = m
  ll : ss.length = m
  i : ∀ k, k < m → IntsAt w (vs.getD k nilV) (ss.getD k [])
theorem ints_off {w : World} {ob k : Nat} {vs : List Value} {x v : Value} {l : List Int} (ro : Row w ob 22 vs) (hs : ∀ j, j < vs.length → ∃ a n c, vs.getD j nilV = .slice a n c) (h : IntsAt w v l) : IntsAt (w.setCell ⟨ob, k, none⟩ x) v l := by
  obtain ⟨a, cap, h1, hc, h2⟩ := h
  refine ⟨a, cap, h1, hc, ?_⟩
  rcases h2 with h2 | ⟨b, off, e, hb, hcell⟩
  · exact Or.inl h2
  · by_cases hz : l = []
    · exact Or.inl hz
    · right
      have hlen : 0 < l.length := by
        cases l with
        | nil => exact absurd rfl hz
        | cons _ _ => simp
      have hne : b ≠ ob := by
        intro e2
        have c0 := hcell 0 hlen
        rw [e2] at c0
        unfold Row at ro
        unfold World.cell? at c0
        rw [ro] at c0
        simp at c0
        have hlt : off < vs.length := (List.getElem?_eq_some_iff.1 c0).1
        obtain ⟨a2, n2, c2, hh⟩ := hs off hlt
        rw [List.getD, c0] at hh
        cases hh
      refine ⟨b, off, e, by simpa using hb, fun j hj => ?_⟩
      rw [World.cell?_of_block (w := w) (a := ⟨b, off + j, none⟩) (Below.heap_setCell _ _ _ _ (by exact hne))]
      exact hcell j hj
theorem NS.slices {w : World} {ob m : Nat} {vs : List Value} {ss : List (List Int)} (h : NS w ob m vs ss) : ∀ j, j < vs.length → ∃ a n c, vs.getD j nilV = .slice a n c := fun j hj => by
  obtain ⟨a, c, e⟩ := (h.i j (by rw [← h.vl]; exact hj)).form
  exact ⟨a, _, c, e⟩
theorem NS.keep {w W : World} {ob m : Nat} {vs : List Value} {ss : List (List Int)} (h : NS w ob m vs ss) (b : Below w.heap.size w W) : NS W ob m vs ss := ⟨h.o.below b h.o.lt, h.vl, h.ll, fun k hk => (h.i k hk).below b⟩
theorem NS.set {w : World} {ob m t : Nat} {vs : List Value} {ss : List (List Int)} {v : Value} {s : List Int} (h : NS w ob m vs ss) (hv : IntsAt w v s) (ht : t < m) : NS (w.setCell ⟨ob, t, none⟩ v) ob m (vs.set t v) (ss.set t s) := by
  refine ⟨h.o.set _, by rw [List.length_set]; exact h.vl, by rw [List.length_set]; exact h.ll, fun k hk => ?_⟩
  rw [getD_setV _ _ _ _ (by rw [h.vl]; exact ht), getD_setL _ _ _ _ (by rw [h.ll]; exact ht)]
  by_cases e : t = k
  · rw [if_pos e, if_pos e]; exact ints_off h.o h.slices hv
  · rw [if_neg e, if_neg e]; exact ints_off h.o h.slices (h.i k hk)
theorem NS.rows {w : World} {ob m cap : Nat} {vs : List Value} {ss : List (List Int)} (h : NS w ob m vs ss) : RowsAt w (.slice (some ⟨ob, 0, none⟩) m cap) ss := by
  refine ⟨_, cap, by rw [h.ll], Or.inr ⟨ob, rfl, fun j hj => ⟨vs.getD j nilV, h.o.cell ?_, h.i j (by rw [← h.ll]; exact hj)⟩⟩⟩
  rw [List.getD, List.getElem?_eq_getElem (by rw [h.vl, ← h.ll]; exact hj)]; rfl
theorem NS.cell {w : World} {ob m t : Nat} {vs : List Value} {ss : List (List Int)} (h : NS w ob m vs ss) (ht : t < m) : w.cell? ⟨ob, t, none⟩ = some (vs.getD t nilV) := by
  refine h.o.cell ?_
  rw [List.getD, List.getElem?_eq_getElem (by rw [h.vl]; exact ht)]; rfl
def Done (L ss : List (List Int)) (m t : Nat) : Prop := ∀ j, j < m → (ss.getD j []).length ≤ 1000000 ∧ (j < t → IsSet (L.getD j []) (ss.getD j [])) ∧ (¬ j < t → ss.getD j [] = L.getD j [])
def NbPost (ars : List (Int × Int)) (m : Nat) (w : World) (e : Ending) (w' : World) : Prop := ∃ u ss, e = .returned u ∧ RowsAt w' u ss ∧ ss.length = m ∧ (∀ j, j < m → IsSet ((nbs ars ars.length m).getD j []) (ss.getD j []) ∧ (ss.getD j []).length ≤ 1000000) ∧ Below w.heap.size w w'
set_option maxRecDepth 100000 in
set_option maxHeartbeats 8000000 in
theorem nb_any {w : World} {m : Nat} {v : Value} {ars : List (Int × Int)} (h : ArcsAt w v ars) (hc : chk (m : Int) ars = 0) (hl1 : ars.length ≤ 400000) : Calls Try.prog 42 #[gv (m : Int) v] w (NbPost ars m w) := by
  obtain ⟨i0, hi, hz0, hz1, hz2⟩ := Go.info_parts Try.info3
  have II := Lib.hid hi; have Z0 := Lib.hid hz0; have Z1 := Lib.hid hz1; have Z2 := Lib.hid hz2
  clear hi hz0 hz1 hz2
  obtain ⟨j0, hi, hz0, hz1, hz2⟩ := Go.info_parts info22
  have JI := Lib.hid hi; have Y0 := Lib.hid hz0; have Y1 := Lib.hid hz1; have Y2 := Lib.hid hz2
  clear hi hz0 hz1 hz2
  obtain ⟨nl, nb⟩ := chk_zero hc
  have NB := Lib.hid nb
  unfold long at nl
  have hm : m ≤ 1048576 := by omega
  have A0 := h
  obtain ⟨a, cap, rfl, _⟩ := h
  have CK := Lib.hid (fun W (b : Below w.heap.size w W) => check_any (N := (m : Int)) (A0.below b))
  have AA := Lib.hid A0
  obtain ⟨n, hn⟩ : ∃ n, ars.length = n := ⟨_, rfl⟩
  have HN := Lib.hid hn; have HM := Lib.hid hm; have HL := Lib.hid hl1
  rw [hn] at CK AA ⊢
  rw [hc] at CK
  obtain ⟨W1, hW1⟩ : ∃ W1, w.alloc (.cells #[.int .i64 (m : Int), .slice a n cap] 33) = W1 := ⟨_, rfl⟩
  have r1 : Row W1 w.heap.size 33 [.int .i64 (m : Int), .slice a n cap] := by rw [← hW1]; exact Row.new _ _ _
  have q0 := r1.cell (i := 0) rfl; have q1 := r1.cell (i := 1) rfl
  have R1 := Lib.hid r1
  have BB := Lib.hid (show Below w.heap.size w W1 by rw [← hW1]; exact (Below.refl _ _).alloc (Nat.le_refl _) _)
  clear r1 A0 hn hc hm hl1 nl nb
  go_enter Try.func42, Try.ntmps42
  go_wp2_with fail
  refine (CK.out _ BB.out).mono ?_; rintro e w3 ⟨rfl, b⟩
  have B3 := Lib.hid (BB.out.trans (b.mono BB.out.size))
  have r3 := R1.out.below b R1.out.lt
  have R3 := Lib.hid r3
  have q0' := r3.cell (i := 0) rfl; have q1' := r3.cell (i := 1) rfl
  clear b r3 q0 q1 hW1
  obtain ⟨W4, hW4⟩ : ∃ W4, w3.alloc (.cells (madeCells #[nilV] m) 22) = W4 := ⟨_, rfl⟩
  obtain ⟨ob, hob⟩ : ∃ ob, w3.heap.size = ob := ⟨_, rfl⟩
  have b4 : Below w3.heap.size w3 W4 := by rw [← hW4]; exact (Below.refl _ _).alloc (Nat.le_refl _) _
  have r4 := R3.out.below b4 R3.out.lt
  have p0 := r4.cell (i := 0) rfl; have p1 := r4.cell (i := 1) rfl
  have R4 := Lib.hid r4
  obtain ⟨B0, hB0⟩ : ∃ B0, w.heap.size + 1 = B0 := ⟨_, rfl⟩
  have HB0 := Lib.hid hB0
  have GB : Hid (B0 ≤ w3.heap.size) := by have := R3.out.lt; show _ ≤ _; omega
  have RN : Hid (RR W4 B0 ob m (List.replicate m nilV) (nbs ars 0 m)) := by
    show RR _ _ _ _ _ _
    rw [← hW4, ← hob]; exact rr_new GB.out
  have BN4 : Hid (Below B0 W4 W4) := Below.refl _ _
  have SZ : Hid (B0 ≤ W4.heap.size) := by have := GB.out; have := b4.size; show _ ≤ _; omega
  have B4 := Lib.hid (B3.out.trans (b4.mono B3.out.size))
  clear b4 r4
  go_wp2_with (at_make; refine wpList_make_row _ rfl _ _ 41 rfl 22 j0 nilV Try.underlying41 JI.out Y0.out Y1.out rfl .i64 .i64 m rfl rfl (by rw [Y2.out]; have := HM.out; omega) (by have := HM.out; omega) ?_)
  clear p0 p1 q0' q1' hW4 hob hB0
  go_loopw [16] (fun s wr => ∃ (k : Nat) (vs : List Value), k ≤ n ∧ s = .int .i64 (k : Int) ∧ Hid (RR wr B0 ob m vs (nbs ars k m)) ∧ Hid (Below B0 W4 wr)) (fun s _ => n - (intOf s).toNat)
  case atStart => exact ⟨0, _, Nat.zero_le _, rfl, RN, BN4⟩
  case round =>
    clear RN BN4
    obtain ⟨k, vs, hk, rfl, RK, BK⟩ := hrel
    have BW : Hid (Below w.heap.size w wr) := B4.out.trans (BK.out.mono (by have := HB0.out; omega))
    by_cases hkn : k < n
    · obtain ⟨b, off, rfl, o0, o1⟩ := (AA.out.below BW.out).at_ (j := k) (by rw [HN.out]; exact hkn)
      have hnb := NB.out k (by rw [HN.out]; exact hkn)
      have NS := Lib.hid (nbs_succ (l := ars) (k := k) (m := m) (by rw [HN.out]; exact hkn))
      have LB : Hid (∀ j, ((nbs ars k m).getD j []).length ≤ 800000) := fun j => by have := nbs_bound ars m k (by rw [HN.out]; omega) j; have := HL.out; have := HN.out; omega
      obtain ⟨⟨xx, yy⟩, hz⟩ : ∃ z, ars.getD k (0, 0) = z := ⟨_, rfl⟩
      rw [hz] at o0 o1 hnb NS
      dsimp only at o0 o1
      unfold bad at hnb
      dsimp only at hnb
      obtain ⟨x, rfl⟩ : ∃ x : Nat, xx = (x : Int) := ⟨xx.toNat, by omega⟩
      obtain ⟨y, rfl⟩ : ∃ y : Nat, yy = (y : Int) := ⟨yy.toNat, by omega⟩
      have HXY : Hid (x < m ∧ y < m) := ⟨by omega, by omega⟩
      have xi0 : (0 : Int) ≤ (x : Int) := by omega
      have xi1 : (x : Int) < (m : Int) := by omega
      have yi0 : (0 : Int) ≤ (y : Int) := by omega
      have yi1 : (y : Int) < (m : Int) := by omega
      obtain ⟨k1, hk1⟩ : ∃ k1, k + 1 = k1 := ⟨_, rfl⟩
      rw [hk1] at NS
      have HK := Lib.hid hk1
      have k0 : (0 : Int) ≤ (k : Int) := by omega
      have kl : (k : Int) < (n : Int) := by omega
      have e1 : (k : Int) + 1 = (k1 : Int) := by omega
      have e2 : IntKind.i64.wrap (k1 : Int) = (k1 : Int) := by rw [IntKind.wrap_i64]; have := HL.out; have := HN.out; omega
      obtain ⟨xb, hxb⟩ : ∃ xb, wr.heap.size = xb := ⟨_, rfl⟩
      obtain ⟨W5, hW5⟩ : ∃ W5, wr.alloc (.cells #[.int .i64 (x : Int), .int .i64 (y : Int)] 45) = W5 := ⟨_, rfl⟩
      have r5 : Row W5 xb 45 [.int .i64 (x : Int), .int .i64 (y : Int)] := by rw [← hW5, ← hxb]; exact Row.new _ _ _
      have b5 : Below wr.heap.size wr W5 := by rw [← hW5]; exact (Below.refl _ _).alloc (Nat.le_refl _) _
      have R5 := Lib.hid (RK.out.keep b5)
      have SW : B0 ≤ wr.heap.size := Nat.le_trans SZ.out BK.out.size
      have BK5 := Lib.hid (BK.out.trans (b5.mono SW))
      have S5 : Hid (B0 ≤ W5.heap.size) := Nat.le_trans SW b5.size
      have X5 := Lib.hid r5
      have XB : Hid (xb ≠ ob) := by have := RK.out.o.lt; show _ ≠ _; omega
      have XV : Hid (∀ j, j < m → (vs.getD j nilV).ownBlock ≠ some xb) := fun j hj e => by have := ((RK.out.i j hj).lt xb e).2; omega
      have x0 := r5.cell (i := 0) rfl; have x1 := r5.cell (i := 1) rfl
      clear r5 b5 hz hk1 hnb RK BK BW SW
      by_cases hxy : x = y
      · obtain rfl := hxy
        have N2 : Hid (nbs ars k1 m = nbs ars k m) := by show _ = _; rw [NS.out]; unfold addN; rw [if_pos rfl]
        go_wp2_with fail
        go_roundw
        case measure => simp [intOf]; have := HK.out; omega
        case rel => exact ⟨k1, vs, by have := HK.out; omega, rfl, by show RR _ _ _ _ _ _; rw [N2.out]; exact R5.out, BK5⟩
      · have hne : ((x : Int) == (y : Int)) = false := by simp; omega
        have N2 : Hid (nbs ars k1 m = ((nbs ars k m).set x ((nbs ars k m).getD x [] ++ [(y : Int)])).set y (((nbs ars k m).set x ((nbs ars k m).getD x [] ++ [(y : Int)])).getD y [] ++ [(x : Int)])) := by
          show _ = _
          rw [NS.out]; unfold addN
          rw [if_neg (by show ¬ ((x : Int) = (y : Int)); omega)]
          dsimp only
          rw [Int.toNat_natCast, Int.toNat_natCast]
        have LB8 : Hid (∀ j, ((nbs ars k m).getD j []).length ≤ 8388608) := fun j => by have := LB.out j; omega
        have XO8 : Hid ((vs.getD x nilV).ownBlock ≠ some xb) := XV.out x HXY.out.1
        clear x0 x1
        obtain ⟨lp8, hlp⟩ : ∃ lp8, (nbs ars k m).getD x [] = lp8 := ⟨_, rfl⟩
        have OWp := R5.out.i x HXY.out.1
        rw [hlp] at OWp
        have BN : Hid (lp8.length ≤ 8388608) := by show _ ≤ _; rw [← hlp]; exact LB8.out x
        obtain ⟨le8, hle⟩ : ∃ le8, lp8.length = le8 := ⟨_, rfl⟩
        obtain ⟨ve8, hve⟩ : ∃ ve8, (vs).getD x nilV = ve8 := ⟨_, rfl⟩
        have OW' : Hid (W5.ownsRow 0 3 1 ve8 le8 (nums lp8)) := by have h := OWp; unfold Own1 at h; rw [hle, hve] at h; exact h
        have cv := R5.out.cell HXY.out.1
        rw [hve] at cv
        obtain ⟨ae8, ce8, hae⟩ := row_form1 OW'.out
        subst hae
        have HE := Lib.hid hle; have HVE := Lib.hid hve; have HLP := Lib.hid hlp
        have x0 := X5.out.cell (i := 0) rfl; have x1 := X5.out.cell (i := 1) rfl
        clear OWp hle hve hlp
        go_wp2_with fail
        refine wp_region_drop (fun W => W.cell? ⟨xb, 0, none⟩ = some (.int .i64 (x : Int)) ∧ W.cell? ⟨xb, 1, none⟩ = some (.int .i64 (y : Int)) ∧ W.cell? ⟨ob, x, none⟩ = some (.slice ae8 le8 ce8)) 13 (by kernel_rfl) ⟨x0, x1, cv⟩ (fun hHeld => ?_)
        refine wpAnyD_pure (i := 0) (v := ?_) rfl (by kernel_rfl) (by kernel_rfl) (by kernel_rfl) (by rfl) (fun _ _ _ h => h) (Or.inl ⟨by rfl, ?_⟩) (by assumption) ?_
        rotate_left 1
        · (intro w; first | (go_simp; done) | (go_simp; with_reducible rfl))
        simp only [Act.put, List.getElem_toArray, List.getElem_cons_zero, List.setIfInBounds_toArray, List.set_cons_zero, List.set_cons_succ]
        refine wpAnyD_pure (i := 1) (v := ?_) rfl (by kernel_rfl) (by kernel_rfl) (by kernel_rfl) (by rfl) (fun _ _ _ h => h) (Or.inl ⟨by rfl, ?_⟩) (by assumption) ?_
        rotate_left 1
        · (intro w; first | (go_simp; done) | (go_simp; with_reducible rfl))
        simp only [Act.put, List.getElem_toArray, List.getElem_cons_zero, List.getElem_cons_succ, List.setIfInBounds_toArray, List.set_cons_zero, List.set_cons_succ]
        refine wpAnyD_take (i := 2) (v := ?_) rfl (by kernel_rfl) (by kernel_rfl) (by kernel_rfl) (by kernel_rfl) (fun _ _ _ h => h) (Or.inl ⟨by rfl, ?_⟩) (by assumption) ?_
        rotate_left 1
        · (intro w hSw; (try dsimp only at hSw); first | (go_simp; done) | (go_simp; with_reducible rfl))
        simp only [Act.put, List.getElem_toArray, List.getElem_cons_zero, List.getElem_cons_succ, List.setIfInBounds_toArray, List.set_cons_zero, List.set_cons_succ]
        refine wpAnyD_pure (i := 3) (v := ?_) rfl (by kernel_rfl) (by kernel_rfl) (by kernel_rfl) (by rfl) (fun _ _ _ h => h) (Or.inl ⟨by rfl, ?_⟩) (by assumption) ?_
        rotate_left 1
        · (intro w; first | (go_simp; done) | (go_simp; with_reducible rfl))
        simp only [Act.put, List.getElem_toArray, List.getElem_cons_zero, List.getElem_cons_succ, List.setIfInBounds_toArray, List.set_cons_zero, List.set_cons_succ]
        refine wpAnyD_pure (i := 4) (v := ?_) rfl (by kernel_rfl) (by kernel_rfl) (by kernel_rfl) (by rfl) (fun _ _ _ h => h) (Or.inl ⟨by rfl, ?_⟩) (by assumption) ?_
        rotate_left 1
        · (intro w; first | (go_simp; done) | (go_simp; with_reducible rfl))
        simp only [Act.put, List.getElem_toArray, List.getElem_cons_zero, List.getElem_cons_succ, List.setIfInBounds_toArray, List.set_cons_zero, List.set_cons_succ]
        refine wpAnyD_take (i := 5) (v := ?_) rfl (by kernel_rfl) (by kernel_rfl) (by kernel_rfl) (by kernel_rfl) (fun _ _ _ h => h) (Or.inl ⟨by rfl, ?_⟩) (by assumption) ?_
        rotate_left 1
        · (intro w hSw; (try dsimp only at hSw); first | (go_simp; done) | (go_simp; with_reducible rfl))
        simp only [Act.put, List.getElem_toArray, List.getElem_cons_zero, List.getElem_cons_succ, List.setIfInBounds_toArray, List.set_cons_zero, List.set_cons_succ]
        refine wpAnyD_pure (i := 6) (v := ?_) rfl (by kernel_rfl) (by kernel_rfl) (by kernel_rfl) (by rfl) (fun _ _ _ h => h) (Or.inl ⟨by rfl, ?_⟩) (by assumption) ?_
        rotate_left 1
        · (intro w; first | (go_simp; done) | (go_simp; with_reducible rfl))
        simp only [Act.put, List.getElem_toArray, List.getElem_cons_zero, List.getElem_cons_succ, List.setIfInBounds_toArray, List.set_cons_zero, List.set_cons_succ]
        refine wpAnyD_take (i := 7) (v := ?_) rfl (by kernel_rfl) (by kernel_rfl) (by kernel_rfl) (by kernel_rfl) (fun _ _ _ h => h) (Or.inl ⟨by rfl, ?_⟩) (by assumption) ?_
        rotate_left 1
        · (intro w hSw; (try dsimp only at hSw); first | (go_simp; done) | (go_simp; with_reducible rfl))
        simp only [Act.put, List.getElem_toArray, List.getElem_cons_zero, List.getElem_cons_succ, List.setIfInBounds_toArray, List.set_cons_zero, List.set_cons_succ]
        refine wpAnyD_pure (i := 8) (v := ?_) rfl (by kernel_rfl) (by kernel_rfl) (by kernel_rfl) (by rfl) (fun _ _ _ h => h) (Or.inl ⟨by rfl, ?_⟩) (by assumption) ?_
        rotate_left 1
        · (intro w; first | (go_simp; done) | (go_simp; with_reducible rfl))
        simp only [Act.put, List.getElem_toArray, List.getElem_cons_zero, List.getElem_cons_succ, List.setIfInBounds_toArray, List.set_cons_zero, List.set_cons_succ]
        refine wpAnyD_take (i := 9) (v := ?_) rfl (by kernel_rfl) (by kernel_rfl) (by kernel_rfl) (by kernel_rfl) (fun _ _ _ h => h) (Or.inl ⟨by rfl, ?_⟩) (by assumption) ?_
        rotate_left 1
        · (intro w hSw; (try dsimp only at hSw); first | (go_simp; done) | (go_simp; with_reducible rfl))
        simp only [Act.put, List.getElem_toArray, List.getElem_cons_zero, List.getElem_cons_succ, List.setIfInBounds_toArray, List.set_cons_zero, List.set_cons_succ]
        clear hHeld x0 x1
        refine wpAnyD_one (i := 10) (by kernel_rfl) (by decide) rfl (fun K hK => ?_)
        go_simp
        refine hK.out _ _ (al_keep ⟨X5.out.cell (i := 0) rfl, X5.out.cell (i := 1) rfl, cv⟩) (fun _ => ?_)
        clear hK K
        refine wpAnyD_one (i := 11) (by kernel_rfl) (by decide) rfl (fun K hK => ?_)
        refine step_append_own rfl _ _ 22 rfl 0 3 i0 (.int .i64 0) 1 8 Try.underlying22 II.out Z0.out Z1.out Z2.out rfl (by decide) (.slice ae8 le8 ce8) le8 (nums lp8) rfl (own_drew (OW'.out.alloc _)) ⟨W5.heap.size, 0, none⟩ 1 1 [.int .i64 y] rfl rfl (one_new _ _ _) (by simp [Value.oneCell']) (by have := BN.out; have := HE.out; unfold maxLen; omega) (by have := BN.out; have := HE.out; omega) (Nat.zero_le _) ?_
        intro v' w78 hown' hgrow hloc
        obtain ⟨a8, c8, hv'⟩ := row_form1 hown'
        subst hv'
        have gr' := grown_drew hgrow
        obtain ⟨q1, q2, q3, q4⟩ := rr_append (x := (y : Int)) (v' := .slice a8 (le8 + 1) c8) R5.out S5.out HXY.out.1 (by rw [HLP.out, HE.out]; exact hown') (by rw [HVE.out]; exact gr') (by rw [HVE.out]; exact hloc)
        rw [HVE.out] at q1
        have oth := rr_other (v' := .slice a8 (le8 + 1) c8) R5.out HXY.out.1 (by rw [HVE.out]; exact gr')
        obtain ⟨W8, hW8⟩ : ∃ W8, w78.setCell ⟨ob, x, none⟩ (.slice a8 (le8 + 1) c8) = W8 := ⟨_, rfl⟩
        rw [hW8] at q3 q4 oth
        have X8 := Lib.hid (X5.out.same (oth xb X5.out.lt (XO8.out) XB.out))
        have R8 := Lib.hid q3; have B8 := Lib.hid q4; have S8 := Lib.hid (Nat.le_trans S5.out q4.size)
        have SK := ap_keep gr' X5.out R5.out.o.lt (by rw [← HVE.out]; exact XO8.out) (by rw [← HVE.out]; exact R5.out.no x HXY.out.1) cv
        refine hK.out _ _ SK (fun hHeld => ?_)
        clear hK K SK hown' hgrow hloc gr' q3 q4 oth cv OW' BN
        simp only [Act.put, List.setIfInBounds_toArray]
        refine wpAnyD_pure (i := 12) (v := ?_) rfl (by kernel_rfl) (by kernel_rfl) (by kernel_rfl) (by rfl) (fun _ _ _ h => h) (Or.inl ⟨by rfl, ?_⟩) (by assumption) ?_
        rotate_left 1
        · (intro w; first | (go_simp; done) | (go_simp; with_reducible rfl))
        simp only [Act.put, List.getElem_toArray, List.getElem_cons_zero, List.getElem_cons_succ, List.setIfInBounds_toArray, List.set_cons_zero, List.set_cons_succ]
        clear hHeld
        refine wpAnyD_drop (by kernel_rfl) rfl (fun K hK => ?_)
        go_simp
        refine hK.out _ _ ?_
        clear hK K
        refine wpAny_done (by kernel_rfl) ?_ _
        clear q1 q2 hW8 HE HVE HLP
        have LB9 : Hid (∀ j, (((nbs ars k m).set x ((nbs ars k m).getD x [] ++ [(y : Int)])).getD j []).length ≤ 8388608) := fun j => by have := set_bound (i := x) (x := (y : Int)) LB.out j; omega
        have XO9 : Hid (((vs.set x (.slice a8 (le8 + 1) c8)).getD y nilV).ownBlock ≠ some xb) := by
          show _ ≠ _
          rw [getD_setV _ _ _ _ (by rw [R5.out.vl]; exact HXY.out.1), if_neg hxy]; exact XV.out y HXY.out.2
        obtain ⟨lp9, hlp⟩ : ∃ lp9, ((nbs ars k m).set x ((nbs ars k m).getD x [] ++ [(y : Int)])).getD y [] = lp9 := ⟨_, rfl⟩
        have OWp := R8.out.i y HXY.out.2
        rw [hlp] at OWp
        have BN : Hid (lp9.length ≤ 8388608) := by show _ ≤ _; rw [← hlp]; exact LB9.out y
        obtain ⟨le9, hle⟩ : ∃ le9, lp9.length = le9 := ⟨_, rfl⟩
        obtain ⟨ve9, hve⟩ : ∃ ve9, (vs.set x (.slice a8 (le8 + 1) c8)).getD y nilV = ve9 := ⟨_, rfl⟩
        have OW' : Hid (W8.ownsRow 0 3 1 ve9 le9 (nums lp9)) := by have h := OWp; unfold Own1 at h; rw [hle, hve] at h; exact h
        have cv := R8.out.cell HXY.out.2
        rw [hve] at cv
        obtain ⟨ae9, ce9, hae⟩ := row_form1 OW'.out
        subst hae
        have HE := Lib.hid hle; have HVE := Lib.hid hve; have HLP := Lib.hid hlp
        have x0 := X8.out.cell (i := 0) rfl; have x1 := X8.out.cell (i := 1) rfl
        clear OWp hle hve hlp
        go_wp2_with fail
        refine wp_region_drop (fun W => W.cell? ⟨xb, 0, none⟩ = some (.int .i64 (x : Int)) ∧ W.cell? ⟨xb, 1, none⟩ = some (.int .i64 (y : Int)) ∧ W.cell? ⟨ob, y, none⟩ = some (.slice ae9 le9 ce9)) 13 (by kernel_rfl) ⟨x0, x1, cv⟩ (fun hHeld => ?_)
        refine wpAnyD_pure (i := 0) (v := ?_) rfl (by kernel_rfl) (by kernel_rfl) (by kernel_rfl) (by rfl) (fun _ _ _ h => h) (Or.inl ⟨by rfl, ?_⟩) (by assumption) ?_
        rotate_left 1
        · (intro w; first | (go_simp; done) | (go_simp; with_reducible rfl))
        simp only [Act.put, List.getElem_toArray, List.getElem_cons_zero, List.setIfInBounds_toArray, List.set_cons_zero, List.set_cons_succ]
        refine wpAnyD_pure (i := 1) (v := ?_) rfl (by kernel_rfl) (by kernel_rfl) (by kernel_rfl) (by rfl) (fun _ _ _ h => h) (Or.inl ⟨by rfl, ?_⟩) (by assumption) ?_
        rotate_left 1
        · (intro w; first | (go_simp; done) | (go_simp; with_reducible rfl))
        simp only [Act.put, List.getElem_toArray, List.getElem_cons_zero, List.getElem_cons_succ, List.setIfInBounds_toArray, List.set_cons_zero, List.set_cons_succ]
        refine wpAnyD_take (i := 2) (v := ?_) rfl (by kernel_rfl) (by kernel_rfl) (by kernel_rfl) (by kernel_rfl) (fun _ _ _ h => h) (Or.inl ⟨by rfl, ?_⟩) (by assumption) ?_
        rotate_left 1
        · (intro w hSw; (try dsimp only at hSw); first | (go_simp; done) | (go_simp; with_reducible rfl))
        simp only [Act.put, List.getElem_toArray, List.getElem_cons_zero, List.getElem_cons_succ, List.setIfInBounds_toArray, List.set_cons_zero, List.set_cons_succ]
        refine wpAnyD_pure (i := 3) (v := ?_) rfl (by kernel_rfl) (by kernel_rfl) (by kernel_rfl) (by rfl) (fun _ _ _ h => h) (Or.inl ⟨by rfl, ?_⟩) (by assumption) ?_
        rotate_left 1
        · (intro w; first | (go_simp; done) | (go_simp; with_reducible rfl))
        simp only [Act.put, List.getElem_toArray, List.getElem_cons_zero, List.getElem_cons_succ, List.setIfInBounds_toArray, List.set_cons_zero, List.set_cons_succ]
        refine wpAnyD_pure (i := 4) (v := ?_) rfl (by kernel_rfl) (by kernel_rfl) (by kernel_rfl) (by rfl) (fun _ _ _ h => h) (Or.inl ⟨by rfl, ?_⟩) (by assumption) ?_
        rotate_left 1
        · (intro w; first | (go_simp; done) | (go_simp; with_reducible rfl))
        simp only [Act.put, List.getElem_toArray, List.getElem_cons_zero, List.getElem_cons_succ, List.setIfInBounds_toArray, List.set_cons_zero, List.set_cons_succ]
        refine wpAnyD_take (i := 5) (v := ?_) rfl (by kernel_rfl) (by kernel_rfl) (by kernel_rfl) (by kernel_rfl) (fun _ _ _ h => h) (Or.inl ⟨by rfl, ?_⟩) (by assumption) ?_
        rotate_left 1
        · (intro w hSw; (try dsimp only at hSw); first | (go_simp; done) | (go_simp; with_reducible rfl))
        simp only [Act.put, List.getElem_toArray, List.getElem_cons_zero, List.getElem_cons_succ, List.setIfInBounds_toArray, List.set_cons_zero, List.set_cons_succ]
        refine wpAnyD_pure (i := 6) (v := ?_) rfl (by kernel_rfl) (by kernel_rfl) (by kernel_rfl) (by rfl) (fun _ _ _ h => h) (Or.inl ⟨by rfl, ?_⟩) (by assumption) ?_
        rotate_left 1
        · (intro w; first | (go_simp; done) | (go_simp; with_reducible rfl))
        simp only [Act.put, List.getElem_toArray, List.getElem_cons_zero, List.getElem_cons_succ, List.setIfInBounds_toArray, List.set_cons_zero, List.set_cons_succ]
        refine wpAnyD_take (i := 7) (v := ?_) rfl (by kernel_rfl) (by kernel_rfl) (by kernel_rfl) (by kernel_rfl) (fun _ _ _ h => h) (Or.inl ⟨by rfl, ?_⟩) (by assumption) ?_
        rotate_left 1
        · (intro w hSw; (try dsimp only at hSw); first | (go_simp; done) | (go_simp; with_reducible rfl))
        simp only [Act.put, List.getElem_toArray, List.getElem_cons_zero, List.getElem_cons_succ, List.setIfInBounds_toArray, List.set_cons_zero, List.set_cons_succ]
        refine wpAnyD_pure (i := 8) (v := ?_) rfl (by kernel_rfl) (by kernel_rfl) (by kernel_rfl) (by rfl) (fun _ _ _ h => h) (Or.inl ⟨by rfl, ?_⟩) (by assumption) ?_
        rotate_left 1
        · (intro w; first | (go_simp; done) | (go_simp; with_reducible rfl))
        simp only [Act.put, List.getElem_toArray, List.getElem_cons_zero, List.getElem_cons_succ, List.setIfInBounds_toArray, List.set_cons_zero, List.set_cons_succ]
        refine wpAnyD_take (i := 9) (v := ?_) rfl (by kernel_rfl) (by kernel_rfl) (by kernel_rfl) (by kernel_rfl) (fun _ _ _ h => h) (Or.inl ⟨by rfl, ?_⟩) (by assumption) ?_
        rotate_left 1
        · (intro w hSw; (try dsimp only at hSw); first | (go_simp; done) | (go_simp; with_reducible rfl))
        simp only [Act.put, List.getElem_toArray, List.getElem_cons_zero, List.getElem_cons_succ, List.setIfInBounds_toArray, List.set_cons_zero, List.set_cons_succ]
        clear hHeld x0 x1
        refine wpAnyD_one (i := 10) (by kernel_rfl) (by decide) rfl (fun K hK => ?_)
        go_simp
        refine hK.out _ _ (al_keep ⟨X8.out.cell (i := 0) rfl, X8.out.cell (i := 1) rfl, cv⟩) (fun _ => ?_)
        clear hK K
        refine wpAnyD_one (i := 11) (by kernel_rfl) (by decide) rfl (fun K hK => ?_)
        refine step_append_own rfl _ _ 22 rfl 0 3 i0 (.int .i64 0) 1 8 Try.underlying22 II.out Z0.out Z1.out Z2.out rfl (by decide) (.slice ae9 le9 ce9) le9 (nums lp9) rfl (own_drew (OW'.out.alloc _)) ⟨W8.heap.size, 0, none⟩ 1 1 [.int .i64 x] rfl rfl (one_new _ _ _) (by simp [Value.oneCell']) (by have := BN.out; have := HE.out; unfold maxLen; omega) (by have := BN.out; have := HE.out; omega) (Nat.zero_le _) ?_
        intro v' w79 hown' hgrow hloc
        obtain ⟨a9, c9, hv'⟩ := row_form1 hown'
        subst hv'
        have gr' := grown_drew hgrow
        obtain ⟨q1, q2, q3, q4⟩ := rr_append (x := (x : Int)) (v' := .slice a9 (le9 + 1) c9) R8.out S8.out HXY.out.2 (by rw [HLP.out, HE.out]; exact hown') (by rw [HVE.out]; exact gr') (by rw [HVE.out]; exact hloc)
        rw [HVE.out] at q1
        have oth := rr_other (v' := .slice a9 (le9 + 1) c9) R8.out HXY.out.2 (by rw [HVE.out]; exact gr')
        obtain ⟨W9, hW9⟩ : ∃ W9, w79.setCell ⟨ob, y, none⟩ (.slice a9 (le9 + 1) c9) = W9 := ⟨_, rfl⟩
        rw [hW9] at q3 q4 oth
        have X9 := Lib.hid (X8.out.same (oth xb X8.out.lt (XO9.out) XB.out))
        have R9 := Lib.hid q3; have B9 := Lib.hid q4; have S9 := Lib.hid (Nat.le_trans S8.out q4.size)
        have SK := ap_keep gr' X8.out R8.out.o.lt (by rw [← HVE.out]; exact XO9.out) (by rw [← HVE.out]; exact R8.out.no y HXY.out.2) cv
        refine hK.out _ _ SK (fun hHeld => ?_)
        clear hK K SK hown' hgrow hloc gr' q3 q4 oth cv OW' BN
        simp only [Act.put, List.setIfInBounds_toArray]
        refine wpAnyD_pure (i := 12) (v := ?_) rfl (by kernel_rfl) (by kernel_rfl) (by kernel_rfl) (by rfl) (fun _ _ _ h => h) (Or.inl ⟨by rfl, ?_⟩) (by assumption) ?_
        rotate_left 1
        · (intro w; first | (go_simp; done) | (go_simp; with_reducible rfl))
        simp only [Act.put, List.getElem_toArray, List.getElem_cons_zero, List.getElem_cons_succ, List.setIfInBounds_toArray, List.set_cons_zero, List.set_cons_succ]
        clear hHeld
        refine wpAnyD_drop (by kernel_rfl) rfl (fun K hK => ?_)
        go_simp
        refine hK.out _ _ ?_
        clear hK K
        refine wpAny_done (by kernel_rfl) ?_ _
        clear q1 q2 hW9 HE HVE HLP
        go_wp2_with fail
        go_roundw
        case measure => simp [intOf]; have := HK.out; omega
        case rel => exact ⟨k1, _, by have := HK.out; omega, rfl, by show RR _ _ _ _ _ _; rw [N2.out]; exact R9.out, (BK5.out.trans B8.out).trans B9.out⟩
    · have kl : ¬ (k : Int) < (n : Int) := by omega
      obtain rfl : k = n := by omega
      have rb := R4.out.below BK.out (by have := HB0.out; omega)
      have p0 := rb.cell (i := 0) rfl
      have N0 : Hid (NS wr ob m vs (nbs ars k m)) := ⟨RK.out.o, RK.out.vl, RK.out.ll, fun j hj => IntsAt.of_row (RK.out.i j hj)⟩
      have D0 : Hid (Done (nbs ars k m) (nbs ars k m) m 0) := fun j hj => ⟨by have := nbs_bound ars m k (by rw [HN.out]; omega) j; have := HL.out; have := HN.out; omega, fun h => absurd h (by omega), fun _ => rfl⟩
      have GO : Hid (w.heap.size ≤ ob) := by have := RK.out.go; have := HB0.out; show _ ≤ _; omega
      clear rb RK BK
      go_wp2_with fail
      clear p0
      go_loopw [54] (fun s wr => ∃ (t : Nat) (vs : List Value) (ss : List (List Int)), t ≤ m ∧ s = .int .i64 (t : Int) ∧ Hid (NS wr ob m vs ss) ∧ Hid (Done (nbs ars k m) ss m t) ∧ Hid (Below w.heap.size w wr)) (fun s _ => m - (intOf s).toNat)
      case atStart => exact ⟨0, _, _, Nat.zero_le _, rfl, N0, D0, BW⟩
      case round =>
        clear N0 D0 BW
        obtain ⟨t, vs2, ss, ht, rfl, NT, DT, BW⟩ := hrel
        by_cases htm : t < m
        · obtain ⟨t1, ht1⟩ : ∃ t1, t + 1 = t1 := ⟨_, rfl⟩
          have HT := Lib.hid ht1; have HTM := Lib.hid htm
          have k0 : (0 : Int) ≤ (t : Int) := by omega
          have kl3 : (t : Int) < (m : Int) := by omega
          have e1 : (t : Int) + 1 = (t1 : Int) := by omega
          have e2 : IntKind.i64.wrap (t1 : Int) = (t1 : Int) := by rw [IntKind.wrap_i64]; have := HM.out; omega
          have cv := NT.out.cell htm
          have OF := Lib.hid (of_any (NT.out.i t htm) (DT.out t htm).1)
          obtain ⟨au, cu, hu⟩ := (NT.out.i t htm).form
          obtain ⟨lu, hlu⟩ : ∃ lu, (ss.getD t []).length = lu := ⟨_, rfl⟩
          rw [hlu] at hu
          rw [hu] at cv OF
          clear ht1 hu hlu
          go_wp2_with fail
          refine OF.out.mono ?_; rintro e w8 ⟨v2, s2, rfl, iset, ia, hle, b⟩
          have N8 := NT.out.keep b
          have c8 := N8.cell htm; have f8 := N8.o.fr (i := t)
          obtain ⟨cv8, hcv8⟩ : ∃ cv8, vs2.getD t nilV = cv8 := ⟨_, rfl⟩
          rw [hcv8] at c8
          have N9' := N8.set ia htm
          obtain ⟨a2, c2, h2⟩ := ia.form
          obtain ⟨l2, hl2⟩ : ∃ l2, s2.length = l2 := ⟨_, rfl⟩
          rw [hl2] at h2
          subst h2
          obtain ⟨W9, hW9⟩ : ∃ W9, w8.setCell ⟨ob, t, none⟩ (.slice a2 l2 c2) = W9 := ⟨_, rfl⟩
          rw [hW9] at N9'
          have N9 := Lib.hid N9'
          have B9 : Hid (Below w.heap.size w W9) := by
            show Below _ _ _
            rw [← hW9]; exact (BW.out.trans (b.mono BW.out.size)).setCell (by exact GO.out) _
          have D9 : Hid (Done (nbs ars k m) (ss.set t s2) m t1) := by
            intro j hj
            obtain ⟨d1, d2, d3⟩ := DT.out j hj
            rw [getD_setL _ _ _ _ (by rw [NT.out.ll]; exact htm)]
            by_cases e : t = j
            · rw [if_pos e]
              have d1' := (DT.out t htm).1
              refine ⟨by omega, fun _ => ?_, fun h => absurd (by have := HT.out; omega) h⟩
              rw [← e, ← (DT.out t htm).2.2 (by omega)]; exact iset
            · rw [if_neg e]
              exact ⟨d1, fun h => d2 (by have := HT.out; omega), fun h => d3 (by have := HT.out; omega)⟩
          clear iset ia hle b N8 N9' hcv8 hl2 NT DT OF
          go_wp2_with fail
          go_roundw
          case measure => simp [intOf]; have := HT.out; omega
          case rel => exact ⟨t1, _, _, by have := HT.out; have := HTM.out; omega, rfl, N9, D9, B9⟩
        · have kl3 : ¬ (t : Int) < (m : Int) := by omega
          obtain rfl : t = m := by omega
          have FR := Lib.hid (NT.out.rows (cap := t)); have LL := Lib.hid NT.out.ll
          have DF : Hid (∀ j, j < t → IsSet ((nbs ars k t).getD j []) (ss.getD j []) ∧ (ss.getD j []).length ≤ 1000000) := fun j hj => ⟨(DT.out j hj).2.1 hj, (DT.out j hj).1⟩
          clear NT DT
          go_wp2_with fail
          go_ret
          exact ⟨_, ss, rfl, FR.out, LL.out, by rw [HN.out]; exact DF.out, BW.out⟩
end Go.Proofs.Ythfecllgkldgfaa
