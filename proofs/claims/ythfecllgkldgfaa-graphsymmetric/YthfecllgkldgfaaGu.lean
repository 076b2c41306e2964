/- graph: the reference's Neighbours. -/
import Derived.Test.YthfecllgkldgfaaGt
namespace Go.Proofs.Ythfecllgkldgfaa
open Go.ChangeShapes Go.WideShapes Go.ChangeAt Go.RowKit Go.Joins Go.Deep

theorem own_base {w : World} {B B' e size : Nat} {v : Value} {n : Nat} {xs : List Value} (h : w.ownsRow B e size v n xs) (hb : B' ≤ B) : w.ownsRow B' e size v n xs := by
  refine ⟨h.1, ?_⟩
  rcases h.2 with h0 | ⟨g, cap, cur, e, h1, h2⟩
  · exact Or.inl h0
  · exact Or.inr ⟨g, cap, cur, e, by omega, h2⟩
theorem nb_step {ars : List (Int × Int)} {m i x y : Nat} (hi : i < ars.length) (e : ars.getD i (0, 0) = ((x : Int), (y : Int))) (hx : x < m) (hy : y < m) (k : Nat) (z : Int) :
    z ∈ (nbs ars (i + 1) m).getD k [] ↔ z ∈ (nbs ars i m).getD k [] ∨ (x ≠ y ∧ (k = x ∧ z = (y : Int) ∨ k = y ∧ z = (x : Int))) := by
  rw [nbs_succ hi, e]
  have hl := nbs_len ars m i (by omega)
  exact addN_mem (by omega) (by omega) k z
/- what the inner loop knows of its set -/
structure Nbk (ars : List (Int × Int)) (m i k : Nat) (t : List Int) : Prop where
  inc : SInc t
  mem : ∀ z, z ∈ t ↔ z ∈ (nbs ars i m).getD k []
  len : t.length ≤ i
theorem nbk_zero (ars : List (Int × Int)) (m k : Nat) : Nbk ars m 0 k [] := by
  refine ⟨List.Pairwise.nil, fun z => ?_, Nat.le_refl _⟩
  unfold nbs
  simp only [List.take_zero, List.foldl_nil, List.not_mem_nil, false_iff]
  rw [List.getD, List.getElem?_replicate]
  split <;> simp
theorem Nbk.skip {ars : List (Int × Int)} {m i k x y : Nat} {t : List Int} (h : Nbk ars m i k t) (hi : i < ars.length) (e : ars.getD i (0, 0) = ((x : Int), (y : Int))) (hx : x < m) (hy : y < m) (hn : x = k ∧ y = k ∨ x ≠ k ∧ y ≠ k) : Nbk ars m (i + 1) k t := by
  refine ⟨h.inc, fun z => ?_, by have := h.len; omega⟩
  rw [nb_step hi e hx hy, h.mem]
  constructor
  · exact Or.inl
  · rintro (h | ⟨h1, h2 | h2⟩)
    · exact h
    · omega
    · omega
theorem Nbk.out {ars : List (Int × Int)} {m i x y : Nat} {t s : List Int} (h : Nbk ars m i x t) (hi : i < ars.length) (e : ars.getD i (0, 0) = ((x : Int), (y : Int))) (hx : x < m) (hy : y < m) (hn : y ≠ x)
    (hs : SInc s) (hm : ∀ z, z ∈ s ↔ z = (y : Int) ∨ z ∈ t) (hl : s.length ≤ t.length + 1) : Nbk ars m (i + 1) x s := by
  refine ⟨hs, fun z => ?_, by have := h.len; omega⟩
  rw [nb_step hi e hx hy, hm, h.mem]
  constructor
  · rintro (h | h)
    · exact Or.inr ⟨by omega, Or.inl ⟨rfl, h⟩⟩
    · exact Or.inl h
  · rintro (h | ⟨h1, h2 | h2⟩)
    · exact Or.inr h
    · exact Or.inl h2.2
    · omega
theorem Nbk.inn {ars : List (Int × Int)} {m i x y : Nat} {t s : List Int} (h : Nbk ars m i y t) (hi : i < ars.length) (e : ars.getD i (0, 0) = ((x : Int), (y : Int))) (hx : x < m) (hy : y < m) (hn : x ≠ y)
    (hs : SInc s) (hm : ∀ z, z ∈ s ↔ z = (x : Int) ∨ z ∈ t) (hl : s.length ≤ t.length + 1) : Nbk ars m (i + 1) y s := by
  refine ⟨hs, fun z => ?_, by have := h.len; omega⟩
  rw [nb_step hi e hx hy, hm, h.mem]
  constructor
  · rintro (h | h)
    · exact Or.inr ⟨by omega, Or.inr ⟨rfl, h⟩⟩
    · exact Or.inl h
  · rintro (h | ⟨h1, h2 | h2⟩)
    · exact Or.inr h
    · omega
    · exact Or.inl h2.2
theorem own_next {w w7 : World} {B : Nat} {v r : Value} {s t : List Int} (h : w.ownsRow B 3 1 v s.length (nums s)) (b : Below w.heap.size w w7) (hb : B ≤ w.heap.size) (ho : r = v ∧ t = s ∨ w7.ownsRow w.heap.size 3 1 r t.length (nums t)) : w7.ownsRow B 3 1 r t.length (nums t) := by
  rcases ho with ⟨rfl, rfl⟩ | ho
  · exact own_same h (fun g e => b.block g (h.lt g e).2)
  · exact own_base ho hb
theorem nbr_bad {w : World} {N : Int} {v : Value} {ars : List (Int × Int)} (h : ArcsAt w v ars) (hc : chk N ars ≠ 0) : Calls Try.prog 43 #[gv N v] w fun e w' => e = .returned nilV ∧ Below w.heap.size w w' := by
  have A0 := h
  obtain ⟨a, cap, rfl, _⟩ := h
  have CK := Lib.hid (fun W (b : Below w.heap.size w W) => checkr_any (N := N) (A0.below b))
  obtain ⟨n, hn⟩ : ∃ n, ars.length = n := ⟨_, rfl⟩
  obtain ⟨c, hcc⟩ : ∃ c, chk N ars = c := ⟨_, rfl⟩
  rw [hn] at CK ⊢
  rw [hcc] at CK hc
  have c1 : (c == 0) = false := by simpa using hc
  obtain ⟨W1, hW1⟩ : ∃ W1, w.alloc (.cells #[.int .i64 N, .slice a n cap] 33) = W1 := ⟨_, rfl⟩
  have r1 : Row W1 w.heap.size 33 [.int .i64 N, .slice a n cap] := by rw [← hW1]; exact Row.new _ _ _
  have q0 := r1.cell (i := 0) rfl; have q1 := r1.cell (i := 1) rfl
  have BB := Lib.hid (show Below w.heap.size w W1 by rw [← hW1]; exact (Below.refl _ _).alloc (Nat.le_refl _) _)
  clear r1 A0 hn hcc hc
  by_cases hN : 0 < N
  · go_enter Try.func43, Try.ntmps43
    go_wp2_with fail
    go_loopw [3, 4] (fun s3 s wr => s3 = nilV ∧ s = .int .i64 0 ∧ wr = W1) (fun _ _ _ => 0)
    case atStart => exact ⟨rfl, rfl, rfl⟩
    case round =>
      obtain ⟨rfl, rfl, rfl⟩ := hrel
      go_wp2_with fail
      refine (CK.out _ BB.out).mono ?_; rintro e w3 ⟨rfl, b⟩
      have FB := Lib.hid (BB.out.trans (b.mono BB.out.size))
      clear b
      go_wp2_with fail
      go_ret
      exact ⟨rfl, FB.out⟩
  · go_enter Try.func43, Try.ntmps43
    go_wp2_with fail
    go_loopw [3, 4] (fun s3 s wr => s3 = nilV ∧ s = .int .i64 0 ∧ wr = W1) (fun _ _ _ => 0)
    case atStart => exact ⟨rfl, rfl, rfl⟩
    case round =>
      obtain ⟨rfl, rfl, rfl⟩ := hrel
      go_wp2_with fail
      go_ret
      exact ⟨rfl, BB.out⟩
set_option maxRecDepth 100000 in
set_option maxHeartbeats 8000000 in
theorem nbr_any {w : World} {m : Nat} {v : Value} {ars : List (Int × Int)} (h : ArcsAt w v ars) (hc : chk (m : Int) ars = 0) (hl1 : ars.length ≤ 400000) : Calls Try.prog 43 #[gv (m : Int) v] w (NbPost ars m w) := by
  obtain ⟨j0, hi, hz0, hz1, hz2⟩ := Go.info_parts info22
  have JI := Lib.hid hi; have Y0 := Lib.hid hz0; have Y1 := Lib.hid hz1; have Y2 := Lib.hid hz2
  clear hi hz0 hz1 hz2
  obtain ⟨nl, nb⟩ := chk_zero hc
  unfold long at nl
  have hm : m ≤ 1048576 := by omega
  have NB := Lib.hid nb
  have A0 := h
  obtain ⟨a, cap, rfl, _⟩ := h
  have CK := Lib.hid (fun W (b : Below w.heap.size w W) => checkr_any (N := (m : Int)) (A0.below b))
  have AA := Lib.hid A0
  obtain ⟨n, hn⟩ : ∃ n, ars.length = n := ⟨_, rfl⟩
  have HN := Lib.hid hn; have HM := Lib.hid hm; have HL := Lib.hid hl1
  rw [hn] at CK AA ⊢
  rw [hc] at CK
  obtain ⟨W1, hW1⟩ : ∃ W1, w.alloc (.cells #[.int .i64 (m : Int), .slice a n cap] 33) = W1 := ⟨_, rfl⟩
  have r1 : Row W1 w.heap.size 33 [.int .i64 (m : Int), .slice a n cap] := by rw [← hW1]; exact Row.new _ _ _
  have R1 := Lib.hid r1
  have BB := Lib.hid (show Below w.heap.size w W1 by rw [← hW1]; exact (Below.refl _ _).alloc (Nat.le_refl _) _)
  clear r1 A0 hn hc hm hl1 nl nb
  go_enter Try.func43, Try.ntmps43
  go_wp2_with fail
  clear hW1
  go_loopw [3, 4] (fun s3 s4 wr => ∃ (k : Nat) (vs : List Value) (ss : List (List Int)), k ≤ m ∧ s4 = .int .i64 (k : Int) ∧ Hid (OR wr W1.heap.size s3 k vs ss) ∧ Hid (∀ j, j < k → IsSet ((nbs ars ars.length m).getD j []) (ss.getD j []) ∧ (ss.getD j []).length ≤ 1000000) ∧ Hid (Below W1.heap.size W1 wr)) (fun _ s4 _ => m - (intOf s4).toNat)
  case atStart => exact ⟨0, [], [], Nat.zero_le _, rfl, ⟨World.ownsRow_nil _ _ _ _, rfl, rfl, fun j hj => absurd hj (by omega), fun j _ hj => absurd hj (by omega)⟩, fun j hj => absurd hj (by omega), Below.refl _ _⟩
  case round =>
    obtain ⟨k, vs, ss, hk, rfl, OK, IS, BW⟩ := hrel
    obtain ⟨au, cu, hu⟩ := OK.out.form
    subst hu
    have BX := Lib.hid (BB.out.trans (BW.out.mono BB.out.size))
    have rr := R1.out.below BW.out R1.out.lt
    have q0 := rr.cell (i := 0) rfl; have q1 := rr.cell (i := 1) rfl
    clear rr
    by_cases hkm : k < m
    · obtain ⟨k1, hk1⟩ : ∃ k1, k + 1 = k1 := ⟨_, rfl⟩
      have HK := Lib.hid hk1; have HKM := Lib.hid hkm
      have k0 : (0 : Int) ≤ (k : Int) := by omega
      have kl : (k : Int) < (m : Int) := by omega
      have e1 : (k : Int) + 1 = (k1 : Int) := by omega
      have e2 : IntKind.i64.wrap (k1 : Int) = (k1 : Int) := by rw [IntKind.wrap_i64]; have := HM.out; omega
      clear hk1
      go_wp2_with fail
      refine (CK.out _ BX.out).mono ?_; rintro e w3 ⟨rfl, b⟩
      have O3 := Lib.hid (OK.out.keep b); have B3 := Lib.hid (BW.out.trans (b.mono BW.out.size))
      have BX3 := Lib.hid (BX.out.trans (b.mono BX.out.size))
      clear b OK BW BX q0 q1
      go_wp2_with fail
      go_loopw [5, 6] (fun s5 s6 wq => ∃ (i : Nat) (t : List Int), i ≤ n ∧ s6 = .int .i64 (i : Int) ∧ Hid (wq.ownsRow w3.heap.size 3 1 s5 t.length (nums t)) ∧ Hid (Nbk ars m i k t) ∧ Hid (Below w3.heap.size w3 wq)) (fun _ s6 _ => n - (intOf s6).toNat)
      case atStart => exact ⟨0, [], Nat.zero_le _, rfl, World.ownsRow_nil _ _ _ _, nbk_zero _ _ _, Below.refl _ _⟩
      case round =>
        obtain ⟨i, t, hi, rfl, OL, NK, BL⟩ := hrel
        have BY := Lib.hid (BX3.out.trans (BL.out.mono BX3.out.size))
        have B4 := Lib.hid (B3.out.trans (BL.out.mono B3.out.size))
        obtain ⟨al, cl, hal⟩ := row_formB OL.out
        subst hal
        obtain ⟨le, hle⟩ : ∃ le, t.length = le := ⟨_, rfl⟩
        have LE : Hid (le ≤ 400000) := by have := NK.out.len; have := HL.out; have := HN.out; show _ ≤ _; omega
        have OL' : Hid (wr.ownsRow w3.heap.size 3 1 (.slice al le cl) le (nums t)) := by have h := OL.out; rw [hle] at h; exact h
        rw [hle]
        have HE := Lib.hid hle
        by_cases hin : i < n
        · have hin' : i < ars.length := by rw [HN.out]; exact hin
          have HI' := Lib.hid hin'
          obtain ⟨x, y, exy, hx, hy, _⟩ := arc_nat NB.out hin'
          obtain ⟨b, off, rfl, o0, o1⟩ := (AA.out.below BY.out).at_ hin'
          rw [exy] at o0 o1
          dsimp only at o0 o1
          have EXY := Lib.hid exy; have HX := Lib.hid hx; have HY := Lib.hid hy
          clear exy hx hy hin' hle
          obtain ⟨i1, hi1⟩ : ∃ i1, i + 1 = i1 := ⟨_, rfl⟩
          have HI := Lib.hid hi1
          have i00 : (0 : Int) ≤ (i : Int) := by omega
          have il : (i : Int) < (n : Int) := by omega
          have f1 : (i : Int) + 1 = (i1 : Int) := by omega
          have f2 : IntKind.i64.wrap (i1 : Int) = (i1 : Int) := by rw [IntKind.wrap_i64]; have := HL.out; have := HN.out; omega
          clear hi1
          obtain ⟨xb, hxb⟩ : ∃ xb, wr.heap.size = xb := ⟨_, rfl⟩
          obtain ⟨W2, hW2⟩ : ∃ W2, wr.alloc (.cells #[.int .i64 (x : Int), .int .i64 (y : Int)] 45) = W2 := ⟨_, rfl⟩
          have r2 : Row W2 xb 45 [.int .i64 (x : Int), .int .i64 (y : Int)] := by rw [← hW2, ← hxb]; exact Row.new _ _ _
          have b2 : Below wr.heap.size wr W2 := by rw [← hW2]; exact (Below.refl _ _).alloc (Nat.le_refl _) _
          have x0 := r2.cell (i := 0) rfl; have x1 := r2.cell (i := 1) rfl
          have rr := R1.out.below (B4.out.trans (b2.mono B4.out.size)) R1.out.lt
          have p0 := rr.cell (i := 0) rfl; have p1 := rr.cell (i := 1) rfl
          have rr1 := R1.out.below B4.out R1.out.lt
          have q0 := rr1.cell (i := 0) rfl; have q1 := rr1.cell (i := 1) rfl
          have C2 := Lib.hid (BL.out.trans (b2.mono BL.out.size))
          have O2 := Lib.hid (own_same OL.out (fun g e => b2.block g (OL.out.lt g e).2))
          have S2 : Hid (w3.heap.size ≤ W2.heap.size) := C2.out.size
          have X2 := Lib.hid r2
          clear r2 rr rr1 b2
          by_cases hx : x = k
          · obtain rfl := hx
            by_cases hy : y = x
            · obtain rfl := hy
              have K2 := Lib.hid (NK.out.skip HI'.out EXY.out HX.out HY.out (Or.inl ⟨rfl, rfl⟩))
              go_wp2_with fail
              go_roundw
              case measure => simp [intOf]; have := HI.out; omega
              case rel => exact ⟨i1, t, by have := HI.out; omega, rfl, by show World.ownsRow _ _ _ _ _ _ _; rw [HE.out]; have h := O2.out; rw [HE.out] at h; exact h, by have := HI.out; subst this; exact K2, C2⟩
            · have y1 : ((y : Int) == (x : Int)) = false := by simp; omega
              have y2 : ((y : Int) != (x : Int)) = true := by simp; omega
              have CW := Lib.hid (with_own (IntsAt.of_row O2.out) (y : Int) NK.out.inc (by have := LE.out; have := HE.out; omega))
              rw [HE.out] at CW
              go_wp2_with fail
              refine (CW.out).mono ?_; rintro e w7 ⟨r, s', rfl, ho, hs', hm', hl', b⟩
              have K2 := Lib.hid (NK.out.out HI'.out EXY.out HX.out HY.out hy hs' hm' hl')
              have O7 := Lib.hid (own_next (r := r) (t := s') O2.out b S2.out (by rw [HE.out]; exact ho))
              have B7 := Lib.hid (C2.out.trans (b.mono C2.out.size))
              have X7 := X2.out.below b X2.out.lt
              have z0 := X7.cell (i := 0) rfl; have z1 := X7.cell (i := 1) rfl
              clear ho hs' hm' hl' b X7
              go_wp2_with fail
              go_roundw
              case measure => simp [intOf]; have := HI.out; omega
              case rel => exact ⟨i1, s', by have := HI.out; omega, rfl, O7, by have := HI.out; subst this; exact K2, B7⟩
          · have x2 : ((x : Int) == (k : Int)) = false := by simp; omega
            by_cases hy : y = k
            · obtain rfl := hy
              have x3 : ((x : Int) != (y : Int)) = true := by simp; omega
              have CW := Lib.hid (with_own (IntsAt.of_row O2.out) (x : Int) NK.out.inc (by have := LE.out; have := HE.out; omega))
              rw [HE.out] at CW
              go_wp2_with fail
              refine (CW.out).mono ?_; rintro e w7 ⟨r, s', rfl, ho, hs', hm', hl', b⟩
              have K2 := Lib.hid (NK.out.inn HI'.out EXY.out HX.out HY.out hx hs' hm' hl')
              have O7 := Lib.hid (own_next (r := r) (t := s') O2.out b S2.out (by rw [HE.out]; exact ho))
              have B7 := Lib.hid (C2.out.trans (b.mono C2.out.size))
              clear ho hs' hm' hl' b
              go_wp2_with fail
              go_roundw
              case measure => simp [intOf]; have := HI.out; omega
              case rel => exact ⟨i1, s', by have := HI.out; omega, rfl, O7, by have := HI.out; subst this; exact K2, B7⟩
            · have y1 : ((y : Int) == (k : Int)) = false := by simp; omega
              have K2 := Lib.hid (NK.out.skip HI'.out EXY.out HX.out HY.out (Or.inr ⟨hx, hy⟩))
              go_wp2_with fail
              go_roundw
              case measure => simp [intOf]; have := HI.out; omega
              case rel => exact ⟨i1, t, by have := HI.out; omega, rfl, by show World.ownsRow _ _ _ _ _ _ _; rw [HE.out]; have h := O2.out; rw [HE.out] at h; exact h, by have := HI.out; subst this; exact K2, C2⟩
        · have il : ¬ (i : Int) < (n : Int) := by omega
          obtain rfl : i = n := by omega
          have rr := R1.out.below B4.out R1.out.lt
          have q0 := rr.cell (i := 0) rfl; have q1 := rr.cell (i := 1) rfl
          clear rr hle
          have O4 := Lib.hid (O3.out.keep BL.out)
          have OV : Hid (Own1 wr (.slice al le cl) t) := by
            have h := own_base OL'.out (Nat.zero_le _)
            unfold Own1
            rw [HE.out]; exact h
          have DV : Hid (∀ q, (Value.slice au k cu).ownBlock = some q → (Value.slice al le cl).ownBlock ≠ some q) := fun q e1 e2 => by
            have h1 := (O3.out.own.lt q e1).2; have h2 := (OL'.out.lt q e2).1; omega
          have SB : Hid (W1.heap.size ≤ wr.heap.size) := B4.out.size
          have IT : Hid (∀ j, j < k1 → IsSet ((nbs ars ars.length m).getD j []) ((ss ++ [t]).getD j []) ∧ ((ss ++ [t]).getD j []).length ≤ 1000000) := by
            intro j hj
            have ll := O3.out.ll
            rw [getD_snocL, ll]
            by_cases e : j = k
            · rw [if_pos e, e]
              refine ⟨⟨NK.out.inc, fun z => ?_⟩, by have := LE.out; have := HE.out; omega⟩
              rw [HN.out]; exact NK.out.mem z
            · rw [if_neg e]; exact IS.out j (by have := HK.out; omega)
          clear OL' OL BL O3 B3 NK
          go_wp2_with (at_builtin; refine wpList_append_own_at _ rfl _ _ 41 rfl W1.heap.size 22 j0 nilV 1 24 Try.underlying41 JI.out Y0.out Y1.out Y2.out rfl (by decide) (.slice au k cu) k vs rfl (O4.out.own.alloc _) ⟨wr.heap.size, 0, none⟩ 1 1 [.slice al le cl] rfl rfl (cell_one_new _ _ _) (by simp [Value.oneCell']) (by have := HM.out; have := HKM.out; unfold maxLen; omega) (by have := HM.out; have := HKM.out; omega) (by have := SB.out; simp; omega) ?_; intro v' w7 hown' hgrow hnil hloc; have P7 := Lib.hid (or_append O4.out SB.out OV.out DV.out hown' hgrow hloc); clear hown' hgrow hnil hloc)
          go_roundw
          case measure => simp [intOf]; have := HK.out; have := HKM.out; omega
          case rel => exact ⟨k1, _, _, by have := HK.out; have := HKM.out; omega, rfl, by have := HK.out; subst this; exact P7.out.1, IT, B4.out.trans P7.out.2⟩
    · have kl : ¬ (k : Int) < (m : Int) := by omega
      obtain rfl : k = m := by omega
      have RA := Lib.hid OK.out.rows
      have LL := Lib.hid OK.out.ll
      clear OK
      go_wp2_with fail
      go_ret
      exact ⟨_, _, rfl, RA.out, LL.out, IS.out, BX.out⟩
end Go.Proofs.Ythfecllgkldgfaa
