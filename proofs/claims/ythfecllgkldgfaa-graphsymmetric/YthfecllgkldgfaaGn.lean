/- graph: the reference's Out and In; GraphArcs. -/
import Derived.Test.YthfecllgkldgfaaGm
namespace Go.Proofs.Ythfecllgkldgfaa
open Go.ChangeShapes Go.WideShapes Go.ChangeAt Go.RowKit Go.Joins Go.Deep

/- rows appended one by one to a row of the call's own -/
structure OR (w : World) (base : Nat) (u : Value) (k : Nat) (vs : List Value) (ls : List (List Int)) : Prop where
  own : w.ownsRow base 22 1 u k vs
  vl : vs.length = k
  ll : ls.length = k
  i : ∀ j, j < k → Own1 w (vs.getD j nilV) (ls.getD j [])
  d : ∀ j a, j < k → u.ownBlock = some a → (vs.getD j nilV).ownBlock ≠ some a
theorem own_same {w W : World} {base e size : Nat} {v : Value} {n : Nat} {xs : List Value} (h : w.ownsRow base e size v n xs) (s : ∀ g, v.ownBlock = some g → W.heap[g]? = w.heap[g]?) : W.ownsRow base e size v n xs := by
  refine ⟨h.1, ?_⟩
  rcases h.2 with h0 | ⟨g, cap, cur, rfl, h2, hg, h3⟩
  · exact Or.inl h0
  · exact Or.inr ⟨g, cap, cur, rfl, h2, by rw [s g rfl]; exact hg, h3⟩
theorem OR.keep {w W : World} {base k : Nat} {u : Value} {vs : List Value} {ls : List (List Int)} (h : OR w base u k vs ls) (b : Below w.heap.size w W) : OR W base u k vs ls :=
  ⟨own_same h.own (fun g e => b.block g (h.own.lt g e).2), h.vl, h.ll, fun j hj => (h.i j hj).same (fun g e => b.block g ((h.i j hj).lt g e).2), h.d⟩
theorem OR.form {w : World} {base k : Nat} {u : Value} {vs : List Value} {ls : List (List Int)} (h : OR w base u k vs ls) : ∃ a cap, u = .slice a k cap := by
  rcases h.own.2 with ⟨rfl, rfl⟩ | ⟨g, cap, cur, rfl, _⟩
  · exact ⟨none, 0, rfl⟩
  · exact ⟨_, cap, rfl⟩
theorem OR.rows {w : World} {base k : Nat} {u : Value} {vs : List Value} {ls : List (List Int)} (h : OR w base u k vs ls) : RowsAt w u ls := by
  rcases h.own.2 with ⟨rfl, h0⟩ | ⟨g, cap, cur, rfl, _, hg, h1, h2, h3, h4⟩
  · have hl := h.ll
    rw [h0] at hl
    rw [List.eq_nil_of_length_eq_zero hl]; exact ⟨none, 0, rfl, Or.inl rfl⟩
  · refine ⟨_, cap, by rw [h.ll], Or.inr ⟨g, rfl, fun j hj => ?_⟩⟩
    rw [h.ll] at hj
    refine ⟨vs.getD j nilV, ?_, IntsAt.of_row (h.i j hj)⟩
    have e4 : vs[j]? = some (vs.getD j nilV) := by rw [List.getD, List.getElem?_eq_getElem (by rw [h.vl]; exact hj)]; rfl
    rw [← h4, List.getElem?_take, if_pos (by omega)] at e4
    unfold World.cell?; rw [hg]
    have e5 : cur.toList[j]? = some (vs.getD j nilV) := by rw [e4, h4]
    simpa using e5
theorem getD_snocV (l : List Value) (x : Value) (j : Nat) : (l ++ [x]).getD j nilV = if j = l.length then x else l.getD j nilV := by
  rw [List.getD, List.getElem?_append]
  by_cases h : j < l.length
  · rw [if_pos h, if_neg (by omega)]; rfl
  · rw [if_neg h]
    by_cases e : j = l.length
    · rw [if_pos e, e]; simp
    · rw [if_neg e, List.getElem?_eq_none (by simp; omega), List.getD, List.getElem?_eq_none (by omega)]
theorem getD_snocL (l : List (List Int)) (x : List Int) (j : Nat) : (l ++ [x]).getD j [] = if j = l.length then x else l.getD j [] := by
  rw [List.getD, List.getElem?_append]
  by_cases h : j < l.length
  · rw [if_pos h, if_neg (by omega)]; rfl
  · rw [if_neg h]
    by_cases e : j = l.length
    · rw [if_pos e, e]; simp
    · rw [if_neg e, List.getElem?_eq_none (by simp; omega), List.getD, List.getElem?_eq_none (by omega)]
theorem or_append {w w4 : World} {base k : Nat} {u u' v : Value} {vs : List Value} {ls : List (List Int)} {s : List Int} {o : Obj} (h : OR w base u k vs ls) (hb : base ≤ w.heap.size) (hv : Own1 w v s) (hn : ∀ a, u.ownBlock = some a → v.ownBlock ≠ some a)
    (own : w4.ownsRow base 22 1 u' (k + 1) (vs ++ [v])) (gr : (w.alloc o).grownBy w4 u.ownBlock) (loc : u'.ownBlock = u.ownBlock ∨ u'.ownBlock = some (w.alloc o).heap.size) : OR w4 base u' (k + 1) (vs ++ [v]) (ls ++ [s]) ∧ Below base w w4 := by
  have sa : (w.alloc o).heap.size = w.heap.size + 1 := World.size_alloc _ _
  have blk : ∀ a, a < w.heap.size → u.ownBlock ≠ some a → w4.heap[a]? = w.heap[a]? := fun a h1 h2 => by
    rw [gr.block a (by omega) (fun e => h2 e.symm), Below.heap_alloc _ _ _ h1]
  refine ⟨⟨own, by rw [List.length_append, h.vl]; rfl, by rw [List.length_append, h.ll]; rfl, fun j hj => ?_, fun j a hj ha => ?_⟩, ((Below.refl base w).alloc hb o).grown gr (by omega) (fun q e => (h.own.lt q e).1)⟩
  · rw [getD_snocV, getD_snocL, h.vl, h.ll]
    by_cases e : j = k
    · rw [if_pos e, if_pos e]
      exact hv.same (fun g hg => blk g (hv.lt g hg).2 (fun e2 => hn g e2 hg))
    · rw [if_neg e, if_neg e]
      have hjk : j < k := by omega
      exact (h.i j hjk).same (fun g hg => blk g ((h.i j hjk).lt g hg).2 (fun e2 => h.d j g hjk e2 hg))
  · rw [getD_snocV, h.vl]
    by_cases e : j = k
    · rw [if_pos e]
      rcases loc with h2 | h2
      · exact hn a (h2 ▸ ha)
      · intro hg
        rw [h2] at ha; injection ha with ha
        have := (hv.lt a hg).2; omega
    · rw [if_neg e]
      have hjk : j < k := by omega
      rcases loc with h2 | h2
      · exact h.d j a hjk (h2 ▸ ha)
      · intro hg
        rw [h2] at ha; injection ha with ha
        have := ((h.i j hjk).lt a hg).2; omega
theorem row_formB {w : World} {base : Nat} {v : Value} {n : Nat} {xs : List Value} (h : w.ownsRow base 3 1 v n xs) : ∃ a cap, v = .slice a n cap := by
  rcases h.2 with ⟨rfl, rfl⟩ | ⟨g, cap, cur, rfl, _⟩
  · exact ⟨none, 0, rfl⟩
  · exact ⟨_, cap, rfl⟩
theorem groups_more (f : Int × Int → Int) (l : List (Int × Int)) (n k : Nat) : groups f l n (k + 1) = groups f l n k ++ [ends f l n k] := by unfold groups; rw [List.range_succ, List.map_append]; rfl
theorem outr_bad {w : World} {N : Int} {v : Value} {ars : List (Int × Int)} (h : ArcsAt w v ars) (hc : chk N ars ≠ 0) : Calls Try.prog 39 #[gv N v] w fun e w' => e = .returned nilV ∧ Below w.heap.size w w' := by
  have A0 := h
  obtain ⟨a, cap, rfl, _⟩ := h
  have CK := Lib.hid (fun W (b : Below w.heap.size w W) => checkr_any (N := N) (A0.below b))
  obtain ⟨n, hn⟩ : ∃ n, ars.length = n := ⟨_, rfl⟩
  obtain ⟨c, hcc⟩ : ∃ c, chk N ars = c := ⟨_, rfl⟩
  rw [hn] at CK ⊢
  rw [hcc] at CK hc
  have c1 : (c == 0) = false := by simpa using hc
  obtain ⟨W1, hW1⟩ : ∃ W1, w.alloc (.cells #[.int .i64 N, .slice a n cap] 33) = W1 := ⟨_, rfl⟩
  have r1 : Row W1 w.heap.size 33 [.int .i64 N, .slice a n cap] := by rw [← hW1]; exact Row.new _ _ _
  have q0 := r1.cell (i := 0) rfl; have q1 := r1.cell (i := 1) rfl
  have BB := Lib.hid (show Below w.heap.size w W1 by rw [← hW1]; exact (Below.refl _ _).alloc (Nat.le_refl _) _)
  clear r1 A0 hn hcc hc
  by_cases hN : 0 < N
  · go_enter Try.func39, Try.ntmps39
    go_wp2_with fail
    go_loopw [3, 4] (fun s3 s wr => s3 = nilV ∧ s = .int .i64 0 ∧ wr = W1) (fun _ _ _ => 0)
    case atStart => exact ⟨rfl, rfl, rfl⟩
    case round =>
      obtain ⟨rfl, rfl, rfl⟩ := hrel
      go_wp2_with fail
      refine (CK.out _ BB.out).mono ?_; rintro e w3 ⟨rfl, b⟩
      have FB := Lib.hid (BB.out.trans (b.mono BB.out.size))
      clear b
      go_wp2_with fail
      go_ret
      exact ⟨rfl, FB.out⟩
  · go_enter Try.func39, Try.ntmps39
    go_wp2_with fail
    go_loopw [3, 4] (fun s3 s wr => s3 = nilV ∧ s = .int .i64 0 ∧ wr = W1) (fun _ _ _ => 0)
    case atStart => exact ⟨rfl, rfl, rfl⟩
    case round =>
      obtain ⟨rfl, rfl, rfl⟩ := hrel
      go_wp2_with fail
      go_ret
      exact ⟨rfl, BB.out⟩
set_option maxRecDepth 100000 in
set_option maxHeartbeats 8000000 in
theorem outr_any {w : World} {m : Nat} {v : Value} {ars : List (Int × Int)} (h : ArcsAt w v ars) (hc : chk (m : Int) ars = 0) : Calls Try.prog 39 #[gv (m : Int) v] w fun e w' => ∃ u, e = .returned u ∧ RowsAt w' u (groups Prod.fst ars ars.length m) ∧ Below w.heap.size w w' := by
  obtain ⟨i0, hi, hz0, hz1, hz2⟩ := Go.info_parts Try.info3
  have II := Lib.hid hi; have Z0 := Lib.hid hz0; have Z1 := Lib.hid hz1; have Z2 := Lib.hid hz2
  clear hi hz0 hz1 hz2
  obtain ⟨j0, hi, hz0, hz1, hz2⟩ := Go.info_parts info22
  have JI := Lib.hid hi; have Y0 := Lib.hid hz0; have Y1 := Lib.hid hz1; have Y2 := Lib.hid hz2
  clear hi hz0 hz1 hz2
  obtain ⟨nl, nb⟩ := chk_zero hc
  unfold long at nl
  have hm : m ≤ 1048576 := by omega
  have hl : ars.length ≤ 4194304 := by omega
  have A0 := h
  obtain ⟨a, cap, rfl, _⟩ := h
  have CK := Lib.hid (fun W (b : Below w.heap.size w W) => checkr_any (N := (m : Int)) (A0.below b))
  have AA := Lib.hid A0
  obtain ⟨n, hn⟩ : ∃ n, ars.length = n := ⟨_, rfl⟩
  have HN := Lib.hid hn; have HM := Lib.hid hm; have HL := Lib.hid hl
  rw [hn] at CK AA ⊢
  rw [hc] at CK
  obtain ⟨W1, hW1⟩ : ∃ W1, w.alloc (.cells #[.int .i64 (m : Int), .slice a n cap] 33) = W1 := ⟨_, rfl⟩
  have r1 : Row W1 w.heap.size 33 [.int .i64 (m : Int), .slice a n cap] := by rw [← hW1]; exact Row.new _ _ _
  have R1 := Lib.hid r1
  have BB := Lib.hid (show Below w.heap.size w W1 by rw [← hW1]; exact (Below.refl _ _).alloc (Nat.le_refl _) _)
  clear r1 A0 hn hc hm hl nl nb
  go_enter Try.func39, Try.ntmps39
  go_wp2_with fail
  clear hW1
  go_loopw [3, 4] (fun s3 s4 wr => ∃ (k : Nat) (vs : List Value), k ≤ m ∧ s4 = .int .i64 (k : Int) ∧ Hid (OR wr W1.heap.size s3 k vs (groups Prod.fst ars n k)) ∧ Hid (Below W1.heap.size W1 wr)) (fun _ s4 _ => m - (intOf s4).toNat)
  case atStart => exact ⟨0, [], Nat.zero_le _, rfl, ⟨World.ownsRow_nil _ _ _ _, rfl, rfl, fun j hj => absurd hj (by omega), fun j _ hj => absurd hj (by omega)⟩, Below.refl _ _⟩
  case round =>
    obtain ⟨k, vs, hk, rfl, OK, BW⟩ := hrel
    obtain ⟨au, cu, hu⟩ := OK.out.form
    subst hu
    have BX := Lib.hid (BB.out.trans (BW.out.mono BB.out.size))
    have rr := R1.out.below BW.out R1.out.lt
    have q0 := rr.cell (i := 0) rfl; have q1 := rr.cell (i := 1) rfl
    clear rr
    by_cases hkm : k < m
    · obtain ⟨k1, hk1⟩ : ∃ k1, k + 1 = k1 := ⟨_, rfl⟩
      have HK := Lib.hid hk1
      have k0 : (0 : Int) ≤ (k : Int) := by omega
      have kl : (k : Int) < (m : Int) := by omega
      have e1 : (k : Int) + 1 = (k1 : Int) := by omega
      have e2 : IntKind.i64.wrap (k1 : Int) = (k1 : Int) := by rw [IntKind.wrap_i64]; have := HM.out; omega
      clear hk1
      go_wp2_with fail
      refine (CK.out _ BX.out).mono ?_; rintro e w3 ⟨rfl, b⟩
      have O3 := Lib.hid (OK.out.keep b); have B3 := Lib.hid (BW.out.trans (b.mono BW.out.size))
      have BX3 := Lib.hid (BX.out.trans (b.mono BX.out.size))
      clear b OK BW BX q0 q1
      go_wp2_with fail
      go_loopw [5, 6] (fun s5 s6 wq => ∃ i : Nat, i ≤ n ∧ s6 = .int .i64 (i : Int) ∧ Hid (wq.ownsRow w3.heap.size 3 1 s5 (ends Prod.fst ars i k).length (nums (ends Prod.fst ars i k))) ∧ Hid (Below w3.heap.size w3 wq)) (fun _ s6 _ => n - (intOf s6).toNat)
      case atStart => exact ⟨0, Nat.zero_le _, rfl, World.ownsRow_nil _ _ _ _, Below.refl _ _⟩
      case round =>
        obtain ⟨i, hi, rfl, OL, BL⟩ := hrel
        have BY := Lib.hid (BX3.out.trans (BL.out.mono BX3.out.size))
        have B4 := Lib.hid (B3.out.trans (BL.out.mono B3.out.size))
        have rr := R1.out.below B4.out R1.out.lt
        have q0 := rr.cell (i := 0) rfl; have q1 := rr.cell (i := 1) rfl
        clear rr
        obtain ⟨al, cl, hal⟩ := row_formB OL.out
        subst hal
        obtain ⟨le, hle⟩ : ∃ le, (ends Prod.fst ars i k).length = le := ⟨_, rfl⟩
        have OL' : Hid (wr.ownsRow w3.heap.size 3 1 (.slice al le cl) le (nums (ends Prod.fst ars i k))) := by have h := OL.out; rw [hle] at h; exact h
        rw [hle]
        have HE := Lib.hid hle
        have LE0 := Lib.hid (show le ≤ i by have := ends_len Prod.fst ars i k; omega)
        clear OL
        have LE : Hid (le ≤ 4194304) := by have := LE0.out; have := HL.out; have := HN.out; show _ ≤ _; omega
        clear hle
        by_cases hin : i < n
        · obtain ⟨b, off, rfl, o0, o1⟩ := (AA.out.below BY.out).at_ (j := i) (by rw [HN.out]; exact hin)
          have ES := Lib.hid (ends_succ Prod.fst ars i k)
          obtain ⟨⟨x, y⟩, hz⟩ : ∃ z, ars.getD i (0, 0) = z := ⟨_, rfl⟩
          rw [hz] at o0 o1 ES
          dsimp only at o0 o1 ES
          obtain ⟨i1, hi1⟩ : ∃ i1, i + 1 = i1 := ⟨_, rfl⟩
          rw [hi1] at ES
          have HI := Lib.hid hi1
          have i00 : (0 : Int) ≤ (i : Int) := by omega
          have il : (i : Int) < (n : Int) := by omega
          have f1 : (i : Int) + 1 = (i1 : Int) := by omega
          have f2 : IntKind.i64.wrap (i1 : Int) = (i1 : Int) := by rw [IntKind.wrap_i64]; have := HL.out; have := HN.out; omega
          clear hz hi1
          by_cases hx : x = (k : Int)
          · obtain rfl := hx
            have E2 : Hid (ends Prod.fst ars i1 k = ends Prod.fst ars i k ++ [(i : Int)]) := by have h := ES.out; rw [if_pos rfl] at h; exact h
            have SB : Hid (w3.heap.size ≤ wr.heap.size) := BL.out.size
            clear ES
            go_wp2_with (at_builtin; refine wpList_append_own_at _ rfl _ _ 22 rfl w3.heap.size 3 i0 (.int .i64 0) 1 8 Try.underlying22 II.out Z0.out Z1.out Z2.out rfl (by decide) (.slice al le cl) le (nums (ends Prod.fst ars i k)) rfl (OL'.out.alloc _) ⟨wr.heap.size, 0, none⟩ 1 1 [.int .i64 i] rfl rfl (cell_one_new _ _ _) (by simp [Value.oneCell']) (by have := LE.out; unfold maxLen; omega) (by have := LE.out; omega) (by have := SB.out; simp; omega) ?_; intro v' w7 hown' hgrow hnil hloc; have O7 := Lib.hid hown'; have G7 := Lib.hid hgrow; clear hown' hgrow hnil hloc)
            have O8 : Hid (w7.ownsRow w3.heap.size 3 1 v' (ends Prod.fst ars i1 k).length (nums (ends Prod.fst ars i1 k))) := by
              show World.ownsRow _ _ _ _ _ _ _
              rw [E2.out, List.length_append, nums_append, HE.out]; exact O7.out
            have B8 : Hid (Below w3.heap.size w3 w7) := (BL.out.alloc SB.out _).grown G7.out (by have := SB.out; simp; omega) (fun q e => (OL'.out.lt q e).1)
            go_roundw
            case measure => simp [intOf]; have := HI.out; omega
            case rel => exact ⟨i1, by have := HI.out; omega, rfl, O8, B8⟩
          · have hx' : (x == (k : Int)) = false := by simpa using hx
            have E2 : Hid (ends Prod.fst ars i1 k = ends Prod.fst ars i k) := by have h := ES.out; rw [if_neg hx] at h; exact h
            clear ES
            go_wp2_with fail
            go_roundw
            case measure => simp [intOf]; have := HI.out; omega
            case rel => exact ⟨i1, by have := HI.out; omega, rfl, by show World.ownsRow _ _ _ _ _ _ _; rw [E2.out, HE.out]; exact OL'.out, BL⟩
        · have il : ¬ (i : Int) < (n : Int) := by omega
          obtain rfl : i = n := by omega
          have O4 := Lib.hid (O3.out.keep BL.out)
          have OV : Hid (Own1 wr (.slice al le cl) (ends Prod.fst ars i k)) := by
            have h := OL'.out
            unfold Own1
            rw [HE.out]
            exact ⟨h.1, by
              rcases h.2 with h0 | ⟨g', c', cur, e, _, h3⟩
              · exact Or.inl h0
              · exact Or.inr ⟨g', c', cur, e, Nat.zero_le _, h3⟩⟩
          have DV : Hid (∀ q, (Value.slice au k cu).ownBlock = some q → (Value.slice al le cl).ownBlock ≠ some q) := fun q e1 e2 => by
            have h1 := (O3.out.own.lt q e1).2; have h2 := (OL'.out.lt q e2).1; omega
          have SB : Hid (W1.heap.size ≤ wr.heap.size) := B4.out.size
          clear OL' BL O3 B3
          go_wp2_with (at_builtin; refine wpList_append_own_at _ rfl _ _ 41 rfl W1.heap.size 22 j0 nilV 1 24 Try.underlying41 JI.out Y0.out Y1.out Y2.out rfl (by decide) (.slice au k cu) k vs rfl (O4.out.own.alloc _) ⟨wr.heap.size, 0, none⟩ 1 1 [.slice al le cl] rfl rfl (cell_one_new _ _ _) (by simp [Value.oneCell']) (by have := HM.out; unfold maxLen; omega) (by have := HM.out; omega) (by have := SB.out; simp; omega) ?_; intro v' w7 hown' hgrow hnil hloc; have P7 := Lib.hid (or_append O4.out SB.out OV.out DV.out hown' hgrow hloc); clear hown' hgrow hnil hloc)
          go_roundw
          case measure => simp [intOf]; have := HK.out; omega
          case rel => exact ⟨k1, _, by have := HK.out; omega, rfl, by show OR _ _ _ _ _ _; rw [← HK.out, groups_more]; exact P7.out.1, B4.out.trans P7.out.2⟩
    · have kl : ¬ (k : Int) < (m : Int) := by omega
      obtain rfl : k = m := by omega
      have RA := Lib.hid OK.out.rows
      clear OK
      go_wp2_with fail
      go_ret
      exact ⟨_, rfl, RA.out, BX.out⟩
end Go.Proofs.Ythfecllgkldgfaa
