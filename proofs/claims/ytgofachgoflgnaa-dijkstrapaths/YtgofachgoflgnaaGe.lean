/- graph: the reference's Reverse. -/
import Derived.Test.YtgofachgoflgnaaGd
import Derived.Test.YtgofachgoflgnaaDr
namespace Go.Proofs.Ytgofachgoflgnaa
open Go.ChangeShapes Go.WideShapes Go.ChangeAt Go.RowKit Go.Joins Go.Deep

/- append to an own row, as one step of a region that draws its order -/
theorem step_append_own {P : Program} {ops : Array Oper} {o : Oper} {a : Act} {w : World} {K : Act → World → Prop} {Q : Exit → Act → World → Prop} {E : Prop} (hgd : o.guard = none) (s x : Operand) (t : TypeId)
    (ho : o.op = .call { callee := .builtin .append, args := #[s, x], argTypes := #[t, t] })
    (base : Nat) (e : TypeId) (i : TypeInfo) (z : Value) (size bytes : Nat) (ht : P.underlying t = some (.slice e)) (hi : P.info? e = some i) (hz : i.zero = some z)
    (hsize : i.size = size) (hby : i.bytes = bytes) (hzs : z.cells.size = size) (hsz : 0 < size)
    (v : Value) (n : Nat) (xs : List Value) (hs : a.eval s = v) (hown : w.ownsRow base e size v n xs)
    (ad : Addr) (m c : Nat) (news : List Value) (hx : a.eval x = .slice (some ad) m c) (hl : news.length = m * size) (hnews : ∀ j u, news[j]? = some u → w.cell? (ad.add j) = some u) (h1 : ∀ u ∈ news, u.oneCell' = true)
    (h63 : n + m ≤ maxLen) (hbytes : (n + m) * bytes ≤ 140737488355328) (hbase : base ≤ w.heap.size)
    (h : ∀ v' w', w'.ownsRow base e size v' (n + m) (xs ++ news) → w.grownBy w' v.ownBlock → (v'.ownBlock = v.ownBlock ∨ v'.ownBlock = some w.heap.size) → K (a.put o.dst v') w') :
    if Region.wanted o (yielded ops a.tmps) = true then Oper.wp P o a w K Q else E := by
  have hw : Region.wanted o (yielded ops a.tmps) = true := by simp [Region.wanted, hgd]
  rw [if_pos hw]
  obtain ⟨v', w', hr, h2, h3, _, h5⟩ := run_append_own_at (P := P) w base t o.type e i z size bytes ht hi hz hsize hby hzs hsz v n xs hown ad m c news hl hnews h1 h63 hbytes hbase
  unfold Oper.wp
  simp [execOp, ho, resolve, invoke, builtin, hs, hx, hr, Result.andThen]
  exact h v' w' h2 h3 h5
theorem own_drew {w : World} {base e size : Nat} {v : Value} {n : Nat} {xs : List Value} (h : w.ownsRow base e size v n xs) : w.drew.ownsRow base e size v n xs := h
theorem flip_take {l : List (Int × Int)} {k : Nat} (h : k < l.length) : (l.take (k + 1)).map flip = (l.take k).map flip ++ [flip (l.getD k (0, 0))] := by
  rw [List.take_add_one, List.getElem?_eq_getElem h, List.map_append, List.getD, List.getElem?_eq_getElem h]; rfl
theorem two_new (w : World) (x y : Value) (t : TypeId) : ∀ j u, [x, y][j]? = some u → (w.alloc (.cells #[x, y] t)).drew.cell? ((⟨w.heap.size, 0, none⟩ : Addr).add j) = some u := by
  intro j u hu
  have r := Row.new w t [x, y]
  have ea : (⟨w.heap.size, 0, none⟩ : Addr).add j = ⟨w.heap.size, 0 + j, none⟩ := Addr.add_lit _ _ _
  rw [ea, Nat.zero_add]
  exact (r.same (W := (w.alloc (.cells #[x, y] t)).drew) rfl).cell hu
set_option maxRecDepth 100000 in
set_option maxHeartbeats 4000000 in
theorem revr_bad {w : World} {N : Int} {v : Value} {ars : List (Int × Int)} (h : ArcsAt w v ars) (hc : chk N ars ≠ 0) : Calls Try.prog 21 #[gv N v] w fun e w' => e = .returned (gv 0 (.slice none 0 0)) ∧ Below w.heap.size w w' := by
  have A0 := h
  obtain ⟨a, cap, rfl, _⟩ := h
  obtain ⟨W1, W2, hW1, hW2, z1, BB0⟩ := bx2_new w [.int .i64 N, .slice a ars.length cap] [.int .i64 0, .slice none 0 0]
  have CK := Lib.hid (fun W (b : Below w.heap.size w W) => checkr_any (N := N) (A0.below b))
  obtain ⟨n, hn⟩ : ∃ n, ars.length = n := ⟨_, rfl⟩
  obtain ⟨c, hcc⟩ : ∃ c, chk N ars = c := ⟨_, rfl⟩
  rw [hn] at hW1 BB0 CK ⊢
  rw [hcc] at CK hc
  have BB := Lib.hid BB0
  have q0 := BB0.a.cell (i := 0) rfl; have q1 := BB0.a.cell (i := 1) rfl
  have c1 : (c == 0) = false := by simpa using hc
  clear BB0 A0 hn hcc hc
  go_enter Try.func21, Try.ntmps21
  go_wp2_with fail
  refine (CK.out _ BB.out.b).mono ?_; rintro e w3 ⟨rfl, b⟩
  have z3 := BB.out.c.below b BB.out.c.lt
  have d0 := z3.cell (i := 0) rfl; have d1 := z3.cell (i := 1) rfl; have f0 := z3.fr (i := 0); have f1 := z3.fr (i := 1)
  obtain ⟨W9, hW9⟩ : ∃ W9, (w3.setCell ⟨w.heap.size + 1, 0, none⟩ (.int .i64 0)).setCell ⟨w.heap.size + 1, 1, none⟩ (.slice none 0 0) = W9 := ⟨_, rfl⟩
  have r9 : Row W9 (w.heap.size + 1) 24 [.int .i64 0, .slice none 0 0] := by rw [← hW9]; exact (z3.set (i := 0) _).set (i := 1) _
  have g0 := r9.cell (i := 0) rfl; have g1 := r9.cell (i := 1) rfl
  have FIN : Hid (Below w.heap.size w W9) := by
    show Below _ _ _
    rw [← hW9]; exact ((BB.out.b.trans (b.mono BB.out.b.size)).setCell (by show w.heap.size ≤ w.heap.size + 1; omega) _).setCell (by show w.heap.size ≤ w.heap.size + 1; omega) _
  clear r9 z3 b
  go_wp2_with fail
  refine bodyPost_ret (by simp [results, Try.results21, go_sem, g0, g1]; rfl) rfl ⟨?_, FIN.out⟩
  rfl
set_option maxRecDepth 100000 in
set_option maxHeartbeats 4000000 in
theorem revr_any {w : World} {N : Int} {v : Value} {ars : List (Int × Int)} (h : ArcsAt w v ars) (hc : chk N ars = 0) (hl : ars.length ≤ 4194304) : Calls Try.prog 21 #[gv N v] w fun e w' => ∃ u, e = .returned (gv N u) ∧ ArcsAt w' u (ars.map flip) ∧ Below w.heap.size w w' := by
  obtain ⟨i0, hi, hz0, hz1, hz2⟩ := Go.info_parts info45
  have II := Lib.hid hi; have Z0 := Lib.hid hz0; have Z1 := Lib.hid hz1; have Z2 := Lib.hid hz2
  clear hi hz0 hz1 hz2
  have A0 := h
  obtain ⟨a, cap, rfl, _⟩ := h
  obtain ⟨W1, W2, hW1, hW2, z1, BB0⟩ := bx2_new w [.int .i64 N, .slice a ars.length cap] [.int .i64 0, .slice none 0 0]
  have CK := Lib.hid (fun W (b : Below w.heap.size w W) => checkr_any (N := N) (A0.below b))
  have AA := Lib.hid A0
  obtain ⟨n, hn⟩ : ∃ n, ars.length = n := ⟨_, rfl⟩
  rw [hn] at hW1 BB0 CK AA ⊢
  rw [hc] at CK
  have BB := Lib.hid BB0; have HN := Lib.hid hn; have HL := Lib.hid hl
  have q0 := BB0.a.cell (i := 0) rfl; have q1 := BB0.a.cell (i := 1) rfl
  clear BB0 A0 hn hc hl
  go_enter Try.func21, Try.ntmps21
  go_wp2_with fail
  refine (CK.out _ BB.out.b).mono ?_; rintro e w3 ⟨rfl, b⟩
  have B3 := Lib.hid (BB.out.b.trans (b.mono BB.out.b.size))
  have R3 := Lib.hid (And.intro (BB.out.a.below b BB.out.a.lt) (BB.out.c.below b BB.out.c.lt))
  have BG : Hid (w.heap.size + 2 ≤ w3.heap.size) := by have := R3.out.2.lt; show _ ≤ _; omega
  clear b q0 q1 hW1 hW2
  go_wp2_with fail
  go_loopw [3, 4] (fun s3 s4 wr => ∃ k : Nat, k ≤ n ∧ s4 = .int .i64 (k : Int) ∧ Hid (AOwn wr w3.heap.size s3 ((ars.take k).map flip)) ∧ Hid (Below w3.heap.size w3 wr)) (fun _ s4 _ => n - (intOf s4).toNat)
  case atStart => exact ⟨0, Nat.zero_le _, rfl, World.ownsRow_nil _ _ _ _, Below.refl _ _⟩
  case round =>
    obtain ⟨k, hk, rfl, UO, BW⟩ := hrel
    obtain ⟨au, cu, hu⟩ := UO.out.form
    have hlk : ((ars.take k).map flip).length = k := by simp; rw [HN.out]; omega
    have BX := Lib.hid (B3.out.trans (BW.out.mono B3.out.size))
    have RX := Lib.hid (And.intro (R3.out.1.below BW.out R3.out.1.lt) (R3.out.2.below BW.out R3.out.2.lt))
    have q0 := RX.out.1.cell (i := 0) rfl; have q1 := RX.out.1.cell (i := 1) rfl
    rw [hlk] at hu
    subst hu
    have UO' : Hid (wr.ownsRow w3.heap.size 47 2 (.slice au k cu) k (acs ((ars.take k).map flip))) := by have h := UO.out; unfold AOwn at h; rw [hlk] at h; exact h
    clear hlk
    by_cases hkn : k < n
    · obtain ⟨b, off, rfl, o0, o1⟩ := (AA.out.below BX.out).at_ (j := k) (by rw [HN.out]; exact hkn)
      have FT := Lib.hid (flip_take (l := ars) (k := k) (by rw [HN.out]; exact hkn))
      obtain ⟨⟨x, y⟩, hz⟩ : ∃ z, ars.getD k (0, 0) = z := ⟨_, rfl⟩
      rw [hz] at o0 o1 FT
      dsimp only at o0 o1
      obtain ⟨k1, hk1⟩ : ∃ k1, k + 1 = k1 := ⟨_, rfl⟩
      rw [hk1] at FT
      have HK := Lib.hid hk1
      have k0 : (0 : Int) ≤ (k : Int) := by omega
      have kl : (k : Int) < (n : Int) := by omega
      have e1 : (k : Int) + 1 = (k1 : Int) := by omega
      have e2 : IntKind.i64.wrap (k1 : Int) = (k1 : Int) := by rw [IntKind.wrap_i64]; have := HL.out; have := HN.out; omega
      clear hz hk1
      go_wp2_with fail
      refine wp_region_drop (fun W => W.cell? ⟨w.heap.size, 1, none⟩ = some (.slice (some ⟨b, off, none⟩) n cap) ∧ W.cell? ⟨b, off + k * 2, none⟩ = some (.int .i64 x) ∧ W.cell? ⟨b, off + k * 2 + 1, none⟩ = some (.int .i64 y)) 14 (by kernel_rfl) ⟨q1, o0, o1⟩ (fun hHeld => ?_)
      refine wpAnyD_pure (i := 0) (v := ?_) rfl (by kernel_rfl) (by kernel_rfl) (by kernel_rfl) (by rfl) (fun _ _ _ h => h) (Or.inl ⟨by rfl, ?_⟩) (by assumption) ?_
      rotate_left 1
      · (intro w; first | (go_simp; done) | (go_simp; with_reducible rfl))
      simp only [Act.put, List.getElem_toArray, List.getElem_cons_zero, List.setIfInBounds_toArray, List.set_cons_zero, List.set_cons_succ]
      refine wpAnyD_pure (i := 1) (v := ?_) rfl (by kernel_rfl) (by kernel_rfl) (by kernel_rfl) (by rfl) (fun _ _ _ h => h) (Or.inl ⟨by rfl, ?_⟩) (by assumption) ?_
      rotate_left 1
      · (intro w; first | (go_simp; done) | (go_simp; with_reducible rfl))
      simp only [Act.put, List.getElem_toArray, List.getElem_cons_zero, List.getElem_cons_succ, List.setIfInBounds_toArray, List.set_cons_zero, List.set_cons_succ]
      refine wpAnyD_take (i := 2) (v := ?_) rfl (by kernel_rfl) (by kernel_rfl) (by kernel_rfl) (by kernel_rfl) (fun _ _ _ h => h) (Or.inl ⟨by rfl, ?_⟩) (by assumption) ?_
      rotate_left 1
      · (intro w hSw; (try dsimp only at hSw); first | (go_simp; done) | (go_simp; with_reducible rfl))
      simp only [Act.put, List.getElem_toArray, List.getElem_cons_zero, List.getElem_cons_succ, List.setIfInBounds_toArray, List.set_cons_zero, List.set_cons_succ]
      refine wpAnyD_pure (i := 3) (v := ?_) rfl (by kernel_rfl) (by kernel_rfl) (by kernel_rfl) (by rfl) (fun _ _ _ h => h) (Or.inl ⟨by rfl, ?_⟩) (by assumption) ?_
      rotate_left 1
      · (intro w; first | (go_simp; done) | (go_simp; with_reducible rfl))
      simp only [Act.put, List.getElem_toArray, List.getElem_cons_zero, List.getElem_cons_succ, List.setIfInBounds_toArray, List.set_cons_zero, List.set_cons_succ]
      refine wpAnyD_pure (i := 4) (v := ?_) rfl (by kernel_rfl) (by kernel_rfl) (by kernel_rfl) (by rfl) (fun _ _ _ h => h) (Or.inl ⟨by rfl, ?_⟩) (by assumption) ?_
      rotate_left 1
      · (intro w; first | (go_simp; done) | (go_simp; with_reducible rfl))
      simp only [Act.put, List.getElem_toArray, List.getElem_cons_zero, List.getElem_cons_succ, List.setIfInBounds_toArray, List.set_cons_zero, List.set_cons_succ]
      refine wpAnyD_pure (i := 5) (v := ?_) rfl (by kernel_rfl) (by kernel_rfl) (by kernel_rfl) (by rfl) (fun _ _ _ h => h) (Or.inl ⟨by rfl, ?_⟩) (by assumption) ?_
      rotate_left 1
      · (intro w; first | (go_simp; done) | (go_simp; with_reducible rfl))
      simp only [Act.put, List.getElem_toArray, List.getElem_cons_zero, List.getElem_cons_succ, List.setIfInBounds_toArray, List.set_cons_zero, List.set_cons_succ]
      refine wpAnyD_take (i := 6) (v := ?_) rfl (by kernel_rfl) (by kernel_rfl) (by kernel_rfl) (by kernel_rfl) (fun _ _ _ h => h) (Or.inl ⟨by rfl, ?_⟩) (by assumption) ?_
      rotate_left 1
      · (intro w hSw; (try dsimp only at hSw); first | (go_simp; done) | (go_simp; with_reducible rfl))
      simp only [Act.put, List.getElem_toArray, List.getElem_cons_zero, List.getElem_cons_succ, List.setIfInBounds_toArray, List.set_cons_zero, List.set_cons_succ]
      refine wpAnyD_pure (i := 7) (v := ?_) rfl (by kernel_rfl) (by kernel_rfl) (by kernel_rfl) (by rfl) (fun _ _ _ h => h) (Or.inl ⟨by rfl, ?_⟩) (by assumption) ?_
      rotate_left 1
      · (intro w; first | (go_simp; done) | (go_simp; with_reducible rfl))
      simp only [Act.put, List.getElem_toArray, List.getElem_cons_zero, List.getElem_cons_succ, List.setIfInBounds_toArray, List.set_cons_zero, List.set_cons_succ]
      refine wpAnyD_take (i := 8) (v := ?_) rfl (by kernel_rfl) (by kernel_rfl) (by kernel_rfl) (by kernel_rfl) (fun _ _ _ h => h) (Or.inl ⟨by rfl, ?_⟩) (by assumption) ?_
      rotate_left 1
      · (intro w hSw; (try dsimp only at hSw); first | (go_simp; done) | (go_simp; with_reducible rfl))
      simp only [Act.put, List.getElem_toArray, List.getElem_cons_zero, List.getElem_cons_succ, List.setIfInBounds_toArray, List.set_cons_zero, List.set_cons_succ]
      refine wpAnyD_pure (i := 9) (v := ?_) rfl (by kernel_rfl) (by kernel_rfl) (by kernel_rfl) (by rfl) (fun _ _ _ h => h) (Or.inl ⟨by rfl, ?_⟩) (by assumption) ?_
      rotate_left 1
      · (intro w; first | (go_simp; done) | (go_simp; with_reducible rfl))
      simp only [Act.put, List.getElem_toArray, List.getElem_cons_zero, List.getElem_cons_succ, List.setIfInBounds_toArray, List.set_cons_zero, List.set_cons_succ]
      refine wpAnyD_pure (i := 10) (v := ?_) rfl (by kernel_rfl) (by kernel_rfl) (by kernel_rfl) (by rfl) (fun _ _ _ h => h) (Or.inl ⟨by rfl, ?_⟩) (by assumption) ?_
      rotate_left 1
      · (intro w; first | (go_simp; done) | (go_simp; with_reducible rfl))
      simp only [Act.put, List.getElem_toArray, List.getElem_cons_zero, List.getElem_cons_succ, List.setIfInBounds_toArray, List.set_cons_zero, List.set_cons_succ]
      refine wpAnyD_pure (i := 11) (v := ?_) rfl (by kernel_rfl) (by kernel_rfl) (by kernel_rfl) (by rfl) (fun _ _ _ h => h) (Or.inl ⟨by rfl, ?_⟩) (by assumption) ?_
      rotate_left 1
      · (intro w; first | (go_simp; done) | (go_simp; with_reducible rfl))
      simp only [Act.put, List.getElem_toArray, List.getElem_cons_zero, List.getElem_cons_succ, List.setIfInBounds_toArray, List.set_cons_zero, List.set_cons_succ]
      refine wpAnyD_take (i := 12) (v := ?_) rfl (by kernel_rfl) (by kernel_rfl) (by kernel_rfl) (by kernel_rfl) (fun _ _ _ h => h) (Or.inl ⟨by rfl, ?_⟩) (by assumption) ?_
      rotate_left 1
      · (intro w hSw; (try dsimp only at hSw); first | (go_simp; done) | (go_simp; with_reducible rfl))
      simp only [Act.put, List.getElem_toArray, List.getElem_cons_zero, List.getElem_cons_succ, List.setIfInBounds_toArray, List.set_cons_zero, List.set_cons_succ]
      refine wpAnyD_pure (i := 13) (v := ?_) rfl (by kernel_rfl) (by kernel_rfl) (by kernel_rfl) (by rfl) (fun _ _ _ h => h) (Or.inl ⟨by rfl, ?_⟩) (by assumption) ?_
      rotate_left 1
      · (intro w; first | (go_simp; done) | (go_simp; with_reducible rfl))
      simp only [Act.put, List.getElem_toArray, List.getElem_cons_zero, List.getElem_cons_succ, List.setIfInBounds_toArray, List.set_cons_zero, List.set_cons_succ]
      clear hHeld
      refine wpAnyD_drop (by kernel_rfl) rfl (fun K hK => ?_)
      go_simp
      refine hK.out _ _ ?_
      clear hK K
      refine wpAny_one (i := 15) (by kernel_rfl) rfl (fun K hK => ?_)
      refine step_append_own rfl _ _ 22 rfl w3.heap.size 47 i0 (.agg #[.int .i64 0, .int .i64 0]) 2 16 Try.underlying22 II.out Z0.out Z1.out Z2.out rfl (by decide) (.slice au k cu) k (acs ((ars.take k).map flip)) rfl ?_ ⟨wr.heap.size, 0, none⟩ 1 1 [.int .i64 y, .int .i64 x] rfl rfl (two_new _ _ _ _) (by simp [Value.oneCell']) (by have := HL.out; have := HN.out; unfold maxLen; omega) (by have := HL.out; have := HN.out; omega) ?_ ?_
      · exact own_drew (UO'.out.alloc _)
      · have := BW.out.size; show _ ≤ ((wr.alloc _).heap.size); simp; omega
      intro v' w4 ow gr loc
      have U4 : Hid (AOwn w4 w3.heap.size v' ((ars.take k1).map flip)) := by
        show AOwn _ _ _ _
        unfold AOwn
        rw [FT.out, acs_append]
        have e : ((ars.take k).map flip ++ [flip (x, y)]).length = k + 1 := by rw [List.length_append]; simp; rw [HN.out]; omega
        rw [e]; exact ow
      have B4 : Hid (Below w3.heap.size w3 w4) := by
        refine (((BW.out).alloc BW.out.size _).drew).grown gr (by have := BW.out.size; show _ ≤ ((wr.alloc _).heap.size); simp; omega) (fun q e => ?_)
        exact (UO'.out.lt q e).1
      refine hK.out _ _ ?_
      clear hK K ow gr loc UO UO' BW BX RX q0 q1 FT
      simp only [Act.put, List.setIfInBounds_toArray]
      refine wpAny_one (i := 16) (by kernel_rfl) rfl (fun K hK => ?_)
      go_simp
      refine hK.out _ _ ?_
      clear hK K
      refine wpAny_done (by kernel_rfl) ?_ _
      go_wp2_with fail
      go_roundw
      case measure => simp [intOf]; have := HK.out; omega
      case rel => exact ⟨k1, by have := HK.out; omega, rfl, U4, B4⟩
    · have kl : ¬ (k : Int) < (n : Int) := by omega
      obtain rfl : k = n := by omega
      have h := UO.out
      rw [List.take_of_length_le (by rw [HN.out]; omega)] at h
      have d0 := RX.out.2.cell (i := 0) rfl; have d1 := RX.out.2.cell (i := 1) rfl; have f0 := RX.out.2.fr (i := 0); have f1 := RX.out.2.fr (i := 1)
      obtain ⟨W9, hW9⟩ : ∃ W9, (wr.setCell ⟨w.heap.size + 1, 0, none⟩ (.int .i64 N)).setCell ⟨w.heap.size + 1, 1, none⟩ (.slice au k cu) = W9 := ⟨_, rfl⟩
      have r9 : Row W9 (w.heap.size + 1) 24 [.int .i64 N, .slice au k cu] := by rw [← hW9]; exact (RX.out.2.set (i := 0) _).set (i := 1) _
      have g0 := r9.cell (i := 0) rfl; have g1 := r9.cell (i := 1) rfl
      have FB : Hid (Below w.heap.size w W9) := by
        show Below _ _ _
        rw [← hW9]; exact (BX.out.setCell (by show w.heap.size ≤ w.heap.size + 1; omega) _).setCell (by show w.heap.size ≤ w.heap.size + 1; omega) _
      have FA : Hid (ArcsAt W9 (.slice au k cu) (ars.map flip)) := by
        have h2 : AOwn W9 w3.heap.size (.slice au k cu) (ars.map flip) := by
          refine ⟨h.1, ?_⟩
          rcases h.2 with h0 | ⟨g', c', cur, e, hb, hh, h3⟩
          · exact Or.inl h0
          · have gw := BG.out
            refine Or.inr ⟨g', c', cur, e, hb, ?_, h3⟩
            rw [← hW9, Below.heap_setCell _ _ _ _ (by show g' ≠ w.heap.size + 1; omega), Below.heap_setCell _ _ _ _ (by show g' ≠ w.heap.size + 1; omega)]; exact hh
        exact h2.at_
      clear r9 UO UO' RX BW BX h
      go_wp2_with fail
      refine bodyPost_ret (by simp [results, Try.results21, go_sem, g0, g1]; rfl) rfl ⟨.slice au k cu, ?_, FA.out, FB.out⟩
      rfl
end Go.Proofs.Ytgofachgoflgnaa
