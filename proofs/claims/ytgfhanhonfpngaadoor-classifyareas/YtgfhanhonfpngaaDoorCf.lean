/- classify: of. -/
import Derived.Test.YtgfhanhonfpngaaDoorCe
namespace Go.Proofs.YtgfhanhonfpngaaDoor
open Go.ChangeShapes Go.WideShapes Go.ChangeAt Go.RowKit Go.Joins Go.Deep

open Go.Proofs.TagM Go.Shelf Go.Sort

/- append to an own row, as one step of a region that draws its order -/
theorem step_append_own {P : Program} {ops : Array Oper} {o : Oper} {a : Act} {w : World} {K : Act → World → Prop} {Q : Exit → Act → World → Prop} {E : Prop} (hgd : o.guard = none) (s x : Operand) (t : TypeId)
    (ho : o.op = .call { callee := .builtin .append, args := #[s, x], argTypes := #[t, t] })
    (base : Nat) (e : TypeId) (i : TypeInfo) (z : Value) (size bytes : Nat) (ht : P.underlying t = some (.slice e)) (hi : P.info? e = some i) (hz : i.zero = some z)
    (hsize : i.size = size) (hby : i.bytes = bytes) (hzs : z.cells.size = size) (hsz : 0 < size)
    (v : Value) (n : Nat) (xs : List Value) (hs : a.eval s = v) (hown : w.ownsRow base e size v n xs)
    (ad : Addr) (m c : Nat) (news : List Value) (hx : a.eval x = .slice (some ad) m c) (hl : news.length = m * size) (hnews : ∀ j u, news[j]? = some u → w.cell? (ad.add j) = some u) (h1 : ∀ u ∈ news, u.oneCell' = true)
    (h63 : n + m ≤ maxLen) (hbytes : (n + m) * bytes ≤ 140737488355328) (hbase : base ≤ w.heap.size)
    (h : ∀ v' w', w'.ownsRow base e size v' (n + m) (xs ++ news) → w.grownBy w' v.ownBlock → (v'.ownBlock = v.ownBlock ∨ v'.ownBlock = some w.heap.size) → K (a.put o.dst v') w') :
    if Region.wanted o (yielded ops a.tmps) = true then Oper.wp P o a w K Q else E := by
  have hw : Region.wanted o (yielded ops a.tmps) = true := by simp [Region.wanted, hgd]
  rw [if_pos hw]
  obtain ⟨v', w', hr, h2, h3, _, h5⟩ := run_append_own_at (P := P) w base t o.type e i z size bytes ht hi hz hsize hby hzs hsz v n xs hown ad m c news hl hnews h1 h63 hbytes hbase
  unfold Oper.wp
  simp [execOp, ho, resolve, invoke, builtin, hs, hx, hr, Result.andThen]
  exact h v' w' h2 h3 h5
theorem own_drew {w : World} {base e size : Nat} {v : Value} {n : Nat} {xs : List Value} (h : w.ownsRow base e size v n xs) : w.drew.ownsRow base e size v n xs := h
theorem take_next {P : List Tg} {k : Nat} (h : k < P.length) : P.take (k + 1) = P.take k ++ [P.getD k default] := by
  rw [List.take_add_one, List.getElem?_eq_getElem h, List.getD, List.getElem?_eq_getElem h]; rfl
set_option maxRecDepth 100000 in
set_option maxHeartbeats 4000000 in
theorem of_any {w : World} {b m n : Nat} {P : List Tg} (hm : P.length = m) (hn : m * 2 = n) (hl : m ≤ 1000) (hb : b < w.heap.size) (hc : ∀ j, j < m → w.cell? ⟨b, j * 2, none⟩ = some (.string (P.getD j default).1) ∧ w.cell? ⟨b, j * 2 + 1, none⟩ = some (.string (P.getD j default).2)) :
    Calls Tryd.prog 24 #[.slice (some ⟨b, 0, none⟩) n n] w fun e w' => ∃ u, e = .returned u ∧ TOwn w' w.heap.size u P ∧ Below w.heap.size w w' := by
  obtain ⟨i0, hi, hz0, hz1, hz2⟩ := Go.info_parts info32
  have II := Lib.hid hi; have Z0 := Lib.hid hz0; have Z1 := Lib.hid hz1; have Z2 := Lib.hid hz2
  have HM := Lib.hid hm; have HN := Lib.hid hn; have HL := Lib.hid hl; have HB := Lib.hid hb; have HC := Lib.hid hc
  clear hi hz0 hz1 hz2 hm hn hl hb hc
  go_enter Tryd.func24, Tryd.ntmps24
  go_wp2_with fail
  go_loopw [4, 3] (fun s u wr => ∃ (k it : Nat), k ≤ m ∧ s = .int .i64 (it : Int) ∧ Hid (k * 2 = it) ∧ Hid (TOwn wr w.heap.size u (P.take k)) ∧ Hid (Below w.heap.size w wr)) (fun s _ _ => n - (intOf s).toNat)
  case atStart => exact ⟨0, 0, Nat.zero_le _, rfl, rfl, World.ownsRow_nil _ _ _ _, Below.refl _ _⟩
  case round =>
    obtain ⟨k, it, hk, rfl, HIT, OW, BX⟩ := hrel
    obtain ⟨au, cu, rfl⟩ := OW.out.form
    have hlen : (P.take k).length = k := by rw [List.length_take, HM.out]; omega
    have O1 : Hid (wr.ownsRow w.heap.size 32 2 (.slice au k cu) k (tcs (P.take k))) := by have h := OW.out; unfold TOwn at h; rw [hlen] at h; exact h
    rw [hlen]
    have TK := Lib.hid hlen
    clear hlen OW
    obtain ⟨i1, hi1⟩ : ∃ i1, it + 1 = i1 := ⟨_, rfl⟩
    have e1 : (it : Int) + 1 = (i1 : Int) := by omega
    have e2 : IntKind.i64.wrap (i1 : Int) = (i1 : Int) := by rw [IntKind.wrap_i64]; have := HIT.out; have := HL.out; omega
    by_cases hkm : k < m
    · obtain ⟨c0, c1⟩ := HC.out k hkm
      have FT := Lib.hid (take_next (P := P) (k := k) (by rw [HM.out]; exact hkm))
      obtain ⟨⟨x, y⟩, hz⟩ : ∃ z, P.getD k default = z := ⟨_, rfl⟩
      rw [hz] at c0 c1 FT
      dsimp only at c0 c1
      have o0 : wr.cell? ⟨b, it, none⟩ = some (.string x) := by rw [BX.out.cell (by exact HB.out), ← HIT.out]; exact c0
      have o1 : wr.cell? ⟨b, i1, none⟩ = some (.string y) := by rw [BX.out.cell (by exact HB.out), ← hi1, ← HIT.out]; exact c1
      obtain ⟨k1, hk1⟩ : ∃ k1, k + 1 = k1 := ⟨_, rfl⟩
      rw [hk1] at FT
      obtain ⟨i2, hi2⟩ : ∃ i2, it + 2 = i2 := ⟨_, rfl⟩
      have HK := Lib.hid hk1; have HI1 := Lib.hid hi1; have HI2 := Lib.hid hi2
      have e3 : (it : Int) + 2 = (i2 : Int) := by omega
      have e4 : IntKind.i64.wrap (i2 : Int) = (i2 : Int) := by rw [IntKind.wrap_i64]; have := HIT.out; have := HL.out; omega
      have k0 : (0 : Int) ≤ (it : Int) := by omega
      have k0' : (0 : Int) ≤ (i1 : Int) := by omega
      have kl : (it : Int) < (n : Int) := by have := HIT.out; have := HN.out; omega
      have kl1 : (i1 : Int) < (n : Int) := by have := HIT.out; have := HN.out; omega
      clear c0 c1 hz hk1 hi1 hi2
      go_wp2_with fail
      refine wp_region_drop (fun W => W.cell? ⟨b, it, none⟩ = some (.string x) ∧ W.cell? ⟨b, i1, none⟩ = some (.string y)) 11 (by kernel_rfl) ⟨o0, o1⟩ (fun hHeld => ?_)
      refine wpAnyD_pure (i := 0) (v := ?_) rfl (by kernel_rfl) (by kernel_rfl) (by kernel_rfl) (by rfl) (fun _ _ _ h => h) (Or.inl ⟨by rfl, ?_⟩) (by assumption) ?_
      rotate_left 1
      · (intro w; first | (go_simp; done) | (go_simp; with_reducible rfl))
      simp only [Act.put, List.getElem_toArray, List.getElem_cons_zero, List.setIfInBounds_toArray, List.set_cons_zero, List.set_cons_succ]
      refine wpAnyD_pure (i := 1) (v := ?_) rfl (by kernel_rfl) (by kernel_rfl) (by kernel_rfl) (by rfl) (fun _ _ _ h => h) (Or.inl ⟨by rfl, ?_⟩) (by assumption) ?_
      rotate_left 1
      · (intro w; first | (go_simp; done) | (go_simp; with_reducible rfl))
      simp only [Act.put, List.getElem_toArray, List.getElem_cons_zero, List.getElem_cons_succ, List.setIfInBounds_toArray, List.set_cons_zero, List.set_cons_succ]
      refine wpAnyD_pure (i := 2) (v := ?_) rfl (by kernel_rfl) (by kernel_rfl) (by kernel_rfl) (by rfl) (fun _ _ _ h => h) (Or.inl ⟨by rfl, ?_⟩) (by assumption) ?_
      rotate_left 1
      · (intro w; first | (go_simp; done) | (go_simp; with_reducible rfl))
      simp only [Act.put, List.getElem_toArray, List.getElem_cons_zero, List.getElem_cons_succ, List.setIfInBounds_toArray, List.set_cons_zero, List.set_cons_succ]
      refine wpAnyD_pure (i := 3) (v := ?_) rfl (by kernel_rfl) (by kernel_rfl) (by kernel_rfl) (by rfl) (fun _ _ _ h => h) (Or.inl ⟨by rfl, ?_⟩) (by assumption) ?_
      rotate_left 1
      · (intro w; first | (go_simp; done) | (go_simp; with_reducible rfl))
      simp only [Act.put, List.getElem_toArray, List.getElem_cons_zero, List.getElem_cons_succ, List.setIfInBounds_toArray, List.set_cons_zero, List.set_cons_succ]
      refine wpAnyD_take (i := 4) (v := ?_) rfl (by kernel_rfl) (by kernel_rfl) (by kernel_rfl) (by kernel_rfl) (fun _ _ _ h => h) (Or.inl ⟨by rfl, ?_⟩) (by assumption) ?_
      rotate_left 1
      · (intro w hSw; (try dsimp only at hSw); first | (go_simp; done) | (go_simp; with_reducible rfl))
      simp only [Act.put, List.getElem_toArray, List.getElem_cons_zero, List.getElem_cons_succ, List.setIfInBounds_toArray, List.set_cons_zero, List.set_cons_succ]
      refine wpAnyD_pure (i := 5) (v := ?_) rfl (by kernel_rfl) (by kernel_rfl) (by kernel_rfl) (by rfl) (fun _ _ _ h => h) (Or.inl ⟨by rfl, ?_⟩) (by assumption) ?_
      rotate_left 1
      · (intro w; first | (go_simp; done) | (go_simp; with_reducible rfl))
      simp only [Act.put, List.getElem_toArray, List.getElem_cons_zero, List.getElem_cons_succ, List.setIfInBounds_toArray, List.set_cons_zero, List.set_cons_succ]
      refine wpAnyD_pure (i := 6) (v := ?_) rfl (by kernel_rfl) (by kernel_rfl) (by kernel_rfl) (by rfl) (fun _ _ _ h => h) (Or.inl ⟨by rfl, ?_⟩) (by assumption) ?_
      rotate_left 1
      · (intro w; first | (go_simp; done) | (go_simp; with_reducible rfl))
      simp only [Act.put, List.getElem_toArray, List.getElem_cons_zero, List.getElem_cons_succ, List.setIfInBounds_toArray, List.set_cons_zero, List.set_cons_succ]
      refine wpAnyD_pure (i := 7) (v := ?_) rfl (by kernel_rfl) (by kernel_rfl) (by kernel_rfl) (by rfl) (fun _ _ _ h => h) (Or.inl ⟨by rfl, ?_⟩) (by assumption) ?_
      rotate_left 1
      · (intro w; first | (go_simp; done) | (go_simp; with_reducible rfl))
      simp only [Act.put, List.getElem_toArray, List.getElem_cons_zero, List.getElem_cons_succ, List.setIfInBounds_toArray, List.set_cons_zero, List.set_cons_succ]
      refine wpAnyD_pure (i := 8) (v := ?_) rfl (by kernel_rfl) (by kernel_rfl) (by kernel_rfl) (by rfl) (fun _ _ _ h => h) (Or.inl ⟨by rfl, ?_⟩) (by assumption) ?_
      rotate_left 1
      · (intro w; first | (go_simp; done) | (go_simp; with_reducible rfl))
      simp only [Act.put, List.getElem_toArray, List.getElem_cons_zero, List.getElem_cons_succ, List.setIfInBounds_toArray, List.set_cons_zero, List.set_cons_succ]
      refine wpAnyD_take (i := 9) (v := ?_) rfl (by kernel_rfl) (by kernel_rfl) (by kernel_rfl) (by kernel_rfl) (fun _ _ _ h => h) (Or.inl ⟨by rfl, ?_⟩) (by assumption) ?_
      rotate_left 1
      · (intro w hSw; (try dsimp only at hSw); first | (go_simp; done) | (go_simp; with_reducible rfl))
      simp only [Act.put, List.getElem_toArray, List.getElem_cons_zero, List.getElem_cons_succ, List.setIfInBounds_toArray, List.set_cons_zero, List.set_cons_succ]
      refine wpAnyD_pure (i := 10) (v := ?_) rfl (by kernel_rfl) (by kernel_rfl) (by kernel_rfl) (by rfl) (fun _ _ _ h => h) (Or.inl ⟨by rfl, ?_⟩) (by assumption) ?_
      rotate_left 1
      · (intro w; first | (go_simp; done) | (go_simp; with_reducible rfl))
      simp only [Act.put, List.getElem_toArray, List.getElem_cons_zero, List.getElem_cons_succ, List.setIfInBounds_toArray, List.set_cons_zero, List.set_cons_succ]
      clear hHeld
      refine wpAnyD_drop (by kernel_rfl) rfl (fun K hK => ?_)
      go_simp
      refine hK.out _ _ ?_
      clear hK K
      refine wpAny_one (i := 12) (by kernel_rfl) rfl (fun K hK => ?_)
      refine step_append_own rfl _ _ 22 rfl w.heap.size 32 i0 zt 2 32 Tryd.underlying22 II.out Z0.out Z1.out Z2.out rfl (by decide) (.slice au k cu) k (tcs (P.take k)) rfl ?_ ⟨wr.heap.size, 0, none⟩ 1 1 [.string x, .string y] rfl rfl (two_new wr _ _ _) (by simp [Value.oneCell']) (by have := HL.out; unfold maxLen; omega) (by have := HL.out; omega) ?_ ?_
      · exact own_drew (O1.out.alloc _)
      · have := BX.out.size; show _ ≤ ((wr.alloc _).heap.size); simp; omega
      intro v' w4 ow gr loc
      have U4 : Hid (TOwn w4 w.heap.size v' (P.take k1)) := by
        show TOwn _ _ _ _
        rw [FT.out]; exact own_add TK.out ow
      have B4 : Hid (Below w.heap.size w w4) := by
        refine (((BX.out).alloc BX.out.size _).drew).grown gr (by have := BX.out.size; show _ ≤ ((wr.alloc _).heap.size); simp; omega) (fun q e => ?_)
        exact (O1.out.lt q e).1
      refine hK.out _ _ ?_
      clear hK K ow gr loc BX O1 FT o0 o1
      simp only [Act.put, List.setIfInBounds_toArray]
      refine wpAny_one (i := 13) (by kernel_rfl) rfl (fun K hK => ?_)
      go_simp
      refine hK.out _ _ ?_
      clear hK K
      refine wpAny_done (by kernel_rfl) ?_ _
      go_wp2_with fail
      go_roundw
      case measure => simp [intOf]; have := HI2.out; omega
      case rel => exact ⟨k1, i2, by have := HK.out; omega, rfl, by show _ = _; have := HK.out; have := HI2.out; have := HIT.out; omega, U4, B4⟩
    · have kl1 : ¬ (i1 : Int) < (n : Int) := by have := HIT.out; have := HN.out; omega
      have hkm' : k = m := by omega
      have F : Hid (P.take k = P) := List.take_of_length_le (by rw [HM.out]; omega)
      clear hi1
      go_wp2_with fail
      go_ret
      refine ⟨_, rfl, ?_, BX.out⟩
      have h := O1.out
      rw [F.out, hkm'] at h
      show wr.ownsRow _ _ _ _ _ _
      rw [HM.out]; exact h
theorem off_at {w : World} {v : Value} {P : List Tg} (h : TOwn w w.heap.size v P) : TagsAt w v P := h.at_
theorem of_lit (w : World) (P : List Tg) (n : Nat) (hn : P.length * 2 = n) (hl : P.length ≤ 1000) : Calls Tryd.prog 24 #[.slice (some ⟨w.heap.size, 0, none⟩) n n] (w.alloc (.cells (tcs P).toArray 9)) fun e w' => ∃ u, e = .returned u ∧ TagsAt w' u P ∧ Below w.heap.size w w' := by
  have r := Row.new w 9 (tcs P)
  refine (of_any (P := P) rfl hn hl r.lt (fun j hj => ?_)).mono fun e w' => ?_
  · obtain ⟨a1, a2⟩ := tcs_get P j hj
    exact ⟨r.cell a1, r.cell a2⟩
  · rintro ⟨u, he, ho, hb⟩
    exact ⟨u, he, ho.at_, ((Below.refl _ w).alloc (Nat.le_refl _) _).trans (hb.mono (by simp))⟩
end Go.Proofs.YtgfhanhonfpngaaDoor
