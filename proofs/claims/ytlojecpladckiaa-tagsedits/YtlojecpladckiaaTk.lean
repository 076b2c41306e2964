/- tags: Canon, the reference's. -/
import Derived.Test.YtlojecpladckiaaTj
namespace Go.Proofs.Ytlojecpladckiaa
open Go.ChangeShapes Go.WideShapes Go.ChangeAt Go.RowKit Go.Joins Go.Deep

open Go.Proofs.TagM Go.Shelf Go.Sort

theorem stI_perm (k v : ByteArray) : ∀ l : List Tg, (stI k v l).Perm ((k, v) :: l)
  | [] => List.Perm.refl _
  | t :: l => by
    rw [stI]
    by_cases h : klt k t.1 = true
    · rw [if_pos h]
    · rw [if_neg h]
      exact ((stI_perm k v l).cons t).trans (List.Perm.swap _ _ _)
theorem stI_sk {k v : ByteArray} : ∀ {l : List Tg}, SK l → (∀ t ∈ l, t.1 ≠ k) → SK (stI k v l)
  | [], _, _ => List.pairwise_singleton _ _
  | t :: l, hs, hn => by
    unfold SK at hs ⊢
    rw [List.pairwise_cons] at hs
    rw [stI]
    by_cases h : klt k t.1 = true
    · rw [if_pos h, List.pairwise_cons, List.pairwise_cons]
      refine ⟨fun u hu => ?_, hs.1, hs.2⟩
      rcases List.mem_cons.1 hu with rfl | hu
      · exact h
      · exact klt_trans h (hs.1 u hu)
    · rw [if_neg h, List.pairwise_cons]
      refine ⟨fun u hu => ?_, stI_sk hs.2 fun u hu => hn u (List.mem_cons_of_mem _ hu)⟩
      rcases List.mem_cons.1 ((stI_perm k v l).mem_iff.1 hu) with rfl | hu
      · cases hh : klt t.1 k with
        | true => rfl
        | false => exact absurd (klt_tri hh (by simpa using h)) (hn t (List.mem_cons_self ..))
      · exact hs.1 u hu
theorem st_no {l : List Tg} {k v : ByteArray} (h : (gt l k).2 = false) : st l k v = stI k v l := by
  unfold st; rw [h]; rfl
theorem take_perm {l out : List Tg} {k : Nat} {x y : ByteArray} (hk : k < l.length) (hz : l.getD k default = (x, y)) (hp : out.Perm (l.take k)) : (stI x y out).Perm (l.take (k + 1)) := by
  rw [List.take_add_one, List.getElem?_eq_getElem hk]
  rw [List.getD, List.getElem?_eq_getElem hk] at hz
  have hz' : l[k] = (x, y) := hz
  rw [hz']
  refine (stI_perm x y out).trans ?_
  refine (List.Perm.cons _ hp).trans ?_
  exact (List.perm_append_singleton (x, y) (l.take k)).symm
theorem canonr_long {n cap : Nat} {a : Option Addr} (hl : 16 < (n : Int)) (w : World) : Calls Try.prog 11 #[.slice a n cap] w fun e w' => e = .returned (.tuple #[.slice none 0 0, .int .i64 5]) ∧ Below w.heap.size w w' := by
  go_enter Try.func11, Try.ntmps11
  go_wp2_with fail
  go_ret2
  exact ⟨rfl, Below.refl _ _⟩
set_option maxRecDepth 100000 in
set_option maxHeartbeats 8000000 in
theorem canonr_any {w : World} {v : Value} {l : List Tg} (h : TagsAt w v l) : Calls Try.prog 11 #[v] w fun e w' => ∃ u r f, e = .returned (.tuple #[u, .int .i64 f]) ∧ TagsAt w' u r ∧ CP l r f ∧ Below w.heap.size w w' := by
  have A0 := h
  obtain ⟨a, cap, rfl, _⟩ := h
  by_cases hl : 16 < l.length
  · exact (canonr_long (by omega) w).mono fun e w' ⟨he, hb⟩ => ⟨_, [], 5, he, nil_at _, cp_long hl, hb⟩
  · have NL := Lib.hid hl
    have AA := Lib.hid A0
    obtain ⟨n, hn⟩ : ∃ n, l.length = n := ⟨_, rfl⟩
    have HN := Lib.hid hn
    rw [hn] at hl AA ⊢
    have n2 : ¬ 16 < (n : Int) := by omega
    have HC := Lib.hid n2
    clear A0 hn hl
    go_enter Try.func11, Try.ntmps11
    go_wp2_with fail
    go_loopw [4] (fun s wr => ∃ k : Nat, k ≤ n ∧ s = .int .i64 (k : Int) ∧ Hid (∀ j, j < k → vld (l.getD j default)) ∧ Hid (Below w.heap.size w wr)) (fun s _ => n - (intOf s).toNat)
    case atStart => exact ⟨0, Nat.zero_le _, rfl, fun j hj => absurd hj (by omega), Below.refl _ _⟩
    case round =>
      obtain ⟨k, hk, rfl, GG, BX⟩ := hrel
      by_cases hkn : k < n
      · obtain ⟨b, off, rfl, hbl, o0, o1⟩ := (AA.out.below BX.out).at_ (j := k) (by rw [HN.out]; exact hkn)
        have hlk : k < l.length := by rw [HN.out]; exact hkn
        have BD := Lib.hid (fun hv => cp_bad NL.out hlk hv)
        obtain ⟨⟨x, y⟩, hz⟩ : ∃ z, l.getD k default = z := ⟨_, rfl⟩
        rw [hz] at o0 o1 BD
        dsimp only at o0 o1
        have HZ := Lib.hid hz
        obtain ⟨k1, hk1⟩ : ∃ k1, k + 1 = k1 := ⟨_, rfl⟩
        have HK := Lib.hid hk1
        have k0 : (0 : Int) ≤ (k : Int) := by omega
        have kl : (k : Int) < (n : Int) := by omega
        have e1 : (k : Int) + 1 = (k1 : Int) := by omega
        have e2 : IntKind.i64.wrap (k1 : Int) = (k1 : Int) := by rw [IntKind.wrap_i64]; have := HC.out; omega
        have VV := Lib.hid (inTag_any (x, y) wr)
        clear hz hk1 hlk hbl
        by_cases hv : vld (x, y)
        · rw [decide_eq_true hv] at VV
          have G2 : Hid (∀ j, j < k1 → vld (l.getD j default)) := by
            intro j hj
            by_cases e : j = k
            · rw [e, HZ.out]; exact hv
            · exact GG.out j (by have := HK.out; omega)
          clear hv GG BD
          go_wp2_with fail
          refine VV.out.mono ?_; rintro e w3 ⟨rfl, b3⟩
          have B3 := Lib.hid (BX.out.trans (b3.mono BX.out.size))
          clear b3 o0 o1
          go_wp2_with fail
          go_roundw
          case measure => simp [intOf]; have := HK.out; omega
          case rel => exact ⟨k1, by have := HK.out; omega, rfl, G2, B3⟩
        · rw [decide_eq_false hv] at VV
          have RV := Lib.hid (BD.out hv)
          clear hv GG BD
          go_wp2_with fail
          refine VV.out.mono ?_; rintro e w3 ⟨rfl, b3⟩
          have bb := Lib.hid (BX.out.trans (b3.mono BX.out.size))
          clear b3
          go_wp2_with fail
          go_ret2
          exact ⟨_, [], 10, rfl, nil_at _, RV.out, bb.out⟩
      · have kl : ¬ (k : Int) < (n : Int) := by omega
        have VL := Lib.hid (all_vld (fun j hj => GG.out j (by rw [HN.out] at hj; omega)))
        have BX0 := BX
        clear GG hkn hk
        go_wp2_with fail
        clear BX kl
        go_loopw [6, 5] (fun s u wr2 => ∃ (k : Nat) (out : List Tg), k ≤ n ∧ s = .int .i64 (k : Int) ∧ Hid (TagsAt wr2 u out) ∧ Hid (SK out ∧ out.Perm (l.take k)) ∧ Hid (Below w.heap.size w wr2)) (fun s _ _ => n - (intOf s).toNat)
        case atStart => exact ⟨0, [], Nat.zero_le _, rfl, nil_at _, ⟨List.Pairwise.nil, List.Perm.refl _⟩, BX0.out⟩
        case round =>
          clear BX0
          obtain ⟨k, out, hk, rfl, OW, FO, BX⟩ := hrel
          by_cases hkn : k < n
          · have hlk : k < l.length := by rw [HN.out]; exact hkn
            obtain ⟨b, off, rfl, hbl, o0, o1⟩ := (AA.out.below BX.out).at_ (j := k) hlk
            have LO : Hid (out.length ≤ 16) := by show _ ≤ _; rw [FO.out.2.length_eq, List.length_take]; have := NL.out; omega
            have TP := Lib.hid (fun x y hz => take_perm (x := x) (y := y) hlk hz FO.out.2)
            have ME := Lib.hid (getD_mem hlk)
            have DK := Lib.hid (fun (t : Tg) (ht : t ∈ out) (e : t.1 = (l.getD k default).1) (hn : (l.map (·.1)).Nodup) => by
              have h1 : ((l.take (k + 1)).map (·.1)).Nodup := hn.sublist ((List.take_sublist _ _).map _)
              rw [List.take_add_one, List.getElem?_eq_getElem hlk, List.map_append, List.nodup_append] at h1
              refine h1.2.2 t.1 (List.mem_map.2 ⟨t, FO.out.2.mem_iff.1 ht, rfl⟩) t.1 ?_ rfl
              rw [List.getD, List.getElem?_eq_getElem hlk] at e
              simpa using e)
            obtain ⟨⟨x, y⟩, hz⟩ : ∃ z, l.getD k default = z := ⟨_, rfl⟩
            have TP2 := Lib.hid (TP.out x y hz)
            rw [hz] at o0 o1 DK
            dsimp only at o0 o1 DK
            obtain ⟨k1, hk1⟩ : ∃ k1, k + 1 = k1 := ⟨_, rfl⟩
            rw [hk1] at TP2
            have HK := Lib.hid hk1
            have k0 : (0 : Int) ≤ (k : Int) := by omega
            have kl : (k : Int) < (n : Int) := by omega
            have e1 : (k : Int) + 1 = (k1 : Int) := by omega
            have e2 : IntKind.i64.wrap (k1 : Int) = (k1 : Int) := by rw [IntKind.wrap_i64]; have := HC.out; omega
            have HG := Lib.hid (getr_any x OW.out (by have := LO.out; omega))
            have SE := Lib.hid (fun W (b : Below wr.heap.size wr W) => setr_any x y (OW.out.below b) (by have := LO.out; omega))
            have GN := Lib.hid (gt_none (l := out) (k := x)); have GS := Lib.hid (gt_some (l := out) (k := x))
            have SN := Lib.hid (st_no (l := out) (k := x) (v := y))
            obtain ⟨⟨sv, has⟩, hs⟩ : ∃ z, gt out x = z := ⟨_, rfl⟩
            rw [hs] at HG GN GS SN
            dsimp only at HG GN GS SN
            obtain ⟨au, cu, rfl, hx3⟩ := OW.out
            clear hx3
            obtain ⟨m, hm⟩ : ∃ m, out.length = m := ⟨_, rfl⟩
            rw [hm] at HG SE ⊢
            clear hm hs TP hlk hk1 hz OW
            cases has with
            | true =>
              have RV : Hid (CP l [] 7) := by
                obtain ⟨t, ht, e⟩ := GS.out rfl
                exact cp_twice NL.out VL.out (DK.out t ht e)
              clear DK GS GN SN
              go_wp2_with fail
              refine HG.out.mono ?_; rintro e w3 ⟨rfl, rfl⟩
              go_wp2_with fail
              go_ret2
              exact ⟨_, [], 7, rfl, nil_at _, RV.out, BX.out⟩
            | false =>
              have F2 : Hid (SK (stI x y out) ∧ (stI x y out).Perm (l.take k1)) := ⟨stI_sk FO.out.1 (GN.out rfl), TP2.out⟩
              have SE2 := Lib.hid (fun W (b : Below wr.heap.size wr W) => SE.out W b)
              rw [SN.out rfl] at SE2
              clear DK GS GN SN SE FO
              go_wp2_with fail
              refine HG.out.mono ?_; rintro e w3 ⟨rfl, rfl⟩
              have S0 : Hid (∀ W, W = w3.drew → Below w3.heap.size w3 W ∧ W.cell? ⟨b, off + k * 2, none⟩ = some (.string x) ∧ W.cell? ⟨b, off + k * 2 + 1, none⟩ = some (.string y)) := by
                intro W e0; subst e0
                exact ⟨(Below.refl _ _).drew, o0, o1⟩
              have HB := Lib.hid hbl
              clear HG
              go_wp2_with fail
              refine wp_region_held_drew (S := fun W => Below w3.heap.size w3 W ∧ W.cell? ⟨b, off + k * 2, none⟩ = some (.string x) ∧ W.cell? ⟨b, off + k * 2 + 1, none⟩ = some (.string y)) (by kernel_rfl) (S0.out _ rfl) (fun hHeld => ?_)
              refine wpAnyH_take (i := 0) (v := ?_) rfl (by kernel_rfl) (by kernel_rfl) (by kernel_rfl) (fun _ _ _ h => h) (Or.inl ⟨by rfl, ?_⟩) (by assumption) ?_
              rotate_left 1
              · (intro w hSw; (try dsimp only at hSw); first | (go_simp; done) | (go_simp; with_reducible rfl))
              simp only [Act.put, List.getElem_toArray, List.getElem_cons_zero, List.setIfInBounds_toArray, List.set_cons_zero, List.set_cons_succ]
              refine wpAnyH_take (i := 1) (v := ?_) rfl (by kernel_rfl) (by kernel_rfl) (by kernel_rfl) (fun _ _ _ h => h) (Or.inl ⟨by rfl, ?_⟩) (by assumption) ?_
              rotate_left 1
              · (intro w hSw; (try dsimp only at hSw); first | (go_simp; done) | (go_simp; with_reducible rfl))
              simp only [Act.put, List.getElem_toArray, List.getElem_cons_zero, List.getElem_cons_succ, List.setIfInBounds_toArray, List.set_cons_zero, List.set_cons_succ]
              refine wpAnyH_take (i := 2) (v := ?_) rfl (by kernel_rfl) (by kernel_rfl) (by kernel_rfl) (fun _ _ _ h => h) (Or.inl ⟨by rfl, ?_⟩) (by assumption) ?_
              rotate_left 1
              · (intro w hSw; (try dsimp only at hSw); first | (go_simp; done) | (go_simp; with_reducible rfl))
              simp only [Act.put, List.getElem_toArray, List.getElem_cons_zero, List.getElem_cons_succ, List.setIfInBounds_toArray, List.set_cons_zero, List.set_cons_succ]
              refine wpAnyH_take (i := 3) (v := ?_) rfl (by kernel_rfl) (by kernel_rfl) (by kernel_rfl) (fun _ _ _ h => h) (Or.inl ⟨by rfl, ?_⟩) (by assumption) ?_
              rotate_left 1
              · (intro w hSw; (try dsimp only at hSw); first | (go_simp; done) | (go_simp; with_reducible rfl))
              simp only [Act.put, List.getElem_toArray, List.getElem_cons_zero, List.getElem_cons_succ, List.setIfInBounds_toArray, List.set_cons_zero, List.set_cons_succ]
              refine wpAnyH_take (i := 4) (v := ?_) rfl (by kernel_rfl) (by kernel_rfl) (by kernel_rfl) (fun _ _ _ h => h) (Or.inl ⟨by rfl, ?_⟩) (by assumption) ?_
              rotate_left 1
              · (intro w hSw; (try dsimp only at hSw); first | (go_simp; done) | (go_simp; with_reducible rfl))
              simp only [Act.put, List.getElem_toArray, List.getElem_cons_zero, List.getElem_cons_succ, List.setIfInBounds_toArray, List.set_cons_zero, List.set_cons_succ]
              refine wpAnyH_take (i := 5) (v := ?_) rfl (by kernel_rfl) (by kernel_rfl) (by kernel_rfl) (fun _ _ _ h => h) (Or.inl ⟨by rfl, ?_⟩) (by assumption) ?_
              rotate_left 1
              · (intro w hSw; (try dsimp only at hSw); first | (go_simp; done) | (go_simp; with_reducible rfl))
              simp only [Act.put, List.getElem_toArray, List.getElem_cons_zero, List.getElem_cons_succ, List.setIfInBounds_toArray, List.set_cons_zero, List.set_cons_succ]
              refine wpAnyH_take (i := 6) (v := ?_) rfl (by kernel_rfl) (by kernel_rfl) (by kernel_rfl) (fun _ _ _ h => h) (Or.inl ⟨by rfl, ?_⟩) (by assumption) ?_
              rotate_left 1
              · (intro w hSw; (try dsimp only at hSw); first | (go_simp; done) | (go_simp; with_reducible rfl))
              simp only [Act.put, List.getElem_toArray, List.getElem_cons_zero, List.getElem_cons_succ, List.setIfInBounds_toArray, List.set_cons_zero, List.set_cons_succ]
              refine wpAnyH_take (i := 7) (v := ?_) rfl (by kernel_rfl) (by kernel_rfl) (by kernel_rfl) (fun _ _ _ h => h) (Or.inl ⟨by rfl, ?_⟩) (by assumption) ?_
              rotate_left 1
              · (intro w hSw; (try dsimp only at hSw); first | (go_simp; done) | (go_simp; with_reducible rfl))
              simp only [Act.put, List.getElem_toArray, List.getElem_cons_zero, List.getElem_cons_succ, List.setIfInBounds_toArray, List.set_cons_zero, List.set_cons_succ]
              refine wpAnyH_take (i := 8) (v := ?_) rfl (by kernel_rfl) (by kernel_rfl) (by kernel_rfl) (fun _ _ _ h => h) (Or.inl ⟨by rfl, ?_⟩) (by assumption) ?_
              rotate_left 1
              · (intro w hSw; (try dsimp only at hSw); first | (go_simp; done) | (go_simp; with_reducible rfl))
              simp only [Act.put, List.getElem_toArray, List.getElem_cons_zero, List.getElem_cons_succ, List.setIfInBounds_toArray, List.set_cons_zero, List.set_cons_succ]
              refine wpAnyH_take (i := 9) (v := ?_) rfl (by kernel_rfl) (by kernel_rfl) (by kernel_rfl) (fun _ _ _ h => h) (Or.inl ⟨by rfl, ?_⟩) (by assumption) ?_
              rotate_left 1
              · (intro w hSw; (try dsimp only at hSw); first | (go_simp; done) | (go_simp; with_reducible rfl))
              simp only [Act.put, List.getElem_toArray, List.getElem_cons_zero, List.getElem_cons_succ, List.setIfInBounds_toArray, List.set_cons_zero, List.set_cons_succ]
              refine wpAnyH_take (i := 10) (v := ?_) rfl (by kernel_rfl) (by kernel_rfl) (by kernel_rfl) (fun _ _ _ h => h) (Or.inl ⟨by rfl, ?_⟩) (by assumption) ?_
              rotate_left 1
              · (intro w hSw; (try dsimp only at hSw); first | (go_simp; done) | (go_simp; with_reducible rfl))
              simp only [Act.put, List.getElem_toArray, List.getElem_cons_zero, List.getElem_cons_succ, List.setIfInBounds_toArray, List.set_cons_zero, List.set_cons_succ]
              refine wpAnyH_ready (rs := [11]) (by kernel_rfl) (by simp) ?_
              refine AllReadyH.cons rfl (fun K hK => ?_) AllReadyH.nil
              go_simp
              go_wp2_with (go_at_call 21; refine (SE2.out _ hHeld.1).mono ?_; rintro e w9 ⟨u9, rfl, o9, b9⟩)
              have BF := Lib.hid (hHeld.1.trans (b9.mono hHeld.1.size))
              have O9 := Lib.hid o9.at_
              have S9 : Hid (Below w3.heap.size w3 w9 ∧ w9.cell? ⟨b, off + k * 2, none⟩ = some (.string x) ∧ w9.cell? ⟨b, off + k * 2 + 1, none⟩ = some (.string y)) :=
                ⟨BF.out, by rw [BF.out.cell (by exact HB.out)]; exact o0, by rw [BF.out.cell (by exact HB.out)]; exact o1⟩
              clear o9 b9
              refine hK.out _ _ S9.out (fun hHeld2 => ?_)
              clear hK K hHeld; have hHeld := hHeld2; clear hHeld2
              refine wpAnyH_take (i := 12) (v := ?_) rfl (by kernel_rfl) (by kernel_rfl) (by kernel_rfl) (fun _ _ _ h => h) (Or.inl ⟨by rfl, ?_⟩) (by assumption) ?_
              rotate_left 1
              · (intro w hSw; (try dsimp only at hSw); first | (go_simp; done) | (go_simp; with_reducible rfl))
              simp only [Act.put, List.getElem_toArray, List.getElem_cons_zero, List.getElem_cons_succ, List.setIfInBounds_toArray, List.set_cons_zero, List.set_cons_succ]
              refine wpAnyH_done (by kernel_rfl) ?_ _
              have B9 := Lib.hid (BX.out.trans (BF.out.mono BX.out.size))
              clear hHeld S9 S0 BF
              go_wp2_with fail
              go_roundw
              case measure => simp [intOf]; have := HK.out; omega
              case rel => exact ⟨k1, stI x y out, by have := HK.out; omega, rfl, O9, F2, B9⟩
          · have kl : ¬ (k : Int) < (n : Int) := by omega
            have RV : Hid (CP l out 0) := by
              have h := FO.out.2
              rw [List.take_of_length_le (by rw [HN.out]; omega)] at h
              exact cp_fine NL.out VL.out FO.out.1 h
            have A5 := OW
            obtain ⟨au, cu, rfl, hx3⟩ := OW.out
            clear hx3 FO OW
            go_wp2_with fail
            go_ret2
            exact ⟨_, out, 0, rfl, A5.out, RV.out, BX.out⟩
end Go.Proofs.Ytlojecpladckiaa
