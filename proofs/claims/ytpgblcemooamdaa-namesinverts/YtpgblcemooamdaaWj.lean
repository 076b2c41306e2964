/- The walk of NamesInverts, its loops. -/
import Derived.Test.YtpgblcemooamdaaWi
import Derived.Deep.Cut
import Derived.Deep.DeepCutAuto
import Derived.Deep.CutBlock
namespace Go.Proofs.Ytpgblcemooamdaa
open Go.ChangeShapes Go.WideShapes Go.ChangeAt Go.RowKit Go.Maps Go.WideMaps

theorem get_num {w : World} {tb mb : Nat} {sv : Value} {ss : List ByteArray} {s : ByteArray} {c : Int} (h : Tab w tb mb sv ss) (hc : Num ss s c true) :
    Calls Try.prog 13 #[.pointer (some ⟨tb, 0, none⟩), .int .i64 c] w fun e w' => e = .returned (.tuple #[.string s, .bool true]) ∧ w = w' := by
  rcases hc with ⟨_, _, h⟩ | ⟨i, hi, rfl, rfl, _⟩
  · cases h
  · exact get_yes h i hi
theorem row3_len {w : World} {fv : Value} {n : Nat} {xs : List Value} (h : w.ownsRow 0 3 1 fv n xs) : ∃ a cap, fv = .slice a n cap := by
  rcases h.2 with ⟨rfl, rfl⟩ | ⟨g, cap, cur, rfl, _⟩
  · exact ⟨none, 0, rfl⟩
  · exact ⟨_, cap, rfl⟩
theorem row3_at {w : World} {fv : Value} {fs : List Int} (h : w.ownsRow 0 3 1 fv fs.length (nums fs)) (i : Nat) (hi : i < fs.length) :
    ∃ g cap, fv = .slice (some ⟨g, 0, none⟩) fs.length cap ∧ w.cell? ⟨g, i, none⟩ = some (.int .i64 fs[i]) := by
  rcases h.2 with ⟨_, h0⟩ | ⟨g, cap, cur, rfl, _, hg, h1, h2, h3, h4⟩
  · omega
  · refine ⟨g, cap, rfl, ?_⟩
    unfold World.cell?
    rw [hg]
    have e : (cur.toList.take (fs.length * 1))[i]? = some (.int .i64 fs[i]) := by rw [h4]; simp [nums, hi]
    rw [List.getElem?_take] at e
    split at e
    · simpa using e
    · cases e
/- the number has been noted down -/
theorem Inv.note {w0 w w1 w2 : World} {o : Obj} {tb mb : Nat} {sv sv' fv fv' : Value} {ss ss' : List ByteArray} {fs : List Int} {ls : List ByteArray} {k : Nat} {c : Int} (h : Inv w0 w tb mb sv fv ss fs ls k) (hk : k < ls.length) (hA : AddL ss ls[k] c ss')
    (t : Tab w1 tb mb sv' ss') (ow : ∀ k, sv'.ownBlock = some k → w0.heap.size ≤ k) (b1 : Below w0.heap.size w0 w1) (r1 : w1.ownsRow 0 3 1 fv fs.length (nums fs))
    (r2 : w2.ownsRow 0 3 1 fv' (fs.length + 1) (nums fs ++ [.int .i64 c])) (g : (w1.alloc o).grownBy w2 fv.ownBlock) (hl : fv'.ownBlock = fv.ownBlock ∨ fv'.ownBlock = some (w1.alloc o).heap.size) :
    Inv w0 w2 tb mb sv' fv' ss' (fs ++ [c]) ls (k + 1) := by
  have hs := b1.size
  have hal : Below w1.heap.size w1 (w1.alloc o) := (Below.refl _ _).alloc (Nat.le_refl _) _
  have t1 := t.keep hal
  have r1' := row_kp r1 (Kp.of_below (bad := []) hal) (fun _ _ => by simp)
  obtain ⟨n1, n2, n3, n4, n5⟩ := num_add hA
  refine ⟨t1.grown g (row_apart t1 r1'), ow, h.tb0, h.mb0, by simpa [nums] using r2, ?_, by simp [h.flen], ?_, by have := h.slen; omega, ?_⟩
  · intro j e
    rcases hl with hl | hl
    · rw [hl] at e; exact h.fown j e
    · rw [hl] at e; injection e with e; rw [World.size_alloc] at e; omega
  · intro j hj hj'
    by_cases e : j < fs.length
    · rw [List.getElem_append_left e]; exact n2 _ _ (h.num j e hj')
    · have : j = k := by simp at hj; have := h.flen; omega
      subst this
      have e2 : (fs ++ [c])[j] = c := by
        rw [List.getElem_append_right (by omega)]; simp
      rw [e2]; exact n1
  · exact (b1.alloc hs _).grown g (by rw [World.size_alloc]; omega) h.fown
theorem namesInverts_open0 {H : Type} {enc : TypeId × Value → H} {W : World} {base b0 : Nat} {spare : Nat → Bool} {held : Bool} {r : Reach} {v : Value} {d : DataW H} {p : List MemPlace}
    (hv : Value.okWide Try.prog W r b0 26 v) (h : DataW.Trod enc Try.prog W base spare held 26 v d p) : IsStrs W v := strs_open hv h

set_option maxRecDepth 100000 in
set_option maxHeartbeats 4000000 in
theorem namesInverts_walk (v : Value) (w : World) (hv : IsStrs w v) : Calls Try.prog 5 #[v] w fun e w' => e = .returned (.bool true) ∧ Below w.heap.size w w' := by
  obtain ⟨ls, h, hl, hz⟩ := hv
  have HS := Lib.hid h; have HZ := Lib.hid hz; have HL := Lib.hid hl
  obtain ⟨a, cap, rfl⟩ := slice_len h
  obtain ⟨n, hn⟩ : ∃ n, ls.length = n := ⟨_, rfl⟩
  have HN := Lib.hid hn
  rw [hn]
  have SV : Hid (StrsAt w (.slice a n cap) ls) := by have := HS.out; rw [HN.out] at this; exact this
  obtain ⟨i0, hi, hz0, hz1, hz2⟩ := info_parts Try.info3
  have II := Lib.hid hi; have Z0 := Lib.hid hz0; have Z1 := Lib.hid hz1; have Z2 := Lib.hid hz2
  clear h hn hz hl HS hi hz0 hz1 hz2
  go_enter Try.func5, Try.ntmps5
  go_wp2_with fail
  refine (new_any w).mono ?_; rintro e w1 ⟨rfl, ht, hk, hz⟩
  have T1 := Lib.hid ht; have B1 := Lib.hid hk.all
  clear ht hk hz
  go_wp2_with fail
  refine (few_any (SV.out.below B1.out) HL.out HZ.out).mono ?_; rintro e w' ⟨b, hb, rfl, rfl⟩
  cases b
  · clear hb
    go_wp2_with fail
    refine (lives_any _).mono ?_; rintro e w2 ⟨rfl, b⟩
    go_wp2_with fail
    go_ret
    exact ⟨rfl, B1.out.trans (b.mono B1.out.size)⟩
  · have h60 : n ≤ 60 := by have := hb rfl; rw [HN.out] at this; exact this
    have I1 : Hid (Inv w w1 (w.heap.size + 1) w.heap.size (.slice none 0 0) (.slice none 0 0) [] [] ls 0) :=
      ⟨T1.out, (fun k e => by cases e), Nat.le_succ _, Nat.le_refl _, World.ownsRow_nil _ _ _ _, (fun k e => by cases e), rfl, (fun j h => by cases h), by simp, B1.out⟩
    clear hb
    go_upto_block 0 with fail
    go_cut [4, 5, 6, 7, 8] (fun s4 _ _ _ _ wx => ∃ (af : Option Addr) (cf : Nat) (sv : Value) (ss : List ByteArray) (fs : List Int), s4 = .slice af n cf ∧ Hid (Inv w wx (w.heap.size + 1) w.heap.size sv (.slice af n cf) ss fs ls n))
    case first =>
      go_wp2_with fail
      go_loopw [4, 5] (fun s4 s5 wr => ∃ (k : Nat) (af : Option Addr) (cf : Nat) (sv : Value) (ss : List ByteArray) (fs : List Int), k ≤ n ∧ s5 = .int .i64 k ∧ s4 = .slice af k cf ∧ Hid (Inv w wr (w.heap.size + 1) w.heap.size sv (.slice af k cf) ss fs ls k)) (fun _ s5 _ => n - (intOf s5).toNat)
      case atStart => exact ⟨0, none, 0, _, [], [], by omega, rfl, rfl, I1⟩
      case round =>
        clear I1
        obtain ⟨k, af, cf, sv, ss, fs, hk, rfl, rfl, I⟩ := hrel
        by_cases hlt : k < n
        · have hk' : k < ls.length := by have := HN.out; omega
          obtain ⟨b, off, cap', e, _, hc⟩ := strs_at (SV.out.below I.out.bel) k hk'
          rw [HN.out] at e
          injection e with e1 e2 e3
          subst e1 e3
          have c1 := hc k hk'
          obtain ⟨u, hu⟩ : ∃ u, ls[k] = u := ⟨_, rfl⟩
          have hus : Hid (u.size ≤ maxLen) := by show u.size ≤ maxLen; rw [← hu]; exact HZ.out _ (List.getElem_mem hk')
          have CU : Hid (∀ w', Below w.heap.size w w' → w'.cell? ⟨b, off + k, none⟩ = some (.string u)) := fun w' hb' => by
            obtain ⟨b2, off2, cap2, e', _, hc2⟩ := strs_at (SV.out.below hb') k hk'
            rw [HN.out] at e'
            injection e' with e1 _ _
            injection e1 with e1
            injection e1 with e1 e2 _
            subst e1 e2
            rw [← hu]; exact hc2 k hk'
          rw [hu] at c1
          have HU := Lib.hid hu
          clear hc hu e2
          go_wp2_with fail
          refine (add_any I.out.tab u hus.out (by have := I.out.slen; omega)).mono ?_; rintro e w2 ⟨c, sv1, ss', hA, rfl, h1, h2, h3⟩
          obtain ⟨sv2, t2, o2, b2, r2⟩ := I.out.add ⟨sv1, h1, h2, h3⟩
          have AL : Hid (AddL ss ls[k] c ss') := by show AddL ss ls[k] c ss'; rw [HU.out]; exact hA
          obtain ⟨n1, _, n3, n4, _⟩ := num_add hA
          have hck : c ≤ (k : Int) := by have := I.out.slen; omega
          have T2 := Lib.hid t2; have O2 := Lib.hid o2; have B2 := Lib.hid b2; have R2 := Lib.hid r2; have N1 := Lib.hid n1
          have d1 := CU.out w2 b2
          have R2' : Hid (∀ o, (w2.alloc o).ownsRow 0 3 1 (.slice af k cf) k (nums fs)) := fun o => by
            have := r2.alloc o; rw [I.out.flen] at this; exact this
          have huu : (u.toList != u.toList) = false := by simp
          clear hA h1 h2 h3 t2 o2 b2 r2 n1 n3 c1
          go_wp2_with fail
          refine (get_num T2.out N1.out).mono ?_; rintro e w' ⟨rfl, rfl⟩
          go_wp2_with (at_builtin; refine wpList_append_own_at _ rfl _ _ 48 rfl 0 3 i0 (.int .i64 0) 1 8 Try.underlying48 II.out Z0.out Z1.out Z2.out rfl (by decide) _ _ _ rfl (R2'.out _) ⟨w2.heap.size, 0, none⟩ 1 1 [.int .i64 c] rfl rfl (cell_one_new _ _ _) (by simp [Value.oneCell']) (by unfold maxLen; omega) (by omega) (by simp) ?_; intro v' w3 hown' hgrow hnil hloc; obtain ⟨a', cap', hv'⟩ := row3_len hown'; subst hv'; have R3 := Lib.hid hown'; have G3 := Lib.hid hgrow; have L3 := Lib.hid hloc; clear hown' hgrow hloc hnil)
          have fl := I.out.flen
          have I3 := Lib.hid (Inv.note (fv' := .slice a' (k + 1) cap') I.out hk' AL.out T2.out O2.out B2.out R2.out (by rw [fl]; exact R3.out) G3.out L3.out)
          clear fl
          go_roundw
          case rel => exact ⟨k + 1, _, _, sv2, ss', fs ++ [c], by omega, by go_num, rfl, I3⟩
          case measure => simp [intOf]; omega
        · obtain rfl : k = n := by omega
          go_wp2
          go_meet
          exact ⟨af, cf, sv, ss, fs, rfl, I⟩
    case rest =>
      clear I1
      obtain ⟨af, cf, sv, ss, fs, rfl, I⟩ := hcut
      go_wp2_with fail
      refine (all_any I.out.tab).mono ?_; rintro e w4 ⟨v4, rfl, h1, h2, ⟨a4, cap4, rfl⟩, h4⟩
      have A4 := Lib.hid h1; have I4 := Lib.hid (I.out.keep h4)
      clear h1 h2 h4
      go_wp2_with fail
      go_loopw [10] (fun s10 wr => ∃ k : Nat, k ≤ n ∧ s10 = .int .i64 k ∧ Hid (∃ q, wr = w4.drewN q)) (fun s10 _ => n - (intOf s10).toNat)
      case atStart => exact ⟨0, by omega, rfl, ⟨0, rfl⟩⟩
      case round =>
        obtain ⟨k, hk, rfl, HQ⟩ := hrel
        have I5 : Hid (Inv w wr (w.heap.size + 1) w.heap.size sv (.slice af n cf) ss fs ls n) := by
          obtain ⟨q, e⟩ := HQ.out; rw [e]; exact I4.out.keep (below_drewN (Below.refl _ _) q)
        have A5 : Hid (StrsAt wr (.slice a4 ss.length cap4) ss) := by
          obtain ⟨q, e⟩ := HQ.out; rw [e]; exact A4.out.drewN q
        clear I I4 A4
        by_cases hlt : k < n
        · have hk' : k < ls.length := by have := HN.out; omega
          obtain ⟨b, off, cap', e, _, hc⟩ := strs_at (SV.out.below I5.out.bel) k hk'
          rw [HN.out] at e
          injection e with e1 e2 e3
          subst e1 e3
          have c1 := hc k hk'
          obtain ⟨u, hu⟩ : ∃ u, ls[k] = u := ⟨_, rfl⟩
          have hus : Hid (u.size ≤ maxLen) := by show u.size ≤ maxLen; rw [← hu]; exact HZ.out _ (List.getElem_mem hk')
          rw [hu] at c1
          have hkf : k < fs.length := by rw [I5.out.flen]; exact hlt
          have r0 := I5.out.row
          have e0 : Value.slice af n cf = Value.slice af fs.length cf := by rw [I5.out.flen]
          rw [e0] at r0
          obtain ⟨g, cf', e, c2⟩ := row3_at r0 k hkf
          injection e with e1 _ e3
          subst e1 e3
          obtain ⟨c, hc'⟩ : ∃ c, fs[k] = c := ⟨_, rfl⟩
          have NU : Hid (Num ss u c true) := by have := I5.out.num k hkf hk'; rw [hu, hc'] at this; exact this
          rw [hc'] at c2
          have hcc : (c != c) = false := by simp
          clear hc hu e2 r0 e0 hc'
          go_wp2_with fail
          go_quiet ((go_at_call 10; exact qsame (add_in (I5.out.tab.keep (below_drewN (Below.refl _ _) _)) u hus.out NU.out)))
          go_wp2
          go_roundw
          case rel => exact ⟨k + 1, by omega, by go_num, draw_more HQ.out⟩
          case measure => simp [intOf]; omega
        · have hq : Hid (∃ q, ss.length = q ∧ q ≤ 60) := ⟨_, rfl, by have := I5.out.slen; omega⟩
          obtain ⟨q, HL2, hq60⟩ := hq.out
          have A6 : Hid (StrsAt wr (.slice a4 q cap4) ss) := by have := A5.out; rw [HL2] at this; exact this
          have HQL := Lib.hid HL2
          rw [HL2]
          clear hq HL2 A5 HQ
          go_wp2_with fail
          refine (of_any A6.out (by rw [HQL.out]; omega) I5.out.tab.sz).mono ?_; rintro e w6 ho
          rcases ho with ⟨_, rfl, ⟨sv6, t6, _⟩, b6⟩ | ⟨nd, _⟩
          · have T6 := Lib.hid t6; have I6 := Lib.hid (I5.out.keep b6); have A7 := Lib.hid (A6.out.below b6)
            clear t6 b6 I5 A6
            go_wp2_with fail
            refine (all_any T6.out).mono ?_; rintro e w7 ⟨v7, rfl, h1, h2, ⟨a7, cap7, rfl⟩, h4⟩
            have U7 := Lib.hid h1; have I7 := Lib.hid (I6.out.keep h4); have A8 := Lib.hid (A7.out.below h4)
            clear h1 h2 h4 T6 I6 A7
            rw [HQL.out] at U7 ⊢
            go_wp2_with fail
            refine (same_eq U7.out A8.out (by rw [HQL.out]; omega)).mono ?_; rintro e w8 ⟨rfl, q8, rfl⟩
            have hd := below_drewN (Below.refl w7.heap.size w7) q8
            have I8 := Lib.hid (I7.out.keep hd); have A9 := Lib.hid (A8.out.below hd)
            clear hd U7 I7 A8
            go_wp2_with fail
            refine (all_any I8.out.tab).mono ?_; rintro e w9 ⟨v9, rfl, h1, h2, ⟨a9, cap9, rfl⟩, h4⟩
            have U9 := Lib.hid h1; have I9 := Lib.hid (I8.out.keep h4); have A10 := Lib.hid (A9.out.below h4)
            clear h1 h2 h4 I8 A9
            rw [HQL.out] at U9 ⊢
            go_wp2_with fail
            refine (same_eq U9.out A10.out (by rw [HQL.out]; omega)).mono ?_; rintro e w10 ⟨rfl, q10, rfl⟩
            have hd := below_drewN (Below.refl w9.heap.size w9) q10
            have I10 := Lib.hid (I9.out.keep hd)
            clear hd U9 I9 A10
            go_wp2_with fail
            refine (len_any I10.out.tab).mono ?_; rintro e w' ⟨rfl, rfl⟩
            rw [HQL.out]
            go_wp2_with fail
            refine (lives_any _).mono ?_; rintro e w11 ⟨rfl, b⟩
            go_wp2_with fail
            go_ret
            exact ⟨rfl, (I10.out.keep b).bel⟩
          · exact absurd I5.out.tab.nd nd
end Go.Proofs.Ytpgblcemooamdaa
