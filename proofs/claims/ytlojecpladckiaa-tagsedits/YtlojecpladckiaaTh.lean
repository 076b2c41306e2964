/- tags: the reference's Set. -/
import Derived.Test.YtlojecpladckiaaTg
namespace Go.Proofs.Ytlojecpladckiaa
open Go.ChangeShapes Go.WideShapes Go.ChangeAt Go.RowKit Go.Joins Go.Deep

open Go.Proofs.TagM Go.Shelf

/- a new tag in its place; the first tag with the key replaced -/
def stI (k v : ByteArray) : List Tg → List Tg
  | [] => [(k, v)]
  | t :: l => if klt k t.1 = true then (k, v) :: t :: l else t :: stI k v l
def stR (k v : ByteArray) : List Tg → List Tg
  | [] => [(k, v)]
  | t :: l => if t.1 = k then (k, v) :: fl k l else t :: stR k v l
def rs (has d : Bool) (k v : ByteArray) (l : List Tg) : List Tg :=
  match has, d with
  | true, true => fl k l
  | true, false => stR k v l
  | false, true => l
  | false, false => stI k v l
def st (l : List Tg) (k v : ByteArray) : List Tg := rs (gt l k).2 false k v l
theorem drop_at {l : List Tg} {i : Nat} (h : i < l.length) : l.drop i = l.getD i default :: l.drop (i + 1) := by
  rw [List.getD, List.getElem?_eq_getElem h]; exact List.drop_eq_getElem_cons h
theorem rs_nil {has d : Bool} {k v : ByteArray} : rs has d k v [] = if d then [] else [(k, v)] := by
  cases has <;> cases d <;> rfl
theorem gt_none : ∀ {l : List Tg} {k : ByteArray}, (gt l k).2 = false → ∀ t ∈ l, t.1 ≠ k
  | [], _, _, t, ht => by cases ht
  | u :: l, k, h, t, ht => by
    rw [gt] at h
    by_cases e : u.1 = k
    · rw [if_pos e] at h; cases h
    · rw [if_neg e] at h
      rcases List.mem_cons.1 ht with rfl | ht
      · exact e
      · exact gt_none h t ht
theorem gt_some : ∀ {l : List Tg} {k : ByteArray}, (gt l k).2 = true → ∃ t ∈ l, t.1 = k
  | [], _, h => by cases h
  | u :: l, k, h => by
    rw [gt] at h
    by_cases e : u.1 = k
    · exact ⟨u, List.mem_cons_self .., e⟩
    · rw [if_neg e] at h
      obtain ⟨t, h1, h2⟩ := gt_some h
      exact ⟨t, List.mem_cons_of_mem _ h1, h2⟩
theorem own_form {w : World} {base m : Nat} {v : Value} {xs : List Value} (h : w.ownsRow base 42 2 v m xs) : ∃ a c, v = .slice a m c := by
  rcases h.2 with ⟨rfl, h0⟩ | ⟨g, cap, cur, rfl, _⟩
  · rw [h0]; exact ⟨none, 0, rfl⟩
  · exact ⟨_, cap, rfl⟩
set_option maxRecDepth 100000 in
set_option maxHeartbeats 8000000 in
theorem setr_any {w : World} {v : Value} {l : List Tg} (key val : ByteArray) (h : TagsAt w v l) (hl : l.length ≤ 1000000) : Calls Try.prog 21 #[v, .string key, .string val] w fun e w' => ∃ u, e = .returned u ∧ TOwn w' w.heap.size u (st l key val) ∧ Below w.heap.size w w' := by
  obtain ⟨i0, hi, hz0, hz1, hz2⟩ := Go.info_parts info42
  have II := Lib.hid hi; have Z0 := Lib.hid hz0; have Z1 := Lib.hid hz1; have Z2 := Lib.hid hz2
  clear hi hz0 hz1 hz2
  have A0 := Lib.hid h
  have HG := Lib.hid (getr_any key h hl)
  have ST := Lib.hid (show st l key val = rs (gt l key).2 false key val l from rfl)
  have NK := Lib.hid (gt_none (l := l) (k := key))
  obtain ⟨a, cap, rfl, _⟩ := h
  obtain ⟨⟨s, has⟩, hs⟩ : ∃ z, gt l key = z := ⟨_, rfl⟩
  rw [hs] at HG ST NK
  dsimp only at HG ST NK
  obtain ⟨n, hn⟩ : ∃ n, l.length = n := ⟨_, rfl⟩
  have HN := Lib.hid hn
  rw [hn] at A0 HG hl ⊢
  have HL := Lib.hid hl
  clear hn hl hs
  go_enter Try.func21, Try.ntmps21
  go_wp2_with fail
  refine HG.out.mono ?_; rintro e w2 ⟨rfl, rfl⟩
  go_wp2_with fail
  go_loopw [11, 7, 10] (fun s u dv wr => ∃ (k : Nat) (out : List Tg) (d : Bool), k ≤ n ∧ s = .int .i64 (k : Int) ∧ dv = .bool d ∧ Hid (TOwn wr w2.heap.size u out) ∧ Hid (rs has false key val l = out ++ rs has d key val (l.drop k) ∧ out.length ≤ k + d.toNat) ∧ Hid (Below w2.heap.size w2 wr)) (fun s _ _ _ => n - (intOf s).toNat)
  case atStart => exact ⟨0, [], false, Nat.zero_le _, rfl, rfl, World.ownsRow_nil _ _ _ _, ⟨rfl, Nat.le_refl _⟩, Below.refl _ _⟩
  case round =>
    obtain ⟨k, out, d, hk, rfl, rfl, OW, FO, BX⟩ := hrel
    obtain ⟨au, cu, rfl⟩ := OW.out.form
    obtain ⟨m, hm⟩ : ∃ m, out.length = m := ⟨_, rfl⟩
    have HM := Lib.hid hm
    have O1 : Hid (wr.ownsRow w2.heap.size 42 2 (.slice au m cu) m (tcs out)) := by have h := OW.out; unfold TOwn at h; rw [HM.out] at h; exact h
    rw [hm]
    have LM := Lib.hid (show m ≤ 1000001 by have := FO.out.2; have := HL.out; have : d.toNat ≤ 1 := (by cases d <;> decide); omega)
    clear hm OW
    by_cases hkn : k < n
    · have hlk : k < l.length := by rw [HN.out]; exact hkn
      obtain ⟨b, off, rfl, hbl, p0, p1⟩ := A0.out.at_ (j := k) hlk
      have o0 := (BX.out.cell (by exact hbl)).trans p0
      have o1 := (BX.out.cell (by exact hbl)).trans p1
      have DA := Lib.hid (drop_at hlk)
      have NX := Lib.hid (fun h => NK.out h _ (getD_mem hlk))
      have LO := Lib.hid hbl
      obtain ⟨⟨x, y⟩, hz⟩ : ∃ z, l.getD k default = z := ⟨_, rfl⟩
      rw [hz] at o0 o1 DA NX p0 p1
      dsimp only at o0 o1 NX p0 p1
      have P0 := Lib.hid p0; have P1 := Lib.hid p1
      clear p0 p1
      obtain ⟨k1, hk1⟩ : ∃ k1, k + 1 = k1 := ⟨_, rfl⟩
      rw [hk1] at DA
      have HK := Lib.hid hk1
      have k0 : (0 : Int) ≤ (k : Int) := by omega
      have kl : (k : Int) < (n : Int) := by omega
      have e1 : (k : Int) + 1 = (k1 : Int) := by omega
      have e2 : IntKind.i64.wrap (k1 : Int) = (k1 : Int) := by rw [IntKind.wrap_i64]; have := HL.out; omega
      clear hz hk1 hlk hbl
      cases has with
      | true =>
        clear NX
        by_cases hx : x = key
        · obtain rfl := hx
          cases d with
          | true =>
            have F2 : Hid (rs true false x val l = out ++ rs true true x val (l.drop k1) ∧ out.length ≤ k1 + true.toNat) := by
              refine ⟨FO.out.1.trans ?_, by have := FO.out.2; have := HK.out; omega⟩
              rw [DA.out]; simp [rs, fl]
            have OW : Hid (TOwn wr w2.heap.size (.slice au m cu) out) := by show Hid _; exact Lib.hid (by show wr.ownsRow _ _ _ _ _ _; rw [HM.out]; exact O1.out)
            clear FO DA
            go_wp2_with fail
            go_roundw
            case measure => simp [intOf]; have := HK.out; omega
            case rel => exact ⟨k1, out, true, by have := HK.out; omega, rfl, rfl, OW, F2, BX⟩
          | false =>
            have F2 : Hid (rs true false x val l = (out ++ [(x, val)]) ++ rs true true x val (l.drop k1) ∧ (out ++ [(x, val)]).length ≤ k1 + true.toNat) := by
              refine ⟨FO.out.1.trans ?_, by rw [List.length_append]; have := FO.out.2; have := HK.out; simp at *; omega⟩
              rw [DA.out, List.append_assoc]; simp [rs, stR]
            clear FO DA
            go_wp2_with (at_builtin; refine wpList_append_own_at _ rfl _ _ 22 rfl w2.heap.size 42 i0 zt 2 32 Try.underlying22 II.out Z0.out Z1.out Z2.out rfl (by decide) (.slice au m cu) m (tcs out) rfl (O1.out.alloc _) ⟨wr.heap.size, 0, none⟩ 1 1 [.string x, .string val] rfl rfl (two_new _ _ _ _) (by simp [Value.oneCell']) (by have := LM.out; unfold maxLen; omega) (by have := LM.out; omega) (by have := BX.out.size; simp; omega) ?_; intro v7 w7 hown' hgrow hnil hloc; have R7 := Lib.hid hown'; have G7 := Lib.hid hgrow; clear hown' hgrow hnil hloc)
            have O7 : Hid (TOwn w7 w2.heap.size v7 (out ++ [(x, val)])) := own_add HM.out R7.out
            have B7 : Hid (Below w2.heap.size w2 w7) := (BX.out.alloc BX.out.size _).grown G7.out (by have := BX.out.size; simp; omega) (fun q e => (O1.out.lt q e).1)
            clear R7 G7 O1 BX
            go_roundw
            case measure => simp [intOf]; have := HK.out; omega
            case rel => exact ⟨k1, out ++ [(x, val)], true, by have := HK.out; omega, rfl, rfl, O7, F2, B7⟩
        · have h1 := str_ne hx
          have F2 : Hid (rs true false key val l = (out ++ [(x, y)]) ++ rs true d key val (l.drop k1) ∧ (out ++ [(x, y)]).length ≤ k1 + d.toNat) := by
            refine ⟨FO.out.1.trans ?_, by rw [List.length_append]; have := FO.out.2; have := HK.out; simp at *; omega⟩
            rw [DA.out, List.append_assoc]; cases d <;> simp [rs, stR, fl, hx]
          clear FO DA hx
          go_wp2_with (at_builtin; refine wpList_append_own_at _ rfl _ _ 22 rfl w2.heap.size 42 i0 zt 2 32 Try.underlying22 II.out Z0.out Z1.out Z2.out rfl (by decide) (.slice au m cu) m (tcs out) rfl (O1.out.alloc _) ⟨wr.heap.size, 0, none⟩ 1 1 [.string x, .string y] rfl rfl (two_new _ _ _ _) (by simp [Value.oneCell']) (by have := LM.out; unfold maxLen; omega) (by have := LM.out; omega) (by have := BX.out.size; simp; omega) ?_; intro v7 w7 hown' hgrow hnil hloc; have R7 := Lib.hid hown'; have G7 := Lib.hid hgrow; clear hown' hgrow hnil hloc)
          have O7 : Hid (TOwn w7 w2.heap.size v7 (out ++ [(x, y)])) := own_add HM.out R7.out
          have B7 : Hid (Below w2.heap.size w2 w7) := (BX.out.alloc BX.out.size _).grown G7.out (by have := BX.out.size; simp; omega) (fun q e => (O1.out.lt q e).1)
          clear R7 G7 O1 BX
          go_roundw
          case measure => simp [intOf]; have := HK.out; omega
          case rel => exact ⟨k1, out ++ [(x, y)], d, by have := HK.out; omega, rfl, rfl, O7, F2, B7⟩
      | false =>
        have hx : x ≠ key := NX.out rfl
        have h1 := str_ne hx
        clear NX
        cases d with
        | true =>
          have F2 : Hid (rs false false key val l = (out ++ [(x, y)]) ++ rs false true key val (l.drop k1) ∧ (out ++ [(x, y)]).length ≤ k1 + true.toNat) := by
            refine ⟨FO.out.1.trans ?_, by rw [List.length_append]; have := FO.out.2; have := HK.out; simp at *; omega⟩
            rw [DA.out, List.append_assoc]; simp [rs]
          clear FO DA hx
          go_wp2_with (at_builtin; refine wpList_append_own_at _ rfl _ _ 22 rfl w2.heap.size 42 i0 zt 2 32 Try.underlying22 II.out Z0.out Z1.out Z2.out rfl (by decide) (.slice au m cu) m (tcs out) rfl (O1.out.alloc _) ⟨wr.heap.size, 0, none⟩ 1 1 [.string x, .string y] rfl rfl (two_new _ _ _ _) (by simp [Value.oneCell']) (by have := LM.out; unfold maxLen; omega) (by have := LM.out; omega) (by have := BX.out.size; simp; omega) ?_; intro v7 w7 hown' hgrow hnil hloc; have R7 := Lib.hid hown'; have G7 := Lib.hid hgrow; clear hown' hgrow hnil hloc)
          have O7 : Hid (TOwn w7 w2.heap.size v7 (out ++ [(x, y)])) := own_add HM.out R7.out
          have B7 : Hid (Below w2.heap.size w2 w7) := (BX.out.alloc BX.out.size _).grown G7.out (by have := BX.out.size; simp; omega) (fun q e => (O1.out.lt q e).1)
          clear R7 G7 O1 BX
          go_roundw
          case measure => simp [intOf]; have := HK.out; omega
          case rel => exact ⟨k1, out ++ [(x, y)], true, by have := HK.out; omega, rfl, rfl, O7, F2, B7⟩
        | false =>
          cases hlt : klt key x with
          | false =>
            have hlt2 : klt x key = true := by
              cases hh : klt x key with
              | true => rfl
              | false => exact absurd (klt_tri hh hlt) hx
            have t1 := bl_lt hlt2
            have F2 : Hid (rs false false key val l = (out ++ [(x, y)]) ++ rs false false key val (l.drop k1) ∧ (out ++ [(x, y)]).length ≤ k1 + false.toNat) := by
              refine ⟨FO.out.1.trans ?_, by rw [List.length_append]; have := FO.out.2; have := HK.out; simp at *; omega⟩
              rw [DA.out, List.append_assoc]; simp [rs, stI, hlt]
            clear FO DA hx hlt hlt2
            go_wp2_with (at_builtin; refine wpList_append_own_at _ rfl _ _ 22 rfl w2.heap.size 42 i0 zt 2 32 Try.underlying22 II.out Z0.out Z1.out Z2.out rfl (by decide) (.slice au m cu) m (tcs out) rfl (O1.out.alloc _) ⟨wr.heap.size, 0, none⟩ 1 1 [.string x, .string y] rfl rfl (two_new _ _ _ _) (by simp [Value.oneCell']) (by have := LM.out; unfold maxLen; omega) (by have := LM.out; omega) (by have := BX.out.size; simp; omega) ?_; intro v7 w7 hown' hgrow hnil hloc; have R7 := Lib.hid hown'; have G7 := Lib.hid hgrow; clear hown' hgrow hnil hloc)
            have O7 : Hid (TOwn w7 w2.heap.size v7 (out ++ [(x, y)])) := own_add HM.out R7.out
            have B7 : Hid (Below w2.heap.size w2 w7) := (BX.out.alloc BX.out.size _).grown G7.out (by have := BX.out.size; simp; omega) (fun q e => (O1.out.lt q e).1)
            clear R7 G7 O1 BX
            go_roundw
            case measure => simp [intOf]; have := HK.out; omega
            case rel => exact ⟨k1, out ++ [(x, y)], false, by have := HK.out; omega, rfl, rfl, O7, F2, B7⟩
          | true =>
            have t1 := bl_nlt (klt_asymm hlt)
            have F2 : Hid (rs false false key val l = ((out ++ [(key, val)]) ++ [(x, y)]) ++ rs false true key val (l.drop k1) ∧ ((out ++ [(key, val)]) ++ [(x, y)]).length ≤ k1 + true.toNat) := by
              refine ⟨FO.out.1.trans ?_, by rw [List.length_append, List.length_append]; have := FO.out.2; have := HK.out; simp at *; omega⟩
              rw [DA.out, List.append_assoc, List.append_assoc]; simp [rs, stI, hlt]
            obtain ⟨m2, hm2⟩ : ∃ m2, m + 1 = m2 := ⟨_, rfl⟩
            have HM2 := Lib.hid hm2
            have LM2 := Lib.hid (show m2 ≤ 1000002 by have := LM.out; omega)
            have E2 : Hid ((out ++ [(key, val)]).length = m2) := by show _ = _; rw [List.length_append, HM.out, ← hm2]; rfl
            clear FO DA hx hlt hm2
            go_wp2_with (first | (at_builtin; refine wpList_append_own_at _ rfl _ _ 22 rfl w2.heap.size 42 i0 zt 2 32 Try.underlying22 II.out Z0.out Z1.out Z2.out rfl (by decide) (.slice au m cu) m (tcs out) rfl (O1.out.alloc _) ⟨wr.heap.size, 0, none⟩ 1 1 [.string key, .string val] rfl rfl (two_new _ _ _ _) (by simp [Value.oneCell']) (by have := LM.out; unfold maxLen; omega) (by have := LM.out; omega) (by have := BX.out.size; simp; omega) ?_; intro v7 w7 hown' hgrow hnil hloc; rw [HM2.out] at hown'; obtain ⟨au2, cu2, rfl⟩ := own_form hown'; have R7 := Lib.hid hown'; have B7 := Lib.hid ((BX.out.alloc BX.out.size _).grown hgrow (by have := BX.out.size; simp; omega) (fun q e => (O1.out.lt q e).1)); have c0 := (B7.out.cell (by exact LO.out)).trans P0.out; have c1 := (B7.out.cell (by exact LO.out)).trans P1.out; clear hown' hgrow hnil hloc o0 o1) | (at_builtin; refine wpList_append_own_at _ rfl _ _ 22 rfl w2.heap.size 42 i0 zt 2 32 Try.underlying22 II.out Z0.out Z1.out Z2.out rfl (by decide) (.slice au2 m2 cu2) m2 (tcs out ++ [.string key, .string val]) rfl (R7.out.alloc _) ⟨w7.heap.size, 0, none⟩ 1 1 [.string x, .string y] rfl rfl (two_new _ _ _ _) (by simp [Value.oneCell']) (by have := LM2.out; unfold maxLen; omega) (by have := LM2.out; omega) (by have := B7.out.size; simp; omega) ?_; intro v8 w8 hown' hgrow hnil hloc; have R8 := Lib.hid hown'; have B8 := Lib.hid ((B7.out.alloc B7.out.size _).grown hgrow (by have := B7.out.size; simp; omega) (fun q e => (R7.out.lt q e).1)); clear hown' hgrow hnil hloc c0 c1))
            have O8 : Hid (TOwn w8 w2.heap.size v8 (out ++ [(key, val)] ++ [(x, y)])) := own_add E2.out (by rw [tcs_append]; exact R8.out)
            clear R7 R8 O1 BX B7
            go_roundw
            case measure => simp [intOf]; have := HK.out; omega
            case rel => exact ⟨k1, out ++ [(key, val)] ++ [(x, y)], true, by have := HK.out; omega, rfl, rfl, O8, F2, B8⟩
    · have kl : ¬ (k : Int) < (n : Int) := by omega
      have DN : Hid (l.drop k = []) := List.drop_eq_nil_of_le (by rw [HN.out]; omega)
      have F1 := Lib.hid FO.out.1
      rw [DN.out, rs_nil, ← ST.out] at F1
      clear FO
      cases d with
      | true =>
        go_wp2_with fail
        go_ret
        exact ⟨.slice au m cu, rfl, by rw [F1.out]; show wr.ownsRow _ _ _ _ _ _; simp only [if_true, List.append_nil]; rw [HM.out]; exact O1.out, BX.out⟩
      | false =>
        go_wp2_with (at_builtin; refine wpList_append_own_at _ rfl _ _ 22 rfl w2.heap.size 42 i0 zt 2 32 Try.underlying22 II.out Z0.out Z1.out Z2.out rfl (by decide) (.slice au m cu) m (tcs out) rfl (O1.out.alloc _) ⟨wr.heap.size, 0, none⟩ 1 1 [.string key, .string val] rfl rfl (two_new _ _ _ _) (by simp [Value.oneCell']) (by have := LM.out; unfold maxLen; omega) (by have := LM.out; omega) (by have := BX.out.size; simp; omega) ?_; intro v7 w7 hown' hgrow hnil hloc; have R7 := Lib.hid hown'; have G7 := Lib.hid hgrow; clear hown' hgrow hnil hloc)
        have O7 : Hid (TOwn w7 w2.heap.size v7 (out ++ [(key, val)])) := own_add HM.out R7.out
        have B7 : Hid (Below w2.heap.size w2 w7) := (BX.out.alloc BX.out.size _).grown G7.out (by have := BX.out.size; simp; omega) (fun q e => (O1.out.lt q e).1)
        go_ret
        exact ⟨v7, rfl, by rw [F1.out]; simpa using O7.out, B7.out⟩
end Go.Proofs.Ytlojecpladckiaa
