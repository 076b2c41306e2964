/- cmds: Encode. -/
import Derived.Test.YthlbenldgnjgcaaDoorKh
namespace Go.Proofs.YthlbenldgnjgcaaDoor
open Go.ChangeShapes Go.WideShapes Go.ChangeAt Go.RowKit Go.Joins Go.Deep

theorem lastP_split : ∀ (l : List Pt) (q : Pt), lastP (l.drop 1) (lastP (l.take 1) q) = lastP l q
  | [], _ => rfl
  | a :: l, _ => by simp [lastP]
set_option maxRecDepth 100000 in
set_option maxHeartbeats 8000000 in
theorem encode_1 {w : World} {v : Value} {ls : List (List Pt)} (h : RowsAt w v ls) (hm : ls.length + tot ls ≤ 9000) (hz : chk 1 ls = 0) : Calls Tryd.prog 9 #[gv 1 v] w fun e w' => ∃ u, e = .returned (.tuple #[u, .int .i64 0]) ∧ IntsAt w' u (enc 1 ls) ∧ Below w.heap.size w w' := by
  have A0 := h
  obtain ⟨a, cap, rfl⟩ := h.form
  obtain ⟨_, hne, hall0⟩ := chk_zero hz
  have ALL := Lib.hid (fun l hl => cpt_zero (hall0 l hl))
  obtain ⟨n, hn⟩ : ∃ n, ls.length = n := ⟨_, rfl⟩
  obtain ⟨B0, hB0⟩ : ∃ B0, w.heap.size = B0 := ⟨_, rfl⟩
  have HM := Lib.hid hm
  rw [hn] at hm ⊢
  have HN := Lib.hid hn
  obtain ⟨W1, hW1⟩ : ∃ W1, w.alloc (.cells #[.int .i64 1, .slice a n cap] 24) = W1 := ⟨_, rfl⟩
  have r1 : Row W1 B0 24 [.int .i64 1, .slice a n cap] := by rw [← hW1, ← hB0]; exact Row.new _ _ _
  have q0 := r1.cell (i := 0) rfl; have q1 := r1.cell (i := 1) rfl
  have b1 : Below w.heap.size w W1 := by rw [← hW1]; exact (Below.refl _ _).alloc (Nat.le_refl _) _
  have BB := Lib.hid b1
  have R1 := Lib.hid r1
  have CK := Lib.hid (check_any (k := 1) (A0.below b1) (by omega))
  rw [hz, hn] at CK
  have AA := Lib.hid (A0.below b1)
  rw [hn] at AA
  clear A0 h r1 b1 hm hn hz hne hall0
  go_enter Tryd.func9, Tryd.ntmps9
  go_wp2_with fail
  refine CK.out.mono ?_; rintro e w3 ⟨rfl, b3⟩
  have B3 := Lib.hid (BB.out.trans (b3.mono BB.out.size))
  have A3 := Lib.hid (AA.out.below b3)
  have r3 := R1.out.below b3 R1.out.lt
  have R3 := Lib.hid r3
  clear b3 CK q0 q1 hW1
  have q0 := r3.cell (i := 0) rfl; have q1 := r3.cell (i := 1) rfl
  obtain ⟨base, hbase⟩ : ∃ z, w3.heap.size = z := ⟨_, rfl⟩
  obtain ⟨W4, hW4⟩ : ∃ W4, w3.alloc (.cells #[.slice none 0 0, .int .i64 0, .int .i64 0] 47) = W4 := ⟨_, rfl⟩
  have WN := wst_new hW4
  rw [hbase] at WN
  have WS0 := Lib.hid WN.1; have B4 := Lib.hid WN.2
  have HBS := Lib.hid hbase
  have r4 := r3.below (B := base) WN.2 (by rw [← hbase]; exact r3.lt)
  have d0 := r4.cell (i := 0) rfl; have d1 := r4.cell (i := 1) rfl
  have LT3 : Hid (B0 < base) := by rw [← hbase]; exact r3.lt
  have E0 : Hid (inE (0, 0)) := by show inE _; unfold inE; decide
  clear r3 r4 WN
  go_wp2_with fail
  --
  refine (command_any WS0.out (by simp) 1 n (1 + 8 * (n : Int)) rfl ⟨by omega, by have := HM.out; have := HN.out; omega⟩ (by decide)).mono ?_; rintro e w5 ⟨rfl, v5, ws5, b5⟩
  have WS5 := Lib.hid ws5; have B5 := Lib.hid (B4.out.trans b5)
  have r5 := R3.out.below B5.out LT3.out
  clear q0 q1 d0 d1 hW4 ws5 b5 hbase
  have q0 := r5.cell (i := 0) rfl; have q1 := r5.cell (i := 1) rfl
  clear r5
  --
  go_wp2_with fail
  clear q0 q1
  go_loopw [28] (fun s wr => ∃ (i : Nat) (v' : Value), i ≤ n ∧ s = .int .i64 (i : Int) ∧ Hid (Wst base base wr v' (lastA (ls.take i) (0, 0)) ([1 + 8 * (n : Int)] ++ encA 1 (ls.take i) (0, 0))) ∧ Hid (Below base w3 wr)) (fun s _ => n - (intOf s).toNat)
  case atStart => exact ⟨0, v5, Nat.zero_le _, rfl, WS5.out, B5.out⟩
  case round =>
    obtain ⟨i, v', hi, rfl, WS, BW⟩ := hrel
    have r5 := R3.out.below BW.out LT3.out
    have q0 := r5.cell (i := 0) rfl; have q1 := r5.cell (i := 1) rfl
    clear r5
    by_cases hin : i < n
    · obtain ⟨ob, off, u, rfl, bl, o3, pu3⟩ := A3.out.at_ (j := i) (by rw [HN.out]; exact hin)
      have o0 : wr.cell? ⟨ob, off + i, none⟩ = some u := by rw [BW.out.cell (by rw [← HBS.out]; exact bl)]; exact o3
      have TG := Lib.hid (takeL_get (ls := ls) (k := i) (by rw [HN.out]; exact hin))
      have MEM := Lib.hid (getL_mem (ls := ls) (j := i) (by rw [HN.out]; exact hin))
      have TL : Hid (tot (ls.take i) + (ls.getD i []).length ≤ tot ls) := by have e := tot_take ls (i := i) (by rw [HN.out]; exact hin); have e2 := tot_le ls (i + 1); show _ ≤ _; omega
      have LENA := Lib.hid (encA_len 1 (ls.take i) (0, 0))
      have LTK : Hid ((ls.take i).length = i) := by show _ = _; rw [List.length_take, HN.out]; omega
      have INP : Hid (inE (lastA (ls.take i) (0, 0))) := lastA_in _ _ (fun l hl => (ALL.out l (List.mem_of_mem_take hl)).2.2) E0.out
      obtain ⟨l, hl⟩ : ∃ l, ls.getD i [] = l := ⟨_, rfl⟩
      rw [hl] at TG MEM TL pu3
      have SN := Lib.hid (encA_snoc 1 (ls.take i) l (0, 0))
      have LN := Lib.hid (lastA_snoc (ls.take i) l (0, 0))
      rw [← TG.out] at SN LN
      obtain ⟨hs, h8, hin2⟩ := ALL.out l MEM.out
      have INL := Lib.hid hin2
      obtain ⟨au, cu, rfl, hcap⟩ := pu3.form
      have HCAP := Lib.hid hcap
      clear hcap
      obtain ⟨m, hmm⟩ : ∃ m, l.length = m := ⟨_, rfl⟩
      rw [hmm] at o0 pu3 o3
      have HMM := Lib.hid hmm
      have SH : Hid (¬ shK 1 m) := by rw [← hmm]; exact hs
      have P3 := Lib.hid pu3
      obtain ⟨k1, hk1⟩ : ∃ k1, i + 1 = k1 := ⟨_, rfl⟩
      rw [hk1] at SN LN
      have HK := Lib.hid hk1
      have k0 : (0 : Int) ≤ (i : Int) := by omega
      have kl : (i : Int) < (n : Int) := by omega
      have e1 : (i : Int) + 1 = (k1 : Int) := by omega
      have e2 : IntKind.i64.wrap (k1 : Int) = (k1 : Int) := by rw [IntKind.wrap_i64]; have := HM.out; have := HN.out; omega
      clear hk1 bl pu3 hs h8 hin2 hmm hl o3
      go_wp2_with fail
      --
      refine (points_any (w0 := w3) (p := lastA (ls.take i) (0, 0)) P3.out (by rw [HBS.out]; exact BW.out) (by rw [HBS.out]; exact WS.out) INL.out INP.out (by rw [List.length_append]; have := LENA.out; have := LTK.out; have := TL.out; have := HM.out; have := HN.out; simp; omega)).mono ?_; rintro e w6 ⟨rfl, v6, ws6, b6⟩
      rw [HBS.out] at ws6 b6
      have WS6 := Lib.hid ws6; have B6 := Lib.hid (BW.out.trans b6)
      clear ws6 b6
      go_wp2_with fail
      go_roundw
      case measure => simp [intOf]; have := HK.out; omega
      case rel =>
        refine ⟨k1, v6, by have := HK.out; omega, rfl, ?_, B6.out⟩
        show Wst _ _ _ _ _ _
        rw [SN.out, LN.out, ← List.append_assoc]
        have e : encP 1 l (lastA (ls.take i) (0, 0)) = stp l (lastA (ls.take i) (0, 0)) := if_pos rfl
        rw [e]; exact WS6.out
    · have kl : ¬ (i : Int) < (n : Int) := by omega
      have e : ls.take i = ls := List.take_of_length_le (by have := HN.out; omega)
      rw [e] at WS
      have g0 := WS.out.row.cell (i := 0) rfl
      have FB : Hid (Below w.heap.size w wr) := B3.out.trans (BW.out.mono (by have := B3.out.size; have := HBS.out; omega))
      rw [hB0] at FB
      go_wp2_with fail
      go_ret2
      refine ⟨v', rfl, ?_, FB.out⟩
      have he : enc 1 ls = [1 + 8 * (n : Int)] ++ encA 1 ls (0, 0) := by unfold enc; rw [if_pos rfl, HN.out]
      rw [he]
      exact IntsAt.of_row WS.out.own
set_option maxRecDepth 100000 in
set_option maxHeartbeats 8000000 in
theorem encode_2 {w : World} {v : Value} {ls : List (List Pt)} (h : RowsAt w v ls) (hm : ls.length + tot ls ≤ 9000) (hz : chk 2 ls = 0) : Calls Tryd.prog 9 #[gv 2 v] w fun e w' => ∃ u, e = .returned (.tuple #[u, .int .i64 0]) ∧ IntsAt w' u (enc 2 ls) ∧ Below w.heap.size w w' := by
  have A0 := h
  obtain ⟨a, cap, rfl⟩ := h.form
  obtain ⟨_, hne, hall0⟩ := chk_zero hz
  have ALL := Lib.hid (fun l hl => cpt_zero (hall0 l hl))
  obtain ⟨n, hn⟩ : ∃ n, ls.length = n := ⟨_, rfl⟩
  obtain ⟨B0, hB0⟩ : ∃ B0, w.heap.size = B0 := ⟨_, rfl⟩
  have HM := Lib.hid hm
  rw [hn] at hm ⊢
  have HN := Lib.hid hn
  obtain ⟨W1, hW1⟩ : ∃ W1, w.alloc (.cells #[.int .i64 2, .slice a n cap] 24) = W1 := ⟨_, rfl⟩
  have r1 : Row W1 B0 24 [.int .i64 2, .slice a n cap] := by rw [← hW1, ← hB0]; exact Row.new _ _ _
  have q0 := r1.cell (i := 0) rfl; have q1 := r1.cell (i := 1) rfl
  have b1 : Below w.heap.size w W1 := by rw [← hW1]; exact (Below.refl _ _).alloc (Nat.le_refl _) _
  have BB := Lib.hid b1
  have R1 := Lib.hid r1
  have CK := Lib.hid (check_any (k := 2) (A0.below b1) (by omega))
  rw [hz, hn] at CK
  have AA := Lib.hid (A0.below b1)
  rw [hn] at AA
  clear A0 h r1 b1 hm hn hz hne hall0
  go_enter Tryd.func9, Tryd.ntmps9
  go_wp2_with fail
  refine CK.out.mono ?_; rintro e w3 ⟨rfl, b3⟩
  have B3 := Lib.hid (BB.out.trans (b3.mono BB.out.size))
  have A3 := Lib.hid (AA.out.below b3)
  have r3 := R1.out.below b3 R1.out.lt
  have R3 := Lib.hid r3
  clear b3 CK q0 q1 hW1
  have q0 := r3.cell (i := 0) rfl; have q1 := r3.cell (i := 1) rfl
  obtain ⟨base, hbase⟩ : ∃ z, w3.heap.size = z := ⟨_, rfl⟩
  obtain ⟨W4, hW4⟩ : ∃ W4, w3.alloc (.cells #[.slice none 0 0, .int .i64 0, .int .i64 0] 47) = W4 := ⟨_, rfl⟩
  have WN := wst_new hW4
  rw [hbase] at WN
  have WS0 := Lib.hid WN.1; have B4 := Lib.hid WN.2
  have HBS := Lib.hid hbase
  have r4 := r3.below (B := base) WN.2 (by rw [← hbase]; exact r3.lt)
  have d0 := r4.cell (i := 0) rfl; have d1 := r4.cell (i := 1) rfl
  have LT3 : Hid (B0 < base) := by rw [← hbase]; exact r3.lt
  have E0 : Hid (inE (0, 0)) := by show inE _; unfold inE; decide
  clear r3 r4 WN
  go_wp2_with fail
  --
  go_loopw [43] (fun s wr => ∃ (i : Nat) (v' : Value), i ≤ n ∧ s = .int .i64 (i : Int) ∧ Hid (Wst base base wr v' (lastA (ls.take i) (0, 0)) ([] ++ encA 2 (ls.take i) (0, 0))) ∧ Hid (Below base w3 wr)) (fun s _ => n - (intOf s).toNat)
  case atStart => exact ⟨0, _, Nat.zero_le _, rfl, WS0.out, B4.out⟩
  case round =>
    obtain ⟨i, v', hi, rfl, WS, BW⟩ := hrel
    have r5 := R3.out.below BW.out LT3.out
    have q0 := r5.cell (i := 0) rfl; have q1 := r5.cell (i := 1) rfl
    clear r5
    by_cases hin : i < n
    · obtain ⟨ob, off, u, rfl, bl, o3, pu3⟩ := A3.out.at_ (j := i) (by rw [HN.out]; exact hin)
      have o0 : wr.cell? ⟨ob, off + i, none⟩ = some u := by rw [BW.out.cell (by rw [← HBS.out]; exact bl)]; exact o3
      have TG := Lib.hid (takeL_get (ls := ls) (k := i) (by rw [HN.out]; exact hin))
      have MEM := Lib.hid (getL_mem (ls := ls) (j := i) (by rw [HN.out]; exact hin))
      have TL : Hid (tot (ls.take i) + (ls.getD i []).length ≤ tot ls) := by have e := tot_take ls (i := i) (by rw [HN.out]; exact hin); have e2 := tot_le ls (i + 1); show _ ≤ _; omega
      have LENA := Lib.hid (encA_len 2 (ls.take i) (0, 0))
      have LTK : Hid ((ls.take i).length = i) := by show _ = _; rw [List.length_take, HN.out]; omega
      have INP : Hid (inE (lastA (ls.take i) (0, 0))) := lastA_in _ _ (fun l hl => (ALL.out l (List.mem_of_mem_take hl)).2.2) E0.out
      obtain ⟨l, hl⟩ : ∃ l, ls.getD i [] = l := ⟨_, rfl⟩
      rw [hl] at TG MEM TL pu3
      have SN := Lib.hid (encA_snoc 2 (ls.take i) l (0, 0))
      have LN := Lib.hid (lastA_snoc (ls.take i) l (0, 0))
      rw [← TG.out] at SN LN
      obtain ⟨hs, h8, hin2⟩ := ALL.out l MEM.out
      have INL := Lib.hid hin2
      obtain ⟨au, cu, rfl, hcap⟩ := pu3.form
      have HCAP := Lib.hid hcap
      clear hcap
      obtain ⟨m, hmm⟩ : ∃ m, l.length = m := ⟨_, rfl⟩
      rw [hmm] at o0 pu3 o3
      have HMM := Lib.hid hmm
      have SH : Hid (¬ shK 2 m) := by rw [← hmm]; exact hs
      have P3 := Lib.hid pu3
      obtain ⟨k1, hk1⟩ : ∃ k1, i + 1 = k1 := ⟨_, rfl⟩
      rw [hk1] at SN LN
      have HK := Lib.hid hk1
      have k0 : (0 : Int) ≤ (i : Int) := by omega
      have kl : (i : Int) < (n : Int) := by omega
      have e1 : (i : Int) + 1 = (k1 : Int) := by omega
      have e2 : IntKind.i64.wrap (k1 : Int) = (k1 : Int) := by rw [IntKind.wrap_i64]; have := HM.out; have := HN.out; omega
      clear hk1 bl pu3 hs h8 hin2 hmm hl o3
      have LO : Hid (([] ++ encA 2 (ls.take i) (0, 0)).length + 2 * m ≤ 900000) := by
        show _ ≤ _
        have := LENA.out; have := LTK.out; have := TL.out; have := HM.out; have := HN.out; have := HMM.out; simp; omega
      have M2 : Hid (2 ≤ m) := by have := SH.out; unfold shK at this; show _ ≤ _; omega
      have e3 : IntKind.i64.wrap ((m : Int) - 1) = (m : Int) - 1 := by rw [IntKind.wrap_i64]; have := LO.out; omega
      have m1 : (1 : Int) ≤ (m : Int) := by have := M2.out; omega
      have hcu : (1 : Int) ≤ (cu : Int) := by have := M2.out; have := HCAP.out; have := HMM.out; omega
      have hcu1 : ¬ cu = 1 := by have := M2.out; have := HCAP.out; have := HMM.out; omega
      go_wp2_with fail
      --
      refine (command_any WS.out (by have := LO.out; omega) 1 1 9 rfl (by decide) (by decide)).mono ?_; rintro e w5 ⟨rfl, v5, ws5, b5⟩
      have WS5 := Lib.hid ws5; have B5 := Lib.hid (BW.out.trans b5)
      clear ws5 b5
      go_wp2_with fail
      --
      refine (points_any (w0 := w3) (p := lastA (ls.take i) (0, 0)) (P3.out.head (by have := M2.out; omega)) (by rw [HBS.out]; exact B5.out) (by rw [HBS.out]; exact WS5.out) (fun x hx => INL.out x (List.mem_of_mem_take hx)) INP.out (by rw [List.length_append, List.length_take]; have := LO.out; simp only [List.length_cons, List.length_nil]; omega)).mono ?_; rintro e w6 ⟨rfl, v6, ws6, b6⟩
      rw [HBS.out] at ws6 b6
      have WS6 := Lib.hid ws6; have B6 := Lib.hid (B5.out.trans b6)
      clear ws6 b6
      go_wp2_with fail
      --
      refine (command_any WS6.out (by rw [List.length_append, List.length_append, stp_len, List.length_take]; have := LO.out; simp only [List.length_cons, List.length_nil]; omega) 2 ((m : Int) - 1) (2 + 8 * ((m : Int) - 1)) rfl ⟨by omega, by have := LO.out; omega⟩ (by decide)).mono ?_; rintro e w7 ⟨rfl, v7, ws7, b7⟩
      have WS7 := Lib.hid ws7; have B7 := Lib.hid (B6.out.trans b7)
      clear ws7 b7
      obtain ⟨pb, poff, ha⟩ : ∃ pb poff, au = some ⟨pb, poff, none⟩ := by
        obtain ⟨x, y, e, _⟩ := P3.out.at_ (j := 0) (by rw [HMM.out]; have := M2.out; omega)
        exact ⟨x, y, e⟩
      subst ha
      go_wp2_with fail
      --
      refine (points_any (w0 := w3) (p := lastP (l.take 1) (lastA (ls.take i) (0, 0))) (P3.out.tail (by have := M2.out; omega)) (by rw [HBS.out]; exact B7.out) (by rw [HBS.out]; exact WS7.out) (fun x hx => INL.out x (List.mem_of_mem_drop hx)) (lastP_in _ _ (fun x hx => INL.out x (List.mem_of_mem_take hx)) INP.out) (by rw [List.length_append, List.length_append, List.length_append, stp_len, List.length_take, List.length_drop]; have := LO.out; have := HMM.out; simp only [List.length_cons, List.length_nil]; omega)).mono ?_; rintro e w8 ⟨rfl, v8, ws8, b8⟩
      rw [HBS.out] at ws8 b8
      have WS8 := Lib.hid ws8; have B8 := Lib.hid (B7.out.trans b8)
      clear ws8 b8
      have r5 := R3.out.below B8.out LT3.out
      have q0 := r5.cell (i := 0) rfl
      clear r5
      have LP := Lib.hid (lastP_split l (lastA (ls.take i) (0, 0)))
      go_wp2_with fail
      --
      go_roundw
      case measure => simp [intOf]; have := HK.out; omega
      case rel =>
        refine ⟨k1, v8, by have := HK.out; omega, rfl, ?_, B8.out⟩
        show Wst _ _ _ _ _ _
        rw [SN.out, LN.out]
        have e : encP 2 l (lastA (ls.take i) (0, 0)) = [9] ++ stp (l.take 1) (lastA (ls.take i) (0, 0)) ++ [2 + 8 * ((m : Int) - 1)] ++ stp (l.drop 1) (lastP (l.take 1) (lastA (ls.take i) (0, 0))) ++ [] := by
          unfold encP; rw [if_neg (by decide), HMM.out]; rfl
        rw [e, ← LP.out]
        have h := WS8.out
        simpa only [List.append_assoc, List.nil_append, List.append_nil] using h
    · have kl : ¬ (i : Int) < (n : Int) := by omega
      have e : ls.take i = ls := List.take_of_length_le (by have := HN.out; omega)
      rw [e] at WS
      have g0 := WS.out.row.cell (i := 0) rfl
      have FB : Hid (Below w.heap.size w wr) := B3.out.trans (BW.out.mono (by have := B3.out.size; have := HBS.out; omega))
      rw [hB0] at FB
      go_wp2_with fail
      go_ret2
      refine ⟨v', rfl, ?_, FB.out⟩
      have he : enc 2 ls = [] ++ encA 2 ls (0, 0) := by unfold enc; rw [if_neg (by decide)]
      rw [he]
      exact IntsAt.of_row WS.out.own
set_option maxRecDepth 100000 in
set_option maxHeartbeats 8000000 in
theorem encode_3 {w : World} {v : Value} {ls : List (List Pt)} (h : RowsAt w v ls) (hm : ls.length + tot ls ≤ 9000) (hz : chk 3 ls = 0) : Calls Tryd.prog 9 #[gv 3 v] w fun e w' => ∃ u, e = .returned (.tuple #[u, .int .i64 0]) ∧ IntsAt w' u (enc 3 ls) ∧ Below w.heap.size w w' := by
  have A0 := h
  obtain ⟨a, cap, rfl⟩ := h.form
  obtain ⟨_, hne, hall0⟩ := chk_zero hz
  have ALL := Lib.hid (fun l hl => cpt_zero (hall0 l hl))
  obtain ⟨n, hn⟩ : ∃ n, ls.length = n := ⟨_, rfl⟩
  obtain ⟨B0, hB0⟩ : ∃ B0, w.heap.size = B0 := ⟨_, rfl⟩
  have HM := Lib.hid hm
  rw [hn] at hm ⊢
  have HN := Lib.hid hn
  obtain ⟨W1, hW1⟩ : ∃ W1, w.alloc (.cells #[.int .i64 3, .slice a n cap] 24) = W1 := ⟨_, rfl⟩
  have r1 : Row W1 B0 24 [.int .i64 3, .slice a n cap] := by rw [← hW1, ← hB0]; exact Row.new _ _ _
  have q0 := r1.cell (i := 0) rfl; have q1 := r1.cell (i := 1) rfl
  have b1 : Below w.heap.size w W1 := by rw [← hW1]; exact (Below.refl _ _).alloc (Nat.le_refl _) _
  have BB := Lib.hid b1
  have R1 := Lib.hid r1
  have CK := Lib.hid (check_any (k := 3) (A0.below b1) (by omega))
  rw [hz, hn] at CK
  have AA := Lib.hid (A0.below b1)
  rw [hn] at AA
  clear A0 h r1 b1 hm hn hz hne hall0
  go_enter Tryd.func9, Tryd.ntmps9
  go_wp2_with fail
  refine CK.out.mono ?_; rintro e w3 ⟨rfl, b3⟩
  have B3 := Lib.hid (BB.out.trans (b3.mono BB.out.size))
  have A3 := Lib.hid (AA.out.below b3)
  have r3 := R1.out.below b3 R1.out.lt
  have R3 := Lib.hid r3
  clear b3 CK q0 q1 hW1
  have q0 := r3.cell (i := 0) rfl; have q1 := r3.cell (i := 1) rfl
  obtain ⟨base, hbase⟩ : ∃ z, w3.heap.size = z := ⟨_, rfl⟩
  obtain ⟨W4, hW4⟩ : ∃ W4, w3.alloc (.cells #[.slice none 0 0, .int .i64 0, .int .i64 0] 47) = W4 := ⟨_, rfl⟩
  have WN := wst_new hW4
  rw [hbase] at WN
  have WS0 := Lib.hid WN.1; have B4 := Lib.hid WN.2
  have HBS := Lib.hid hbase
  have r4 := r3.below (B := base) WN.2 (by rw [← hbase]; exact r3.lt)
  have d0 := r4.cell (i := 0) rfl; have d1 := r4.cell (i := 1) rfl
  have LT3 : Hid (B0 < base) := by rw [← hbase]; exact r3.lt
  have E0 : Hid (inE (0, 0)) := by show inE _; unfold inE; decide
  clear r3 r4 WN
  go_wp2_with fail
  --
  go_loopw [43] (fun s wr => ∃ (i : Nat) (v' : Value), i ≤ n ∧ s = .int .i64 (i : Int) ∧ Hid (Wst base base wr v' (lastA (ls.take i) (0, 0)) ([] ++ encA 3 (ls.take i) (0, 0))) ∧ Hid (Below base w3 wr)) (fun s _ => n - (intOf s).toNat)
  case atStart => exact ⟨0, _, Nat.zero_le _, rfl, WS0.out, B4.out⟩
  case round =>
    obtain ⟨i, v', hi, rfl, WS, BW⟩ := hrel
    have r5 := R3.out.below BW.out LT3.out
    have q0 := r5.cell (i := 0) rfl; have q1 := r5.cell (i := 1) rfl
    clear r5
    by_cases hin : i < n
    · obtain ⟨ob, off, u, rfl, bl, o3, pu3⟩ := A3.out.at_ (j := i) (by rw [HN.out]; exact hin)
      have o0 : wr.cell? ⟨ob, off + i, none⟩ = some u := by rw [BW.out.cell (by rw [← HBS.out]; exact bl)]; exact o3
      have TG := Lib.hid (takeL_get (ls := ls) (k := i) (by rw [HN.out]; exact hin))
      have MEM := Lib.hid (getL_mem (ls := ls) (j := i) (by rw [HN.out]; exact hin))
      have TL : Hid (tot (ls.take i) + (ls.getD i []).length ≤ tot ls) := by have e := tot_take ls (i := i) (by rw [HN.out]; exact hin); have e2 := tot_le ls (i + 1); show _ ≤ _; omega
      have LENA := Lib.hid (encA_len 3 (ls.take i) (0, 0))
      have LTK : Hid ((ls.take i).length = i) := by show _ = _; rw [List.length_take, HN.out]; omega
      have INP : Hid (inE (lastA (ls.take i) (0, 0))) := lastA_in _ _ (fun l hl => (ALL.out l (List.mem_of_mem_take hl)).2.2) E0.out
      obtain ⟨l, hl⟩ : ∃ l, ls.getD i [] = l := ⟨_, rfl⟩
      rw [hl] at TG MEM TL pu3
      have SN := Lib.hid (encA_snoc 3 (ls.take i) l (0, 0))
      have LN := Lib.hid (lastA_snoc (ls.take i) l (0, 0))
      rw [← TG.out] at SN LN
      obtain ⟨hs, h8, hin2⟩ := ALL.out l MEM.out
      have INL := Lib.hid hin2
      obtain ⟨au, cu, rfl, hcap⟩ := pu3.form
      have HCAP := Lib.hid hcap
      clear hcap
      obtain ⟨m, hmm⟩ : ∃ m, l.length = m := ⟨_, rfl⟩
      rw [hmm] at o0 pu3 o3
      have HMM := Lib.hid hmm
      have SH : Hid (¬ shK 3 m) := by rw [← hmm]; exact hs
      have P3 := Lib.hid pu3
      obtain ⟨k1, hk1⟩ : ∃ k1, i + 1 = k1 := ⟨_, rfl⟩
      rw [hk1] at SN LN
      have HK := Lib.hid hk1
      have k0 : (0 : Int) ≤ (i : Int) := by omega
      have kl : (i : Int) < (n : Int) := by omega
      have e1 : (i : Int) + 1 = (k1 : Int) := by omega
      have e2 : IntKind.i64.wrap (k1 : Int) = (k1 : Int) := by rw [IntKind.wrap_i64]; have := HM.out; have := HN.out; omega
      clear hk1 bl pu3 hs h8 hin2 hmm hl o3
      have LO : Hid (([] ++ encA 3 (ls.take i) (0, 0)).length + 2 * m ≤ 900000) := by
        show _ ≤ _
        have := LENA.out; have := LTK.out; have := TL.out; have := HM.out; have := HN.out; have := HMM.out; simp; omega
      have M2 : Hid (3 ≤ m) := by have := SH.out; unfold shK at this; show _ ≤ _; omega
      have e3 : IntKind.i64.wrap ((m : Int) - 1) = (m : Int) - 1 := by rw [IntKind.wrap_i64]; have := LO.out; omega
      have m1 : (1 : Int) ≤ (m : Int) := by have := M2.out; omega
      have hcu : (1 : Int) ≤ (cu : Int) := by have := M2.out; have := HCAP.out; have := HMM.out; omega
      have hcu1 : ¬ cu = 1 := by have := M2.out; have := HCAP.out; have := HMM.out; omega
      go_wp2_with fail
      --
      refine (command_any WS.out (by have := LO.out; omega) 1 1 9 rfl (by decide) (by decide)).mono ?_; rintro e w5 ⟨rfl, v5, ws5, b5⟩
      have WS5 := Lib.hid ws5; have B5 := Lib.hid (BW.out.trans b5)
      clear ws5 b5
      go_wp2_with fail
      --
      refine (points_any (w0 := w3) (p := lastA (ls.take i) (0, 0)) (P3.out.head (by have := M2.out; omega)) (by rw [HBS.out]; exact B5.out) (by rw [HBS.out]; exact WS5.out) (fun x hx => INL.out x (List.mem_of_mem_take hx)) INP.out (by rw [List.length_append, List.length_take]; have := LO.out; simp only [List.length_cons, List.length_nil]; omega)).mono ?_; rintro e w6 ⟨rfl, v6, ws6, b6⟩
      rw [HBS.out] at ws6 b6
      have WS6 := Lib.hid ws6; have B6 := Lib.hid (B5.out.trans b6)
      clear ws6 b6
      go_wp2_with fail
      --
      refine (command_any WS6.out (by rw [List.length_append, List.length_append, stp_len, List.length_take]; have := LO.out; simp only [List.length_cons, List.length_nil]; omega) 2 ((m : Int) - 1) (2 + 8 * ((m : Int) - 1)) rfl ⟨by omega, by have := LO.out; omega⟩ (by decide)).mono ?_; rintro e w7 ⟨rfl, v7, ws7, b7⟩
      have WS7 := Lib.hid ws7; have B7 := Lib.hid (B6.out.trans b7)
      clear ws7 b7
      obtain ⟨pb, poff, ha⟩ : ∃ pb poff, au = some ⟨pb, poff, none⟩ := by
        obtain ⟨x, y, e, _⟩ := P3.out.at_ (j := 0) (by rw [HMM.out]; have := M2.out; omega)
        exact ⟨x, y, e⟩
      subst ha
      go_wp2_with fail
      --
      refine (points_any (w0 := w3) (p := lastP (l.take 1) (lastA (ls.take i) (0, 0))) (P3.out.tail (by have := M2.out; omega)) (by rw [HBS.out]; exact B7.out) (by rw [HBS.out]; exact WS7.out) (fun x hx => INL.out x (List.mem_of_mem_drop hx)) (lastP_in _ _ (fun x hx => INL.out x (List.mem_of_mem_take hx)) INP.out) (by rw [List.length_append, List.length_append, List.length_append, stp_len, List.length_take, List.length_drop]; have := LO.out; have := HMM.out; simp only [List.length_cons, List.length_nil]; omega)).mono ?_; rintro e w8 ⟨rfl, v8, ws8, b8⟩
      rw [HBS.out] at ws8 b8
      have WS8 := Lib.hid ws8; have B8 := Lib.hid (B7.out.trans b8)
      clear ws8 b8
      have r5 := R3.out.below B8.out LT3.out
      have q0 := r5.cell (i := 0) rfl
      clear r5
      have LP := Lib.hid (lastP_split l (lastA (ls.take i) (0, 0)))
      go_wp2_with fail
      --
      refine (command_any WS8.out (by rw [List.length_append, List.length_append, List.length_append, List.length_append, stp_len, stp_len, List.length_take, List.length_drop]; have := LO.out; have := HMM.out; simp only [List.length_cons, List.length_nil]; omega) 7 1 15 rfl (by decide) (by decide)).mono ?_; rintro e w9 ⟨rfl, v9, ws9, b9⟩
      have WS9 := Lib.hid ws9; have B9 := Lib.hid (B8.out.trans b9)
      clear ws9 b9
      go_wp2_with fail
      go_roundw
      case measure => simp [intOf]; have := HK.out; omega
      case rel =>
        refine ⟨k1, v9, by have := HK.out; omega, rfl, ?_, B9.out⟩
        show Wst _ _ _ _ _ _
        rw [SN.out, LN.out]
        have e : encP 3 l (lastA (ls.take i) (0, 0)) = [9] ++ stp (l.take 1) (lastA (ls.take i) (0, 0)) ++ [2 + 8 * ((m : Int) - 1)] ++ stp (l.drop 1) (lastP (l.take 1) (lastA (ls.take i) (0, 0))) ++ [15] := by
          unfold encP; rw [if_neg (by decide), HMM.out]; rfl
        rw [e, ← LP.out]
        have h := WS9.out
        simpa only [List.append_assoc, List.nil_append, List.append_nil] using h
    · have kl : ¬ (i : Int) < (n : Int) := by omega
      have e : ls.take i = ls := List.take_of_length_le (by have := HN.out; omega)
      rw [e] at WS
      have g0 := WS.out.row.cell (i := 0) rfl
      have FB : Hid (Below w.heap.size w wr) := B3.out.trans (BW.out.mono (by have := B3.out.size; have := HBS.out; omega))
      rw [hB0] at FB
      go_wp2_with fail
      go_ret2
      refine ⟨v', rfl, ?_, FB.out⟩
      have he : enc 3 ls = [] ++ encA 3 ls (0, 0) := by unfold enc; rw [if_neg (by decide)]
      rw [he]
      exact IntsAt.of_row WS.out.own
def encR (k : Int) (ls : List (List Pt)) : List Int := if chk k ls = 0 then enc k ls else []
theorem encode_any {w : World} {k : Int} {v : Value} {ls : List (List Pt)} (h : RowsAt w v ls) (hm : ls.length + tot ls ≤ 9000) : Calls Tryd.prog 9 #[gv k v] w fun e w' => ∃ u, e = .returned (.tuple #[u, .int .i64 (chk k ls)]) ∧ IntsAt w' u (encR k ls) ∧ Below w.heap.size w w' := by
  by_cases hc : chk k ls = 0
  · have hr : encR k ls = enc k ls := if_pos hc
    rw [hr, hc]
    obtain ⟨hk, _, _⟩ := chk_zero hc
    have h3 : k = 1 ∨ k = 2 ∨ k = 3 := by unfold vK at hk; omega
    rcases h3 with rfl | rfl | rfl
    · exact encode_1 h hm hc
    · exact encode_2 h hm hc
    · exact encode_3 h hm hc
  · have hr : encR k ls = [] := if_neg hc
    rw [hr]
    have A0 := h
    obtain ⟨a, cap, rfl⟩ := h.form
    obtain ⟨n, hn⟩ : ∃ n, ls.length = n := ⟨_, rfl⟩
    obtain ⟨c, hcc⟩ : ∃ c, chk k ls = c := ⟨_, rfl⟩
    obtain ⟨B0, hB0⟩ : ∃ B0, w.heap.size = B0 := ⟨_, rfl⟩
    obtain ⟨W1, hW1⟩ : ∃ W1, w.alloc (.cells #[.int .i64 k, .slice a n cap] 24) = W1 := ⟨_, rfl⟩
    have r1 : Row W1 B0 24 [.int .i64 k, .slice a n cap] := by rw [← hW1, ← hB0]; exact Row.new _ _ _
    have q0 := r1.cell (i := 0) rfl; have q1 := r1.cell (i := 1) rfl
    have b1 : Below w.heap.size w W1 := by rw [← hW1]; exact (Below.refl _ _).alloc (Nat.le_refl _) _
    have CK := Lib.hid (check_any (k := k) (A0.below b1) (by omega))
    rw [hcc] at CK hc ⊢
    rw [hn] at CK ⊢
    have BB := Lib.hid b1
    have cn : (c != 0) = true := by simpa using hc
    clear A0 h r1 b1 hm hn hc hcc hr
    go_enter Tryd.func9, Tryd.ntmps9
    go_wp2_with fail
    refine CK.out.mono ?_; rintro e w3 ⟨rfl, b3⟩
    have B3 : Hid (Below w.heap.size w w3) := BB.out.trans (b3.mono BB.out.size)
    clear b3
    go_wp2_with fail
    go_ret2
    exact ⟨.slice none 0 0, rfl, ints_nil _, by first | exact B3.out | (rw [← hB0]; exact B3.out)⟩
end Go.Proofs.YthlbenldgnjgcaaDoor
