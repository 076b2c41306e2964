/- tags: DeleteFunc at an own row; Drop. -/
import Derived.Test.YtgfhanhonfpngaaDoorTn
namespace Go.Proofs.YtgfhanhonfpngaaDoor
open Go.ChangeShapes Go.WideShapes Go.ChangeAt Go.RowKit Go.Joins Go.Deep

open Go.Proofs.TagM Go.Shelf Go.Sort

set_option maxRecDepth 100000 in
set_option maxHeartbeats 4000000 in
theorem delete_any {w : World} {base g cap : Nat} {l : List Tg} (key : ByteArray) (B : Nat) (hr : RowT w g cap l) (hbg : base ≤ g) (hl : l.length ≤ 1000000) (hBg : B ≠ g) (hB : B < w.heap.size) (hcell : w.cell? ⟨B, 0, none⟩ = some (.string key)) :
    Calls Tryd.prog 42 #[.slice (some ⟨g, 0, none⟩) l.length cap, .func (.func 43) #[] #[.pointer (some ⟨B, 0, none⟩)]] w fun e w' => ∃ u, e = .returned u ∧ TOwn w' base u (fl key l) ∧ Below base w w' := by
  have eg : ∀ args w, (callFunc 43 args).run Tryd.prog w = .ok (.enter 43 args) w := enters_of Tryd.func43 (by kernel_rfl) rfl
  have HI := Lib.hid (index_any 43 #[.pointer (some ⟨B, 0, none⟩)] (fun x => decide (x.1 = key)) eg (drop_pred key B w hB hcell) (hr.own hbg).at_ hl)
  have R0 := Lib.hid hr
  have HB := Lib.hid hbg
  have HBg := Lib.hid hBg
  have HBl := Lib.hid hB
  have HCE := Lib.hid hcell
  have HL := Lib.hid hl
  have CA := Lib.hid (show l.length ≤ cap from by obtain ⟨_, _, h, _⟩ := hr; exact h)
  have GL := Lib.hid hr.lt
  obtain ⟨n, hn⟩ : ∃ n, l.length = n := ⟨_, rfl⟩
  have HN := Lib.hid hn
  rw [hn] at HI HL CA ⊢
  rcases fnd_cases l key with ⟨h1, h2⟩ | ⟨i, h1, h2, h3, h4⟩
  · rw [show Lib.idxBy (fun (_ : Tg) y => decide (y.1 = key)) l default = -1 from h1] at HI
    have F := Lib.hid (fl_none h2)
    clear h1 h2 hn hr hbg hl hBg hB hcell
    go_enter Tryd.func42, Tryd.ntmps42
    go_wp2_with fail
    refine HI.out.mono ?_; rintro e w2 ⟨rfl, b⟩
    go_wp2_with fail
    go_ret
    refine ⟨_, rfl, ?_, ⟨b.os, b.tape, b.output, b.size, fun k hk => b.block k (by have := HB.out; have := GL.out; omega)⟩⟩
    rw [F.out]
    have := ((R0.out.keep (b.block g GL.out)).own HB.out)
    rw [HN.out] at this
    exact this
  · rw [show Lib.idxBy (fun (_ : Tg) y => decide (y.1 = key)) l default = (i : Int) from h2] at HI
    have F := Lib.hid (fl_first h1 h3 h4)
    have i0 : ((i : Int) == -1) = false := by simp
    have hin : i < n := by omega
    obtain ⟨i1, hi1⟩ : ∃ i1, i + 1 = i1 := ⟨_, rfl⟩
    have HI1 := Lib.hid hi1
    have HIN := Lib.hid hin
    have e1 : (i : Int) + 1 = (i1 : Int) := by omega
    have e2 : IntKind.i64.wrap (i1 : Int) = (i1 : Int) := by rw [IntKind.wrap_i64]; omega
    clear h1 h2 h3 h4 hn hr hbg hl hBg hB hcell hi1 hin
    go_enter Tryd.func42, Tryd.ntmps42
    go_wp2_with fail
    refine HI.out.mono ?_; rintro e w2 ⟨rfl, b⟩
    have R2 := Lib.hid (R0.out.keep (b.block g GL.out))
    have B2 : Hid (Below base w w2) := ⟨b.os, b.tape, b.output, b.size, fun k hk => b.block k (by have := HB.out; have := GL.out; omega)⟩
    have C2 : Hid (w2.cell? ⟨B, 0, none⟩ = some (.string key) ∧ B < w2.heap.size) := ⟨by rw [b.cell (by exact HBl.out)]; exact HCE.out, by have := b.size; have := HBl.out; omega⟩
    clear b
    go_wp2_with fail
    clear e1 e2 i0
    go_loopw [6, 5] (fun s s5 wr => ∃ (j q : Nat) (K : List Tg), j ≤ n ∧ q < j ∧ s = .int .i64 (j : Int) ∧ s5 = .int .i64 (q : Int) ∧ Hid (RowT wr g cap K) ∧ Hid (K.length = n ∧ K.take q = fl key (l.take j) ∧ K.drop j = l.drop j) ∧ Hid (Below base w wr) ∧ Hid (wr.cell? ⟨B, 0, none⟩ = some (.string key) ∧ B < wr.heap.size)) (fun s _ _ => n - (intOf s).toNat)
    case atStart => exact ⟨i1, i, l, by have := HI1.out; have := HIN.out; omega, by have := HI1.out; omega, rfl, rfl, R2.out, ⟨HN.out, by rw [← HI1.out]; exact F.out.symm, rfl⟩, B2.out, C2.out⟩
    case round =>
      clear R2 B2 C2
      obtain ⟨j, q, K, hj, hq, rfl, rfl, RK, KK, BX, CB⟩ := hrel
      have q0 : (0 : Int) ≤ (q : Int) := by omega
      have qn : (q : Int) < (n : Int) := by omega
      by_cases hjn : j < n
      · have hjl : j < l.length := by rw [HN.out]; exact hjn
        have hjK : j < K.length := by rw [KK.out.1]; exact hjn
        have hqK : q < K.length := by rw [KK.out.1]; omega
        have KE : K.getD j default = l.getD j default := by
          have h := KK.out.2.2
          have h1 := drop_at hjK; have h2 := drop_at hjl
          rw [h1, h2] at h
          exact (List.cons.inj h).1
        have KD : K.drop (j + 1) = l.drop (j + 1) := by
          have h := KK.out.2.2
          have h1 := drop_at hjK; have h2 := drop_at hjl
          rw [h1, h2] at h
          exact (List.cons.inj h).2
        obtain ⟨o0, o1⟩ := RK.out.at_ hjK
        have FT := Lib.hid (fl_take (k := key) hjl)
        rw [KE] at o0 o1
        obtain ⟨⟨x, y⟩, hz⟩ : ∃ z, l.getD j default = z := ⟨_, rfl⟩
        rw [hz] at o0 o1 FT
        dsimp only at o0 o1 FT
        obtain ⟨j1, hj1⟩ : ∃ j1, j + 1 = j1 := ⟨_, rfl⟩
        rw [hj1] at FT KD
        have HK := Lib.hid hj1
        have j0 : (0 : Int) ≤ (j : Int) := by omega
        have jl : (j : Int) < (n : Int) := by omega
        have e1 : (j : Int) + 1 = (j1 : Int) := by omega
        have e2 : IntKind.i64.wrap (j1 : Int) = (j1 : Int) := by rw [IntKind.wrap_i64]; have := HL.out; omega
        obtain ⟨q1, hq1⟩ : ∃ q1, q + 1 = q1 := ⟨_, rfl⟩
        have HQ := Lib.hid hq1
        have e3 : (q : Int) + 1 = (q1 : Int) := by omega
        have e4 : IntKind.i64.wrap (q1 : Int) = (q1 : Int) := by rw [IntKind.wrap_i64]; have := HL.out; omega
        obtain ⟨xb, hxb⟩ : ∃ xb, wr.heap.size = xb := ⟨_, rfl⟩
        obtain ⟨W2, hW2⟩ : ∃ W2, wr.alloc (.cells #[.string x, .string y] 32) = W2 := ⟨_, rfl⟩
        have r2 : Row W2 xb 32 [.string x, .string y] := by rw [← hW2, ← hxb]; exact Row.new _ _ _
        have b2 : Below wr.heap.size wr W2 := by rw [← hW2]; exact (Below.refl _ _).alloc (Nat.le_refl _) _
        have x0 := r2.cell (i := 0) rfl; have x1 := r2.cell (i := 1) rfl
        have PR : Hid (Calls Tryd.prog 43 #[.agg #[.string x, .string y], .pointer (some ⟨B, 0, none⟩)] W2 fun e w' => e = .returned (.bool (decide (x = key))) ∧ Below W2.heap.size W2 w') := (drop_pred key B W2 (by have := b2.size; have := CB.out.2; omega) (by rw [b2.cell (by exact CB.out.2)]; exact CB.out.1) W2 (x, y) (Below.refl _ _))
        have RA := Lib.hid r2; have BA := Lib.hid b2
        have GX := Lib.hid (show g < wr.heap.size from RK.out.lt)
        clear r2 b2 hz hj1 hq1 hjl
        by_cases hx : x = key
        · obtain rfl := hx
          rw [decide_eq_true (rfl : x = x)] at PR
          have F2 : Hid (K.length = n ∧ K.take q = fl x (l.take j1) ∧ K.drop j1 = l.drop j1) := ⟨KK.out.1, by rw [FT.out, if_pos rfl, List.append_nil]; exact KK.out.2.1, KD⟩
          have hq2 : q < j1 := by have := HK.out; omega
          clear KK FT KE KD hjK hqK
          go_wp2_with fail
          refine PR.out.mono ?_; rintro e w3 ⟨rfl, b3⟩
          have B3 := Lib.hid (BA.out.trans (b3.mono BA.out.size))
          have RK3 := Lib.hid (RK.out.keep (B3.out.block g GX.out))
          have BX3 : Hid (Below base w w3) := BX.out.trans ⟨B3.out.os, B3.out.tape, B3.out.output, B3.out.size, fun k hk => B3.out.block k (by have := HB.out; have := GX.out; omega)⟩
          have CB3 : Hid (w3.cell? ⟨B, 0, none⟩ = some (.string x) ∧ B < w3.heap.size) := ⟨by rw [B3.out.cell (by exact CB.out.2)]; exact CB.out.1, by have := B3.out.size; have := CB.out.2; omega⟩
          clear b3 hW2 x0 x1 o0 o1 RK CB BX
          go_wp2_with fail
          go_roundw
          case measure => simp [intOf]; have := HK.out; omega
          case rel => exact ⟨j1, q, K, by have := HK.out; omega, hq2, rfl, rfl, RK3, F2, BX3, CB3⟩
        · rw [decide_eq_false hx] at PR
          have F2 : Hid ((K.set q (x, y)).length = n ∧ (K.set q (x, y)).take q1 = fl key (l.take j1) ∧ (K.set q (x, y)).drop j1 = l.drop j1) := by
            refine ⟨by rw [List.length_set]; exact KK.out.1, ?_, ?_⟩
            · rw [FT.out, if_neg hx, ← KK.out.2.1, ← HQ.out, List.take_add_one, List.getElem?_set_self hqK, List.take_set_of_le (Nat.le_refl _)]
              rfl
            · rw [List.drop_set_of_lt (by have := HK.out; omega)]; exact KD
          have hq2 : q1 < j1 := by have := HK.out; have := HQ.out; omega
          have HQK := Lib.hid hqK
          clear KK FT KE KD hjK hqK hx
          go_wp2_with fail
          refine PR.out.mono ?_; rintro e w3 ⟨rfl, b3⟩
          have B3 := Lib.hid (BA.out.trans (b3.mono BA.out.size))
          have RK3 := RK.out.keep (B3.out.block g GX.out)
          have BX3 : Hid (Below base w w3) := BX.out.trans ⟨B3.out.os, B3.out.tape, B3.out.output, B3.out.size, fun k hk => B3.out.block k (by have := HB.out; have := GX.out; omega)⟩
          have CB3 : Hid (w3.cell? ⟨B, 0, none⟩ = some (.string key) ∧ B < w3.heap.size) := ⟨by rw [B3.out.cell (by exact CB.out.2)]; exact CB.out.1, by have := B3.out.size; have := CB.out.2; omega⟩
          have y0 : w3.cell? ⟨xb, 0, none⟩ = some (.string x) := by rw [b3.cell (by exact RA.out.lt)]; exact x0
          have y1 : w3.cell? ⟨xb, 1, none⟩ = some (.string y) := by rw [b3.cell (by exact RA.out.lt)]; exact x1
          obtain ⟨_, _, f0, f1, RP⟩ := RK3.put HQK.out x y
          obtain ⟨p0, p1⟩ := RK3.at_ HQK.out
          obtain ⟨W6, hW6⟩ : ∃ W6, (w3.setCell ⟨g, q * 2, none⟩ (.string x)).setCell ⟨g, q * 2 + 1, none⟩ (.string y) = W6 := ⟨_, rfl⟩
          rw [hW6] at RP
          have RP6 := Lib.hid RP
          have BX6 : Hid (Below base w W6) := by
            show Below _ _ _
            rw [← hW6]; exact (BX3.out.setCell (by show base ≤ g; exact HB.out) _).setCell (by show base ≤ g; exact HB.out) _
          have CB6 : Hid (W6.cell? ⟨B, 0, none⟩ = some (.string key) ∧ B < W6.heap.size) := by
            rw [← hW6]
            refine ⟨?_, by simp [World.setCell]; exact CB3.out.2⟩
            rw [World.cell?_setCell_far _ _ _ _ (by show g ≠ B; exact fun e => HBg.out e.symm), World.cell?_setCell_far _ _ _ _ (by show g ≠ B; exact fun e => HBg.out e.symm)]
            exact CB3.out.1
          clear b3 hW2 x0 x1 o0 o1 RK CB BX RP RK3 BX3 CB3
          go_wp2_with fail
          go_roundw
          case measure => simp [intOf]; have := HK.out; omega
          case rel => exact ⟨j1, q1, K.set q (x, y), by have := HK.out; omega, hq2, rfl, rfl, RP6, F2, BX6, CB6⟩
      · obtain rfl : j = n := by omega
        have kl : ¬ (j : Int) < (j : Int) := by omega
        obtain ⟨d, hd⟩ : ∃ d, j - q = d := ⟨_, rfl⟩
        have hci : ¬ cap = q := by have := CA.out; omega
        obtain ⟨wc, hc1, hc2, hc3⟩ := clear_run (i := q) (n := d) RK.out (by omega) (by rw [KK.out.1]; omega)
        have C1 := Lib.hid hc1; have C2 := Lib.hid hc2; have C3 := Lib.hid hc3
        have F2 : Hid (K.take q = fl key l) := by
          have h := KK.out.2.1
          rw [List.take_of_length_le (Nat.le_of_eq HN.out)] at h; exact h
        have LQ : Hid ((K.take q).length = q) := by show _ = _; rw [List.length_take, KK.out.1]; omega
        have hqj : q ≤ j := by omega
        have qj : (q : Int) ≤ (j : Int) := by omega
        have qc : q ≤ cap := by have := CA.out; omega
        have B9 : Hid (Below base w wc) := BX.out.trans ⟨C3.out.os, C3.out.tape, C3.out.output, C3.out.size, fun k hk => C3.out.block k (by have := HB.out; omega)⟩
        clear hc1 hc2 hc3 KK RK CB BX
        have c1 : Sem.run Tryd.prog (Builtin.clear_ #[22] 0 #[.slice (some ⟨g, q * 2, none⟩) d (cap - q)]) wr = .ok (.tuple #[]) wc := C1.out _ _
        go_wp2_with fail
        go_ret
        refine ⟨.slice (some ⟨g, 0, none⟩) q cap, ?_, ?_, B9.out⟩
        · rfl
        · rw [← F2.out]
          have h := C2.out.own HB.out
          rw [LQ.out] at h; exact h
end Go.Proofs.YtgfhanhonfpngaaDoor

