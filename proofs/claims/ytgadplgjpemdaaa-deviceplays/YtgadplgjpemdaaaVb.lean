/- device: Clone, with, New, Limit. -/
import Derived.Test.YtgadplgjpemdaaaVa
import Derived.OwnWalk
namespace Go.Proofs.Ytgadplgjpemdaaa
open Go.ChangeShapes Go.WideShapes Go.ChangeAt Go.RowKit Go.Joins Go.Deep

def flat (bs : List (List UInt8)) : List Value := bs.flatMap Lib.byteCells
theorem flat_cons (b : List UInt8) (bs : List (List UInt8)) : flat (b :: bs) = Lib.byteCells b ++ flat bs := List.flatMap_cons
theorem flat_len : ∀ bs : List (List UInt8), (∀ b ∈ bs, b.length = 64) → (flat bs).length = bs.length * 64
  | [], _ => rfl
  | b :: bs, h => by
    rw [flat_cons, List.length_append, flat_len bs (fun c hc => h c (List.mem_cons_of_mem _ hc)), Lib.byteCells_length, h b (List.mem_cons_self ..), List.length_cons]; omega
theorem flat_at : ∀ (bs : List (List UInt8)) (i j : Nat), (∀ b ∈ bs, b.length = 64) → i < bs.length → j < 64 → (flat bs)[i * 64 + j]? = (Lib.byteCells (bs.getD i []))[j]?
  | b :: bs, 0, j, h, _, hj => by
    rw [flat_cons, Nat.zero_mul, Nat.zero_add, List.getElem?_append_left (by rw [Lib.byteCells_length, h b (List.mem_cons_self ..)]; exact hj)]; rfl
  | b :: bs, i + 1, j, h, hi, hj => by
    have hb := h b (List.mem_cons_self ..)
    rw [flat_cons, List.getElem?_append_right (by rw [Lib.byteCells_length, hb]; omega), Lib.byteCells_length, hb, show (i + 1) * 64 + j - 64 = i * 64 + j by omega, List.getD_cons_succ]
    exact flat_at bs i j (fun c hc => h c (List.mem_cons_of_mem _ hc)) (by simpa using hi) hj
theorem byteCells_one (l : List UInt8) : ∀ v ∈ Lib.byteCells l, v.oneCell' = true := by
  intro v hv
  simp only [Lib.byteCells, List.mem_map] at hv
  obtain ⟨b, _, rfl⟩ := hv
  rfl
theorem flat_one (bs : List (List UInt8)) : ∀ v ∈ flat bs, v.oneCell' = true := by
  intro v hv
  obtain ⟨b, _, hb⟩ := List.mem_flatMap.1 hv
  exact byteCells_one b v hb
theorem Bl.mem {w : World} {g n : Nat} {bs : List (List UInt8)} (h : Bl w g n bs) : ∀ b ∈ bs, b.length = 64 := by
  intro b hb
  obtain ⟨i, hi, rfl⟩ := List.getElem_of_mem hb
  have := h.each i (by rw [← h.len]; exact hi)
  rw [List.getD, List.getElem?_eq_getElem hi] at this
  exact this
theorem bl_of_row {w : World} {g n : Nat} {cur : Array Value} {bs : List (List UInt8)} (hg : w.heap[g]? = some (.cells cur 58 (0, 0))) (ht : cur.toList.take (n * 64) = flat bs) (hl : bs.length = n) (h64 : ∀ b ∈ bs, b.length = 64) : Bl w g n bs := by
  refine ⟨?_, hl, fun i hi => ?_, fun i hi j v hv => ?_, fun o => ?_⟩
  · by_cases hb : g < w.heap.size
    · exact hb
    · rw [Array.getElem?_eq_none (Nat.le_of_not_lt hb)] at hg; cases hg
  · rw [List.getD, List.getElem?_eq_getElem (by omega)]; exact h64 _ (List.getElem_mem _)
  · have hj : j < 64 := by
      have h1 := (List.getElem?_eq_some_iff.1 hv).1
      rw [Lib.byteCells_length, List.getD, List.getElem?_eq_getElem (by omega)] at h1
      have h2 := h64 _ (List.getElem_mem (show i < bs.length by omega))
      simp only [Option.getD_some] at h1
      omega
    have h1 := flat_at bs i j h64 (by omega) hj
    rw [← ht, List.getElem?_take, if_pos (by omega), hv] at h1
    rw [cell_of_row w g (i * 64 + j) cur 58 (0, 0) hg, ← h1]
    simp
  · unfold World.frozen?; rw [hg]; simp
theorem Try.info58 : (Try.prog.info? 58).map (fun i => (i.zero, i.size, i.bytes)) = some (some (.agg (Array.replicate 64 (.int .u8 0))), 64, 64) := by kernel_rfl
theorem info_parts {t : TypeId} {z : Option Value} {s b : Nat} (h : (Try.prog.info? t).map (fun i => (i.zero, i.size, i.bytes)) = some (z, s, b)) : ∃ i, Try.prog.info? t = some i ∧ i.zero = z ∧ i.size = s ∧ i.bytes = b := by
  cases hq : Try.prog.info? t with
  | none => simp [hq] at h
  | some i => rw [hq] at h; simp at h; exact ⟨i, rfl, h.1, h.2.1, h.2.2⟩
theorem nil50 (ad : Addr) (n cap : Nat) (w : World) : Sem.run Try.prog (binOp .eql 50 (.slice (some ad) n cap) (.slice none 0 0)) w = .ok (.bool false) w := by rfl
set_option maxHeartbeats 2000000 in
theorem clone_any {w : World} {g n cap : Nat} {bs : List (List UInt8)} (h : Bl w g n bs) (h1 : 1 ≤ n) (h2 : n ≤ 65536) : Calls Try.prog 26 #[.slice (some ⟨g, 0, none⟩) n cap] w fun e w' => ∃ g' cap', e = .returned (.slice (some ⟨g', 0, none⟩) n cap') ∧ w.heap.size ≤ g' ∧ Bl w' g' n bs ∧ Below w.heap.size w w' := by
  obtain ⟨i0, hi, hz0, hz1, hz2⟩ := info_parts Try.info58
  have II := Lib.hid hi; have Z0 := Lib.hid hz0; have Z1 := Lib.hid hz1; have Z2 := Lib.hid hz2
  clear hi hz0 hz1 hz2
  have NW : Hid (∀ (o : Obj) (j : Nat) (u : Value), (flat bs)[j]? = some u → (w.alloc o).cell? ((⟨g, 0, none⟩ : Addr).add j) = some u) := by
    intro o j u hu
    have hj : j < n * 64 := by have := (List.getElem?_eq_some_iff.1 hu).1; rw [flat_len bs h.mem, h.len] at this; exact this
    rw [Addr.add_mid, Nat.zero_add, World.cell?_of_block (w := w) (Below.heap_alloc _ _ _ h.lt)]
    have ej : j = j / 64 * 64 + j % 64 := by omega
    have hd : j / 64 < n := by omega
    have hm : j % 64 < 64 := Nat.mod_lt _ (by decide)
    rw [ej] at hu ⊢
    rw [flat_at bs (j / 64) (j % 64) h.mem (by rw [h.len]; exact hd) hm] at hu
    exact h.cell (j / 64) hd (j % 64) u hu
  have HB := Lib.hid h
  have FL : Hid ((flat bs).length = n * 64) := by show _ = _; rw [flat_len bs h.mem, h.len]
  have N1 : Hid (1 ≤ n ∧ n ≤ 65536) := ⟨h1, h2⟩
  clear h h1 h2
  have E1 := nil50
  go_enter Try.func26, Try.ntmps26
  go_wp2_with (at_builtin; refine wpList_append_own_at _ rfl _ _ 50 rfl w.heap.size 58 i0 (.agg (Array.replicate 64 (.int .u8 0))) 64 64 Try.underlying50 II.out Z0.out Z1.out Z2.out (by simp [Value.cells]) (by decide) (.slice (some ⟨w.heap.size, 0, none⟩) 0 0) 0 [] rfl (World.ownsRow_made w #[] 0 (Nat.le_refl _) (by decide) rfl) ⟨g, 0, none⟩ n cap (flat bs) rfl FL.out (NW.out _) (flat_one _) (by have := N1.out; unfold maxLen; omega) (by have := N1.out; omega) (by simp) ?_; intro v' w4 hown' hgrow hnil hloc; have R4 := Lib.hid hown'; have G4 := Lib.hid hgrow; clear hown' hgrow hloc hnil)
  go_ret
  have B4 : Below w.heap.size w w4 := ((Below.refl _ w).alloc (Nat.le_refl _) _).grown G4.out (by simp) (fun k e => Nat.le_of_eq (by injection e with e))
  have h := R4.out
  rw [Nat.zero_add, List.nil_append] at h
  rcases h.2 with ⟨_, h0⟩ | ⟨g', cap', cur, rfl, hb, hg, hc1, hc2, hc3, hc4⟩
  · have := N1.out; omega
  · exact ⟨g', cap', rfl, hb, bl_of_row hg hc4 HB.out.len HB.out.mem, B4⟩
/- with -/
theorem with_any {w : World} {B g n cap : Nat} {bs : List (List UInt8)} (h : Bl w g n bs) (hB : B ≤ g) (h1 : 1 ≤ n) (h2 : n ≤ 65536) : Calls Try.prog 21 #[.slice (some ⟨g, 0, none⟩) n cap] w fun e w' => ∃ D, e = .returned (pD D) ∧ Dv w' B D n bs bs [] false 0 ∧ Below w.heap.size w w' := by
  have HB := Lib.hid h
  have N1 : Hid (1 ≤ n ∧ n ≤ 65536) := ⟨h1, h2⟩
  have CL := Lib.hid (clone_any (cap := cap) h h1 h2)
  have BG := Lib.hid hB
  clear h h1 h2 hB
  go_enter Try.func21, Try.ntmps21
  go_wp2_with fail
  refine CL.out.mono ?_; rintro e w4 ⟨g', cap', rfl, hg', hbl, b⟩
  have LG := Lib.hid hg'; have BL := Lib.hid hbl; have B4 := Lib.hid b
  clear hg' hbl b
  go_wp2_with fail
  go_ret
  have lt := HB.out.lt
  have l2 := BL.out.lt
  have l3 := LG.out
  have l4 := BG.out
  have lw := B4.out.size
  refine ⟨_, rfl, ⟨g, g', cap, cap', .slice none 0 0, Row.new _ _ _, (HB.out.keep B4.out).same (Below.heap_alloc _ _ _ (by omega)), BL.out.same (Below.heap_alloc _ _ _ l2), World.ownsRow_nil _ _ _ _, by omega, l4, by omega, by omega, by omega, by omega, by simp [Value.ownBlock], by simp [Value.ownBlock], by simp [Value.ownBlock], fun p hp => absurd hp (List.not_mem_nil), N1.out, by decide⟩, B4.out.alloc B4.out.size _⟩
/- New -/
def zb : List UInt8 := List.replicate 64 0
def zbs (n : Nat) : List (List UInt8) := List.replicate n zb
theorem zbs_mem {n : Nat} : ∀ b ∈ zbs n, b.length = 64 := by intro b hb; rw [List.eq_of_mem_replicate hb]; rfl
theorem made_zero (n : Nat) : (madeCells (Value.agg (Array.replicate 64 (.int .u8 0))).cells (n * 64)).toList = flat (zbs n) := by
  have e1 : ∀ k, (madeCells (Value.agg (Array.replicate 64 (.int .u8 0))).cells k).toList = List.replicate k (.int .u8 0) := fun k => by
    apply List.ext_getElem?
    intro i
    unfold madeCells
    simp only [Value.cells, Array.toList_map, List.getElem?_map, Array.size_replicate, List.getElem?_replicate]
    by_cases hi : i < k
    · rw [if_pos hi]
      simp [hi, Nat.mod_lt]
    · rw [if_neg hi]
      simp [Nat.le_of_not_lt hi]
  rw [e1]
  induction n with
  | zero => rfl
  | succ n ih =>
    show _ = flat (zbs (n + 1))
    rw [show zbs (n + 1) = zb :: zbs n from rfl, flat_cons, ← ih, Nat.succ_mul, Nat.add_comm (n * 64) 64, ← List.replicate_append_replicate]
    rfl
theorem new_none (w : World) (n : Int) (h : n < 1 ∨ 65536 < n) : Calls Try.prog 8 #[.int .i64 n] w fun e w' => e = .returned (.pointer none) ∧ w' = w := by
  by_cases h0 : n < 1
  · have d0 : decide (n < 1) = true := by simpa using h0
    clear h h0
    go_enter Try.func8, Try.ntmps8
    go_wp2_with fail
    go_ret
    exact ⟨rfl, rfl⟩
  · have d0 : decide (n < 1) = false := by simpa using h0
    have d1 : decide (65536 < n) = true := by simp; omega
    clear h h0
    go_enter Try.func8, Try.ntmps8
    go_wp2_with fail
    go_ret
    exact ⟨rfl, rfl⟩
set_option maxHeartbeats 2000000 in
theorem new_any (w : World) (n : Nat) (h1 : 1 ≤ n) (h2 : n ≤ 65536) : Calls Try.prog 8 #[.int .i64 (n : Int)] w fun e w' => ∃ D, e = .returned (pD D) ∧ Dv w' w.heap.size D n (zbs n) (zbs n) [] false 0 ∧ Below w.heap.size w w' := by
  obtain ⟨i0, hi, hz0, hz1, hz2⟩ := info_parts Try.info58
  have II := Lib.hid hi; have Z0 := Lib.hid hz0; have Z1 := Lib.hid hz1; have Z2 := Lib.hid hz2
  have N1 : Hid (1 ≤ n ∧ n ≤ 65536) := ⟨h1, h2⟩
  have d0 : decide ((n : Int) < 1) = false := by simp; omega
  have d0' : decide (n < 1) = false := by simp; omega
  have d0'' : ¬ (n : Int) < 1 := by omega
  have d1 : decide (65536 < (n : Int)) = false := by simp; omega
  have d1' : decide (65536 < n) = false := by simp; omega
  have d1'' : ¬ 65536 < (n : Int) := by omega
  clear hi hz0 hz1 hz2 h1 h2
  go_enter Try.func8, Try.ntmps8
  go_wp2_with (at_make; refine wpList_make_full _ rfl _ _ 50 rfl w.heap.size 58 i0 (.agg (Array.replicate 64 (.int .u8 0))) 64 Try.underlying50 II.out Z0.out Z1.out .i64 .i64 (n : Int) (n : Int) n rfl rfl rfl rfl (by rw [Z2.out]; have := N1.out; omega) (by have := N1.out; unfold maxLen; omega) (Nat.le_refl _) ?_; intro w4 hown' hgrow; have R4 := Lib.hid hown'; have G4 := Lib.hid hgrow; clear hown' hgrow)
  have B4 : Hid (Below w.heap.size w w4) := (Below.refl _ w).grown G4.out (Nat.le_refl _) (fun k e => by cases e)
  have BL : Hid (Bl w4 w.heap.size n (zbs n)) := by
    have h := R4.out
    rw [made_zero] at h
    rcases h.2 with ⟨e, _⟩ | ⟨g', cap', cur, e, hb, hg, hc1, hc2, hc3, hc4⟩
    · cases e
    · injection e with e1 e2 e3
      injection e1 with e1
      injection e1 with e1
      subst e1
      exact bl_of_row hg hc4 (by unfold zbs; simp) zbs_mem
  refine (with_any BL.out (Nat.le_refl _) N1.out.1 N1.out.2).mono ?_; rintro e w5 ⟨D, rfl, hd, b⟩
  have HD := Lib.hid hd; have B5 := Lib.hid (B4.out.trans (b.mono B4.out.size))
  clear hd b
  go_wp2_with fail
  go_ret
  exact ⟨_, rfl, HD.out, B5.out⟩
/- Limit -/
def mx0 (i : Int) : Int := if i < 0 then 0 else i
theorem limit_any {w : World} {B D n : Nat} {fs ns : List (List UInt8)} {hs : List (Nat × List UInt8)} {lim : Bool} {left : Int} (h : Dv w B D n fs ns hs lim left) (i : Int) (hi : i ≤ 9223372036854775807) :
    Calls Try.prog 15 #[pD D, .int .i64 i] w fun e w' => e = .returned (.tuple #[]) ∧ Dv w' B D n fs ns hs true (mx0 i) ∧ Below B w w' := by
  obtain ⟨gf, gn, cf, cn, H, k⟩ := h
  have K := Lib.hid k
  have g3 := k.row.cell (i := 3) rfl; have f3 := k.row.fr (i := 3); have g4 := k.row.cell (i := 4) rfl; have f4 := k.row.fr (i := 4)
  obtain ⟨W1, hW1⟩ : ∃ W1, w.setCell ⟨D, 3, none⟩ (.bool true) = W1 := ⟨_, rfl⟩
  have r1 := k.row.set (i := 3) (.bool true)
  rw [hW1] at r1
  have R1 := Lib.hid r1
  have g4' := r1.cell (i := 4) rfl; have f4' := r1.fr (i := 4)
  have OT : Hid (∀ q, q ≠ D → W1.heap[q]? = w.heap[q]?) := fun q hq => by rw [← hW1]; exact Below.heap_setCell _ _ _ _ hq
  have BB : Hid (Below B w W1) := by show Below _ _ _; rw [← hW1]; exact (Below.refl _ _).setCell (by exact k.bD) _
  have FIN : Hid (∀ x, 0 ≤ x → x ≤ 9223372036854775807 → ∀ W2, W1.setCell ⟨D, 4, none⟩ (.int .i64 x) = W2 → Dv W2 B D n fs ns hs true x ∧ Below B w W2) := by
    intro x hx0 hx1 W2 hW2
    have e2 : ∀ q, q ≠ D → W2.heap[q]? = w.heap[q]? := fun q hq => by rw [← hW2, Below.heap_setCell _ _ _ _ (by exact hq)]; exact OT.out q hq
    have b2 : Below B w W2 := by rw [← hW2]; exact BB.out.setCell (by exact K.out.bD) _
    refine ⟨⟨gf, gn, cf, cn, H, ?_⟩, b2⟩
    have r2 := R1.out.set (i := 4) (.int .i64 x)
    rw [hW2] at r2
    exact { K.out with
      row := r2
      f := K.out.f.same (e2 gf (fun e => K.out.ne1 e.symm))
      nw := K.out.nw.same (e2 gn (fun e => K.out.ne2 e.symm))
      h := by
        rw [← hW2, ← hW1]
        exact ownsRow_setCell_other (ownsRow_setCell_other K.out.h (by exact K.out.hD) _) (by exact K.out.hD) _
      lf := ⟨hx0, hx1⟩ }
  by_cases h0 : i ≤ 0
  · have V : Hid (mx0 i = 0) := by show mx0 i = 0; unfold mx0; split <;> omega
    rw [V.out]
    clear k r1 hi
    go_enter Try.func15, Try.ntmps15
    go_wp2_with fail
    go_end0
    exact ⟨rfl, FIN.out _ (by decide) (by decide) _ rfl⟩
  · have V : Hid (mx0 i = i) := by show mx0 i = i; unfold mx0; split <;> omega
    have HI := Lib.hid hi; have H0 := Lib.hid h0
    rw [V.out]
    clear k r1 hi
    go_enter Try.func15, Try.ntmps15
    go_wp2_with fail
    go_end0
    exact ⟨rfl, FIN.out _ (by have := H0.out; omega) HI.out _ rfl⟩
end Go.Proofs.Ytgadplgjpemdaaa
