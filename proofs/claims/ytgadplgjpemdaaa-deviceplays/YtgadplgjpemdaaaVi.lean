/- device: DeviceHistory, DeviceHistory. -/
import Derived.Test.YtgadplgjpemdaaaVh
set_option linter.unusedSimpArgs false
namespace Go.Proofs.Ytgadplgjpemdaaa
open Go.ChangeShapes Go.WideShapes Go.ChangeAt Go.RowKit Go.Joins Go.Deep

theorem writeH_bad {w : World} {B D gf gn cf cn n : Nat} {H : Value} {fs ns : List (List UInt8)} {hs : List (Nat × List UInt8)} {x c : Int} {s : ByteArray} (k : DvB w B D gf gn cf cn H n fs ns hs false 0) (hb : werr n false 0 x s = c) (hc : c ≠ 0) :
    Calls Try.prog 11 #[pD D, .int .i64 x, .string s] w fun e w' => e = .returned (.int .i64 c) ∧ w' = w := by
  have h := write_bad ⟨gf, gn, cf, cn, H, k⟩ x s (by rw [hb]; exact hc)
  rw [hb] at h; exact h
theorem writeH_ok {w wr : World} {D gf gn cf cn n : Nat} {H va vp : Value} {L : List (Nat × ByteArray)} {x : Int} {s : ByteArray} (h : HS w wr D gf gn cf cn n H L va vp) (hx : 0 ≤ x ∧ x < (n : Int)) (h64 : s.size ≤ 64) (hl : L.length ≤ 100) :
    Calls Try.prog 11 #[pD D, .int .i64 x, .string s] wr fun e w' => e = .returned (.int .i64 0) ∧ ∃ H', DvB w' w.heap.size D gf gn cf cn H' n (zbs n) (rep (zbs n) (hof (L ++ [(x.toNat, s)]))) (hof (L ++ [(x.toNat, s)])) false 0 ∧
      w'.ownsRow w.heap.size 3 1 va L.length (ats L) ∧ w'.ownsRow w.heap.size 9 1 vp L.length (pts L) ∧ Ap D gf gn H' va ∧ Ap D gf gn H' vp ∧ Below w.heap.size w w' ∧ wr.heap.size ≤ w'.heap.size := by
  have h1 := write_okB h.dv x.toNat s (by omega) h64 (fun e => by cases e.1) (by rw [hof_len]; omega) h.bel.size
  rw [show ((x.toNat : Nat) : Int) = x by omega] at h1
  refine h1.mono ?_
  rintro e w' ⟨rfl, ⟨H', k', ho⟩, b, fr⟩
  refine ⟨rfl, H', ?_, ?_, ?_, h.apA.write (fun b hb => (h.a.lt b hb).2) ho, h.apP.write (fun b hb => (h.p.lt b hb).2) ho, h.bel.trans b, ?_⟩
  · rw [hof_snoc, rep_snoc]; exact k'
  · exact own_same h.a (fun c hc => by
      obtain ⟨h1, _, h3, h4⟩ := h.apA c hc
      exact fr c (h.a.lt c hc).2 h1 h3 h4)
  · exact own_same h.p (fun c hc => by
      obtain ⟨h1, _, h3, h4⟩ := h.apP c hc
      exact fr c (h.p.lt c hc).2 h1 h3 h4)
  · exact b.size

structure Mid (w W : World) (D gf gn cf cn n : Nat) (H : Value) (fs ns : List (List UInt8)) (hs : List (Nat × List UInt8)) (na : Nat) (xa : List Value) (va : Value) (np : Nat) (xp : List Value) (vp : Value) : Prop where
  dv : DvB W w.heap.size D gf gn cf cn H n fs ns hs false 0
  a : W.ownsRow w.heap.size 3 1 va na xa
  p : W.ownsRow w.heap.size 9 1 vp np xp
  apA : Ap D gf gn H va
  apP : Ap D gf gn H vp
  ne : ∀ b, va.ownBlock = some b → vp.ownBlock ≠ some b
  bel : Below w.heap.size w W
theorem Mid.keep {w W W' : World} {D gf gn cf cn n : Nat} {H : Value} {fs ns : List (List UInt8)} {hs : List (Nat × List UInt8)} {na : Nat} {xa : List Value} {va : Value} {np : Nat} {xp : List Value} {vp : Value} (h : Mid w W D gf gn cf cn n H fs ns hs na xa va np xp vp) (b : Below W.heap.size W W') : Mid w W' D gf gn cf cn n H fs ns hs na xa va np xp vp :=
  { h with dv := h.dv.keep b, a := own_below h.a b, p := own_below h.p b, bel := h.bel.trans (b.mono h.bel.size) }
theorem Mid.appA {w W W' : World} {D gf gn cf cn n : Nat} {H : Value} {fs ns : List (List UInt8)} {hs : List (Nat × List UInt8)} {na : Nat} {xa : List Value} {va : Value} {np : Nat} {xp : List Value} {vp : Value} (h : Mid w W D gf gn cf cn n H fs ns hs na xa va np xp vp)
    {v' : Value} {x : Value} (ho : W'.ownsRow w.heap.size 3 1 v' (na + 1) (xa ++ [x])) (hg : W.grownBy W' va.ownBlock) (hl : v'.ownBlock = va.ownBlock ∨ v'.ownBlock = some W.heap.size) : Mid w W' D gf gn cf cn n H fs ns hs (na + 1) (xa ++ [x]) v' np xp vp :=
  { dv := h.dv.grown h.apA hg
    a := ho
    p := own_same h.p (fun b hb => hg.block b (h.p.lt b hb).2 (fun e => h.ne b e.symm hb))
    apA := Ap.new h.dv h.apA (Nat.le_refl _) hl
    apP := h.apP
    ne := fun b hb e => by
      rcases hl with c | c
      · exact h.ne b (by rw [← c]; exact hb) e
      · rw [c] at hb; injection hb with hb; have := (h.p.lt b e).2; omega
    bel := h.bel.grown hg h.bel.size (fun b hb => (h.a.lt b hb).1) }
theorem Mid.appP {w W W' : World} {D gf gn cf cn n : Nat} {H : Value} {fs ns : List (List UInt8)} {hs : List (Nat × List UInt8)} {na : Nat} {xa : List Value} {va : Value} {np : Nat} {xp : List Value} {vp : Value} (h : Mid w W D gf gn cf cn n H fs ns hs na xa va np xp vp)
    {v' : Value} {x : Value} (ho : W'.ownsRow w.heap.size 9 1 v' (np + 1) (xp ++ [x])) (hg : W.grownBy W' vp.ownBlock) (hl : v'.ownBlock = vp.ownBlock ∨ v'.ownBlock = some W.heap.size) : Mid w W' D gf gn cf cn n H fs ns hs na xa va (np + 1) (xp ++ [x]) v' :=
  { dv := h.dv.grown h.apP hg
    a := own_same h.a (fun b hb => hg.block b (h.a.lt b hb).2 (fun e => h.ne b hb e.symm))
    p := ho
    apA := h.apA
    apP := Ap.new h.dv h.apP (Nat.le_refl _) hl
    ne := fun b hb e => by
      rcases hl with c | c
      · exact h.ne b hb (by rw [← c]; exact e)
      · rw [c] at e; injection e with e; have := (h.a.lt b hb).2; omega
    bel := h.bel.grown hg h.bel.size (fun b hb => (h.p.lt b hb).1) }
theorem cell_al {W : World} {o : Obj} {p : Addr} {v : Value} (h : W.cell? p = some v) : (W.alloc o).cell? p = some v := ((below_al W o).cell (cell_lt h)).trans h
theorem one_al (W : World) (x : Value) (t : TypeId) : (W.alloc (.cells #[x] t)).cell? ⟨W.heap.size, 0, none⟩ = some x := (Row.new W t [x]).cell (i := 0) rfl
theorem news1 {W : World} {g : Nat} {x : Value} (h : W.cell? ⟨g, 0, none⟩ = some x) : ∀ j u, [x][j]? = some u → W.cell? ((⟨g, 0, none⟩ : Addr).add j) = some u := by
  intro j u hj
  match j, hj with
  | 0, hj =>
    simp at hj
    subst hj
    rw [Addr.add_mid]; exact h
theorem zer_size (z : Nat) : (zer z).size = z := by unfold zer; simp [ByteArray.size]
theorem run_mkn (w : World) (z : Nat) (hz : z ≤ 64) : Sem.run Try.prog (Instr.makeSlice 46 (.int .i64 (z : Int)) (.int .i64 (z : Int))) w = .ok (.slice (some ⟨w.heap.size, 0, none⟩) z z) (w.alloc (.cells (Lib.byteCells (List.replicate z 0)).toArray 5)) := by
  obtain ⟨i0, hi, hz0, hz1, hz2⟩ := info_parts (show (Try.prog.info? 5).map (fun i => (i.zero, i.size, i.bytes)) = some (some (.int .u8 0), 1, 1) by kernel_rfl)
  have h := run_make (P := Try.prog) w 46 5 i0 (.int .u8 0) Try.underlying46 hi hz0 .i64 .i64 (z : Int) (z : Int) (by omega) (by omega) (by rw [hz2]; omega) (by omega)
  rw [h, hz1]
  have e : madeCells (Value.int IntKind.u8 0).cells (Int.toNat (z : Int) * 1) = (Lib.byteCells (List.replicate z 0)).toArray := by
    apply Array.ext'
    rw [Nat.mul_one, Int.toNat_natCast]
    rw [show (Value.int IntKind.u8 0).cells = #[Value.int IntKind.u8 0] from rfl, toList_madeCells_one]
    unfold Lib.byteCells
    rw [List.map_replicate]; rfl
  rw [e]; rfl
theorem run_czn (w : World) (z : Nat) : Sem.run Try.prog (convert 46 9 (.slice (some ⟨w.heap.size, 0, none⟩) z z)) (w.alloc (.cells (Lib.byteCells (List.replicate z 0)).toArray 5)) = .ok (.string (zer z)) (w.alloc (.cells (Lib.byteCells (List.replicate z 0)).toArray 5)) := by
  have k := run_conv (w.alloc (.cells (Lib.byteCells (List.replicate z 0)).toArray 5)) ⟨w.heap.size, 0, none⟩ z (List.replicate z 0) (fun j hj => by
    rw [Addr.add_mid, Nat.zero_add, cell_of_row _ w.heap.size j _ 5 (0, 0) (heap_alloc_last _ _)]
    have := byteCells_at hj
    simpa using this)
  rw [List.length_replicate] at k
  exact k
def sOther : ByteArray := ⟨#[111, 116, 104, 101, 114]⟩
set_option maxRecDepth 100000 in
set_option maxHeartbeats 8000000 in
theorem history_main (w : World) (n m cap : Nat) (a : Option Addr) (g : Nat → OpZ) (k : Int) (h : OpsAt w (.slice a m cap) m g) (hn : 1 ≤ n ∧ n ≤ 16) (hm : m ≤ 40) :
    Calls Try.prog 5 #[.int .i64 (n : Int), .slice a m cap, .int .i64 k] w fun e w' => e = .returned (.bool true) ∧ Below w.heap.size w w' := by
  have HO := Lib.hid h
  have NN := Lib.hid (new_any w n hn.1 (by omega))
  have HN := Lib.hid hn; have HM := Lib.hid hm
  have n1 : decide ((16 : Int) < (n : Int)) = false := by simp; omega
  have n2 : decide (16 < n) = false := by simp; omega
  have n3 : ¬ (16 : Int) < (n : Int) := by omega
  have m1 : decide ((40 : Int) < (m : Int)) = false := by simp; omega
  have m2 : decide (40 < m) = false := by simp; omega
  have m3 : ¬ (40 : Int) < (m : Int) := by omega
  obtain ⟨i3, hi3, hz30, hz31, hz32⟩ := info_parts (show (Try.prog.info? 3).map (fun i => (i.zero, i.size, i.bytes)) = some (some (.int .i64 0), 1, 8) by kernel_rfl)
  have II3 := Lib.hid hi3; have Z30 := Lib.hid hz30; have Z31 := Lib.hid hz31; have Z32 := Lib.hid hz32
  obtain ⟨i9, hi9, hz90, hz91, hz92⟩ := info_parts (show (Try.prog.info? 9).map (fun i => (i.zero, i.size, i.bytes)) = some (some (.string ByteArray.empty), 1, 16) by kernel_rfl)
  have II9 := Lib.hid hi9; have Z90 := Lib.hid hz90; have Z91 := Lib.hid hz91; have Z92 := Lib.hid hz92
  clear h hn hm hi3 hz30 hz31 hz32 hi9 hz90 hz91 hz92
  go_enter Try.func5, Try.ntmps5
  go_wp2_with fail
  refine NN.out.mono ?_; rintro e w1 ⟨D, rfl, hd, b⟩
  obtain ⟨gf, gn, cf, cn, H0, kd0⟩ := hd
  have H1 : Hid (HS w w1 D gf gn cf cn n H0 [] (.slice none 0 0) (.slice none 0 0)) := by
    refine ⟨kd0, World.ownsRow_nil _ _ _ _, World.ownsRow_nil _ _ _ _, fun p hp => absurd hp (List.not_mem_nil), fun b hb => absurd hb (by simp [Value.ownBlock]), fun b hb => absurd hb (by simp [Value.ownBlock]), fun b hb => absurd hb (by simp [Value.ownBlock]), b⟩
  clear NN kd0 b
  go_wp2_with fail
  clear n1 n2 n3 m1 m2 m3
  go_loopw [8, 9, 10] (fun s8 s9 s10 wr => ∃ (j : Nat) (L : List (Nat × ByteArray)) (va vp H : Value), j ≤ m ∧ s10 = .int .i64 (j : Int) ∧ s8 = va ∧ s9 = vp ∧ Hid (L.length ≤ j) ∧ Hid (HS w wr D gf gn cf cn n H L va vp)) (fun _ _ s10 _ => m - (intOf s10).toNat)
  case atStart => exact ⟨0, [], _, _, H0, Nat.zero_le _, rfl, rfl, rfl, Nat.zero_le _, H1.out⟩
  case round =>
    clear H1
    obtain ⟨j, L, va, vp, H, hj, rfl, rfl, rfl, HLJ, HR⟩ := hrel
    obtain ⟨aa, ca, hae⟩ := row_form1 HR.out.a
    obtain ⟨ap, cp, hpe⟩ := row_form1 HR.out.p
    subst hae hpe
    obtain ⟨l, hll⟩ : ∃ l, L.length = l := ⟨_, rfl⟩
    have HL := Lib.hid hll
    rw [hll] at HR
    rw [hll]
    clear hll
    by_cases hlt : j < m
    · obtain ⟨b, off, rfl, hbl, hc0, hc1, hc2⟩ := ops_at HO.out hlt
      obtain ⟨⟨kd, x, s⟩, hz⟩ : ∃ z, g j = z := ⟨_, rfl⟩
      rw [hz] at hc1 hc2
      obtain ⟨j1, hj1⟩ : ∃ j1, j + 1 = j1 := ⟨_, rfl⟩
      have HJ := Lib.hid hj1; have HJT := Lib.hid hlt
      have j0 : (0 : Int) ≤ (j : Int) := by omega
      have jl : (j : Int) < (m : Int) := by omega
      have f1 : (j : Int) + 1 = (j1 : Int) := by omega
      have f2 : IntKind.i64.wrap (j1 : Int) = (j1 : Int) := by rw [IntKind.wrap_i64]; have := HM.out; omega
      have c1 : wr.cell? ⟨b, off + j * 3 + 1, none⟩ = some (.int .i64 x) := by rw [HR.out.bel.cell (by exact hbl)]; exact hc1
      have c2 : wr.cell? ⟨b, off + j * 3 + 2, none⟩ = some (.string s) := by rw [HR.out.bel.cell (by exact hbl)]; exact hc2
      have HBL := Lib.hid hbl; have HC1 := Lib.hid hc1; have HC2 := Lib.hid hc2
      have DVD : Hid (DvB wr.drew w.heap.size D gf gn cf cn H n (zbs n) (rep (zbs n) (hof L)) (hof L) false 0) := HR.out.dv.keep (Below.refl _ _).drew
      have HRD := Lib.hid HR.out.drew
      have L100 : Hid (L.length ≤ 100) := by have h1 := HLJ.out; have h2 := HM.out; show _ ≤ _; omega
      clear hc0 hc1 hc2 hz hj1 hbl hj
      by_cases h400 : 400 < s.size
      · have q1 : decide ((400 : Int) < (s.size : Int)) = true := by simp; omega
        have q2 : decide (400 < s.size) = true := by simpa using h400
        have q3 : (400 : Int) < (s.size : Int) := by omega
        clear hlt h400
        go_wp2_with fail
        refine (lives_any _).mono ?_; rintro e w3 ⟨rfl, b⟩
        have BB := Lib.hid (HR.out.bel.trans (b.mono HR.out.bel.size))
        clear b
        go_wp2_with fail
        go_ret
        exact ⟨rfl, BB.out⟩
      have q1 : decide ((400 : Int) < (s.size : Int)) = false := by simp; omega
      have q2 : decide (400 < s.size) = false := by simpa using h400
      have q3 : ¬ (400 : Int) < (s.size : Int) := by omega
      clear h400
      by_cases x0 : x < 0
      · have x1 : decide (0 ≤ x) = false := by simp; omega
        have V : Hid (werr n false 0 x s = 2) := by show werr _ _ _ _ _ = _; unfold werr; rw [if_pos (Or.inl x0)]
        clear hlt
        go_wp2_with fail
        refine wp_region_drop (fun W => W.cell? ⟨b, off + j * 3 + 1, none⟩ = some (.int .i64 x) ∧ W.cell? ⟨b, off + j * 3 + 2, none⟩ = some (.string s)) 11 (by kernel_rfl) ⟨c1, c2⟩ (fun hHeld => ?_)
        refine wpAnyD_pure (i := 0) (v := ?_) rfl (by kernel_rfl) (by kernel_rfl) (by kernel_rfl) (by rfl) (fun _ _ _ h => h) (Or.inl ⟨by rfl, ?_⟩) (by assumption) ?_
        rotate_left 1
        · (intro w; first | (go_simp; done) | (go_simp; with_reducible rfl))
        simp only [Act.put, List.getElem_toArray, List.getElem_cons_zero, List.setIfInBounds_toArray, List.set_cons_zero, List.set_cons_succ]
        refine wpAnyD_pure (i := 1) (v := ?_) rfl (by kernel_rfl) (by kernel_rfl) (by kernel_rfl) (by rfl) (fun _ _ _ h => h) (Or.inl ⟨by rfl, ?_⟩) (by assumption) ?_
        rotate_left 1
        · (intro w; first | (go_simp; done) | (go_simp; with_reducible rfl))
        simp only [Act.put, List.getElem_toArray, List.getElem_cons_zero, List.getElem_cons_succ, List.setIfInBounds_toArray, List.set_cons_zero, List.set_cons_succ]
        refine wpAnyD_pure (i := 2) (v := ?_) rfl (by kernel_rfl) (by kernel_rfl) (by kernel_rfl) (by rfl) (fun _ _ _ h => h) (Or.inl ⟨by rfl, ?_⟩) (by assumption) ?_
        rotate_left 1
        · (intro w; first | (go_simp; done) | (go_simp; with_reducible rfl))
        simp only [Act.put, List.getElem_toArray, List.getElem_cons_zero, List.getElem_cons_succ, List.setIfInBounds_toArray, List.set_cons_zero, List.set_cons_succ]
        refine wpAnyD_pure (i := 3) (v := ?_) rfl (by kernel_rfl) (by kernel_rfl) (by kernel_rfl) (by rfl) (fun _ _ _ h => h) (Or.inl ⟨by rfl, ?_⟩) (by assumption) ?_
        rotate_left 1
        · (intro w; first | (go_simp; done) | (go_simp; with_reducible rfl))
        simp only [Act.put, List.getElem_toArray, List.getElem_cons_zero, List.getElem_cons_succ, List.setIfInBounds_toArray, List.set_cons_zero, List.set_cons_succ]
        refine wpAnyD_pure (i := 4) (v := ?_) rfl (by kernel_rfl) (by kernel_rfl) (by kernel_rfl) (by rfl) (fun _ _ _ h => h) (Or.inl ⟨by rfl, ?_⟩) (by assumption) ?_
        rotate_left 1
        · (intro w; first | (go_simp; done) | (go_simp; with_reducible rfl))
        simp only [Act.put, List.getElem_toArray, List.getElem_cons_zero, List.getElem_cons_succ, List.setIfInBounds_toArray, List.set_cons_zero, List.set_cons_succ]
        refine wpAnyD_take (i := 5) (v := ?_) rfl (by kernel_rfl) (by kernel_rfl) (by kernel_rfl) (by kernel_rfl) (fun _ _ _ h => h) (Or.inl ⟨by rfl, ?_⟩) (by assumption) ?_
        rotate_left 1
        · (intro w hSw; (try dsimp only at hSw); first | (go_simp; done) | (go_simp; with_reducible rfl))
        simp only [Act.put, List.getElem_toArray, List.getElem_cons_zero, List.getElem_cons_succ, List.setIfInBounds_toArray, List.set_cons_zero, List.set_cons_succ]
        refine wpAnyD_pure (i := 6) (v := ?_) rfl (by kernel_rfl) (by kernel_rfl) (by kernel_rfl) (by rfl) (fun _ _ _ h => h) (Or.inl ⟨by rfl, ?_⟩) (by assumption) ?_
        rotate_left 1
        · (intro w; first | (go_simp; done) | (go_simp; with_reducible rfl))
        simp only [Act.put, List.getElem_toArray, List.getElem_cons_zero, List.getElem_cons_succ, List.setIfInBounds_toArray, List.set_cons_zero, List.set_cons_succ]
        refine wpAnyD_pure (i := 7) (v := ?_) rfl (by kernel_rfl) (by kernel_rfl) (by kernel_rfl) (by rfl) (fun _ _ _ h => h) (Or.inl ⟨by rfl, ?_⟩) (by assumption) ?_
        rotate_left 1
        · (intro w; first | (go_simp; done) | (go_simp; with_reducible rfl))
        simp only [Act.put, List.getElem_toArray, List.getElem_cons_zero, List.getElem_cons_succ, List.setIfInBounds_toArray, List.set_cons_zero, List.set_cons_succ]
        refine wpAnyD_pure (i := 8) (v := ?_) rfl (by kernel_rfl) (by kernel_rfl) (by kernel_rfl) (by rfl) (fun _ _ _ h => h) (Or.inl ⟨by rfl, ?_⟩) (by assumption) ?_
        rotate_left 1
        · (intro w; first | (go_simp; done) | (go_simp; with_reducible rfl))
        simp only [Act.put, List.getElem_toArray, List.getElem_cons_zero, List.getElem_cons_succ, List.setIfInBounds_toArray, List.set_cons_zero, List.set_cons_succ]
        refine wpAnyD_pure (i := 9) (v := ?_) rfl (by kernel_rfl) (by kernel_rfl) (by kernel_rfl) (by rfl) (fun _ _ _ h => h) (Or.inl ⟨by rfl, ?_⟩) (by assumption) ?_
        rotate_left 1
        · (intro w; first | (go_simp; done) | (go_simp; with_reducible rfl))
        simp only [Act.put, List.getElem_toArray, List.getElem_cons_zero, List.getElem_cons_succ, List.setIfInBounds_toArray, List.set_cons_zero, List.set_cons_succ]
        refine wpAnyD_take (i := 10) (v := ?_) rfl (by kernel_rfl) (by kernel_rfl) (by kernel_rfl) (by kernel_rfl) (fun _ _ _ h => h) (Or.inl ⟨by rfl, ?_⟩) (by assumption) ?_
        rotate_left 1
        · (intro w hSw; (try dsimp only at hSw); first | (go_simp; done) | (go_simp; with_reducible rfl))
        simp only [Act.put, List.getElem_toArray, List.getElem_cons_zero, List.getElem_cons_succ, List.setIfInBounds_toArray, List.set_cons_zero, List.set_cons_succ]
        refine wpAnyD_drop (by kernel_rfl) rfl (fun KK hK => ?_)
        go_simp
        go_wp2_with (go_at_call 11; (with_reducible refine (writeH_bad DVD.out V.out (by decide)).mono ?_); rintro en w3 ⟨rfl, hw⟩)
        subst hw
        refine hK.out _ _ ?_
        clear hK KK hHeld
        refine wpAny_one (i := 12) (by kernel_rfl) rfl (fun K hK => ?_)
        go_simp
        refine hK.out _ _ ?_
        clear hK K
        refine wpAny_done (by kernel_rfl) ?_ _
        go_wp2_with fail
        go_roundw
        case measure => simp [intOf]; have := HJ.out; have := HJT.out; omega
        case rel => exact ⟨j1, L, _, _, H, by have := HJ.out; have := HJT.out; omega, rfl, rfl, rfl, by have h1 := HLJ.out; have h2 := HJ.out; show _ ≤ _; omega, HR.out.drew⟩
      have x1 : decide (0 ≤ x) = true := by simp; omega
      by_cases x2 : (n : Int) ≤ x
      · have x3 : decide (x < (n : Int)) = false := by simp; omega
        have V : Hid (werr n false 0 x s = 2) := by show werr _ _ _ _ _ = _; unfold werr; rw [if_pos (Or.inr x2)]
        clear hlt
        go_wp2_with fail
        refine wp_region_drop (fun W => W.cell? ⟨b, off + j * 3 + 1, none⟩ = some (.int .i64 x) ∧ W.cell? ⟨b, off + j * 3 + 2, none⟩ = some (.string s)) 11 (by kernel_rfl) ⟨c1, c2⟩ (fun hHeld => ?_)
        refine wpAnyD_pure (i := 0) (v := ?_) rfl (by kernel_rfl) (by kernel_rfl) (by kernel_rfl) (by rfl) (fun _ _ _ h => h) (Or.inl ⟨by rfl, ?_⟩) (by assumption) ?_
        rotate_left 1
        · (intro w; first | (go_simp; done) | (go_simp; with_reducible rfl))
        simp only [Act.put, List.getElem_toArray, List.getElem_cons_zero, List.setIfInBounds_toArray, List.set_cons_zero, List.set_cons_succ]
        refine wpAnyD_pure (i := 1) (v := ?_) rfl (by kernel_rfl) (by kernel_rfl) (by kernel_rfl) (by rfl) (fun _ _ _ h => h) (Or.inl ⟨by rfl, ?_⟩) (by assumption) ?_
        rotate_left 1
        · (intro w; first | (go_simp; done) | (go_simp; with_reducible rfl))
        simp only [Act.put, List.getElem_toArray, List.getElem_cons_zero, List.getElem_cons_succ, List.setIfInBounds_toArray, List.set_cons_zero, List.set_cons_succ]
        refine wpAnyD_pure (i := 2) (v := ?_) rfl (by kernel_rfl) (by kernel_rfl) (by kernel_rfl) (by rfl) (fun _ _ _ h => h) (Or.inl ⟨by rfl, ?_⟩) (by assumption) ?_
        rotate_left 1
        · (intro w; first | (go_simp; done) | (go_simp; with_reducible rfl))
        simp only [Act.put, List.getElem_toArray, List.getElem_cons_zero, List.getElem_cons_succ, List.setIfInBounds_toArray, List.set_cons_zero, List.set_cons_succ]
        refine wpAnyD_pure (i := 3) (v := ?_) rfl (by kernel_rfl) (by kernel_rfl) (by kernel_rfl) (by rfl) (fun _ _ _ h => h) (Or.inl ⟨by rfl, ?_⟩) (by assumption) ?_
        rotate_left 1
        · (intro w; first | (go_simp; done) | (go_simp; with_reducible rfl))
        simp only [Act.put, List.getElem_toArray, List.getElem_cons_zero, List.getElem_cons_succ, List.setIfInBounds_toArray, List.set_cons_zero, List.set_cons_succ]
        refine wpAnyD_pure (i := 4) (v := ?_) rfl (by kernel_rfl) (by kernel_rfl) (by kernel_rfl) (by rfl) (fun _ _ _ h => h) (Or.inl ⟨by rfl, ?_⟩) (by assumption) ?_
        rotate_left 1
        · (intro w; first | (go_simp; done) | (go_simp; with_reducible rfl))
        simp only [Act.put, List.getElem_toArray, List.getElem_cons_zero, List.getElem_cons_succ, List.setIfInBounds_toArray, List.set_cons_zero, List.set_cons_succ]
        refine wpAnyD_take (i := 5) (v := ?_) rfl (by kernel_rfl) (by kernel_rfl) (by kernel_rfl) (by kernel_rfl) (fun _ _ _ h => h) (Or.inl ⟨by rfl, ?_⟩) (by assumption) ?_
        rotate_left 1
        · (intro w hSw; (try dsimp only at hSw); first | (go_simp; done) | (go_simp; with_reducible rfl))
        simp only [Act.put, List.getElem_toArray, List.getElem_cons_zero, List.getElem_cons_succ, List.setIfInBounds_toArray, List.set_cons_zero, List.set_cons_succ]
        refine wpAnyD_pure (i := 6) (v := ?_) rfl (by kernel_rfl) (by kernel_rfl) (by kernel_rfl) (by rfl) (fun _ _ _ h => h) (Or.inl ⟨by rfl, ?_⟩) (by assumption) ?_
        rotate_left 1
        · (intro w; first | (go_simp; done) | (go_simp; with_reducible rfl))
        simp only [Act.put, List.getElem_toArray, List.getElem_cons_zero, List.getElem_cons_succ, List.setIfInBounds_toArray, List.set_cons_zero, List.set_cons_succ]
        refine wpAnyD_pure (i := 7) (v := ?_) rfl (by kernel_rfl) (by kernel_rfl) (by kernel_rfl) (by rfl) (fun _ _ _ h => h) (Or.inl ⟨by rfl, ?_⟩) (by assumption) ?_
        rotate_left 1
        · (intro w; first | (go_simp; done) | (go_simp; with_reducible rfl))
        simp only [Act.put, List.getElem_toArray, List.getElem_cons_zero, List.getElem_cons_succ, List.setIfInBounds_toArray, List.set_cons_zero, List.set_cons_succ]
        refine wpAnyD_pure (i := 8) (v := ?_) rfl (by kernel_rfl) (by kernel_rfl) (by kernel_rfl) (by rfl) (fun _ _ _ h => h) (Or.inl ⟨by rfl, ?_⟩) (by assumption) ?_
        rotate_left 1
        · (intro w; first | (go_simp; done) | (go_simp; with_reducible rfl))
        simp only [Act.put, List.getElem_toArray, List.getElem_cons_zero, List.getElem_cons_succ, List.setIfInBounds_toArray, List.set_cons_zero, List.set_cons_succ]
        refine wpAnyD_pure (i := 9) (v := ?_) rfl (by kernel_rfl) (by kernel_rfl) (by kernel_rfl) (by rfl) (fun _ _ _ h => h) (Or.inl ⟨by rfl, ?_⟩) (by assumption) ?_
        rotate_left 1
        · (intro w; first | (go_simp; done) | (go_simp; with_reducible rfl))
        simp only [Act.put, List.getElem_toArray, List.getElem_cons_zero, List.getElem_cons_succ, List.setIfInBounds_toArray, List.set_cons_zero, List.set_cons_succ]
        refine wpAnyD_take (i := 10) (v := ?_) rfl (by kernel_rfl) (by kernel_rfl) (by kernel_rfl) (by kernel_rfl) (fun _ _ _ h => h) (Or.inl ⟨by rfl, ?_⟩) (by assumption) ?_
        rotate_left 1
        · (intro w hSw; (try dsimp only at hSw); first | (go_simp; done) | (go_simp; with_reducible rfl))
        simp only [Act.put, List.getElem_toArray, List.getElem_cons_zero, List.getElem_cons_succ, List.setIfInBounds_toArray, List.set_cons_zero, List.set_cons_succ]
        refine wpAnyD_drop (by kernel_rfl) rfl (fun KK hK => ?_)
        go_simp
        go_wp2_with (go_at_call 11; (with_reducible refine (writeH_bad DVD.out V.out (by decide)).mono ?_); rintro en w3 ⟨rfl, hw⟩)
        subst hw
        refine hK.out _ _ ?_
        clear hK KK hHeld
        refine wpAny_one (i := 12) (by kernel_rfl) rfl (fun K hK => ?_)
        go_simp
        refine hK.out _ _ ?_
        clear hK K
        refine wpAny_done (by kernel_rfl) ?_ _
        go_wp2_with fail
        go_roundw
        case measure => simp [intOf]; have := HJ.out; have := HJT.out; omega
        case rel => exact ⟨j1, L, _, _, H, by have := HJ.out; have := HJT.out; omega, rfl, rfl, rfl, by have h1 := HLJ.out; have h2 := HJ.out; show _ ≤ _; omega, HR.out.drew⟩
      have x3 : decide (x < (n : Int)) = true := by simp; omega
      have XR : Hid (0 ≤ x ∧ x < (n : Int)) := by exact (show _ ∧ _ from ⟨by omega, by omega⟩)
      by_cases s0 : 64 < s.size
      · have s1 : decide ((s.size : Int) ≤ 64) = false := by simp; omega
        have s2 : decide (s.size ≤ 64) = false := by simp; omega
        have s3 : ¬ (s.size : Int) ≤ 64 := by omega
        have V : Hid (werr n false 0 x s = 5) := by show werr _ _ _ _ _ = _; unfold werr; rw [if_neg (by omega), if_pos s0]
        clear hlt
        go_wp2_with fail
        refine wp_region_drop (fun W => W.cell? ⟨b, off + j * 3 + 1, none⟩ = some (.int .i64 x) ∧ W.cell? ⟨b, off + j * 3 + 2, none⟩ = some (.string s)) 11 (by kernel_rfl) ⟨c1, c2⟩ (fun hHeld => ?_)
        refine wpAnyD_pure (i := 0) (v := ?_) rfl (by kernel_rfl) (by kernel_rfl) (by kernel_rfl) (by rfl) (fun _ _ _ h => h) (Or.inl ⟨by rfl, ?_⟩) (by assumption) ?_
        rotate_left 1
        · (intro w; first | (go_simp; done) | (go_simp; with_reducible rfl))
        simp only [Act.put, List.getElem_toArray, List.getElem_cons_zero, List.setIfInBounds_toArray, List.set_cons_zero, List.set_cons_succ]
        refine wpAnyD_pure (i := 1) (v := ?_) rfl (by kernel_rfl) (by kernel_rfl) (by kernel_rfl) (by rfl) (fun _ _ _ h => h) (Or.inl ⟨by rfl, ?_⟩) (by assumption) ?_
        rotate_left 1
        · (intro w; first | (go_simp; done) | (go_simp; with_reducible rfl))
        simp only [Act.put, List.getElem_toArray, List.getElem_cons_zero, List.getElem_cons_succ, List.setIfInBounds_toArray, List.set_cons_zero, List.set_cons_succ]
        refine wpAnyD_pure (i := 2) (v := ?_) rfl (by kernel_rfl) (by kernel_rfl) (by kernel_rfl) (by rfl) (fun _ _ _ h => h) (Or.inl ⟨by rfl, ?_⟩) (by assumption) ?_
        rotate_left 1
        · (intro w; first | (go_simp; done) | (go_simp; with_reducible rfl))
        simp only [Act.put, List.getElem_toArray, List.getElem_cons_zero, List.getElem_cons_succ, List.setIfInBounds_toArray, List.set_cons_zero, List.set_cons_succ]
        refine wpAnyD_pure (i := 3) (v := ?_) rfl (by kernel_rfl) (by kernel_rfl) (by kernel_rfl) (by rfl) (fun _ _ _ h => h) (Or.inl ⟨by rfl, ?_⟩) (by assumption) ?_
        rotate_left 1
        · (intro w; first | (go_simp; done) | (go_simp; with_reducible rfl))
        simp only [Act.put, List.getElem_toArray, List.getElem_cons_zero, List.getElem_cons_succ, List.setIfInBounds_toArray, List.set_cons_zero, List.set_cons_succ]
        refine wpAnyD_pure (i := 4) (v := ?_) rfl (by kernel_rfl) (by kernel_rfl) (by kernel_rfl) (by rfl) (fun _ _ _ h => h) (Or.inl ⟨by rfl, ?_⟩) (by assumption) ?_
        rotate_left 1
        · (intro w; first | (go_simp; done) | (go_simp; with_reducible rfl))
        simp only [Act.put, List.getElem_toArray, List.getElem_cons_zero, List.getElem_cons_succ, List.setIfInBounds_toArray, List.set_cons_zero, List.set_cons_succ]
        refine wpAnyD_take (i := 5) (v := ?_) rfl (by kernel_rfl) (by kernel_rfl) (by kernel_rfl) (by kernel_rfl) (fun _ _ _ h => h) (Or.inl ⟨by rfl, ?_⟩) (by assumption) ?_
        rotate_left 1
        · (intro w hSw; (try dsimp only at hSw); first | (go_simp; done) | (go_simp; with_reducible rfl))
        simp only [Act.put, List.getElem_toArray, List.getElem_cons_zero, List.getElem_cons_succ, List.setIfInBounds_toArray, List.set_cons_zero, List.set_cons_succ]
        refine wpAnyD_pure (i := 6) (v := ?_) rfl (by kernel_rfl) (by kernel_rfl) (by kernel_rfl) (by rfl) (fun _ _ _ h => h) (Or.inl ⟨by rfl, ?_⟩) (by assumption) ?_
        rotate_left 1
        · (intro w; first | (go_simp; done) | (go_simp; with_reducible rfl))
        simp only [Act.put, List.getElem_toArray, List.getElem_cons_zero, List.getElem_cons_succ, List.setIfInBounds_toArray, List.set_cons_zero, List.set_cons_succ]
        refine wpAnyD_pure (i := 7) (v := ?_) rfl (by kernel_rfl) (by kernel_rfl) (by kernel_rfl) (by rfl) (fun _ _ _ h => h) (Or.inl ⟨by rfl, ?_⟩) (by assumption) ?_
        rotate_left 1
        · (intro w; first | (go_simp; done) | (go_simp; with_reducible rfl))
        simp only [Act.put, List.getElem_toArray, List.getElem_cons_zero, List.getElem_cons_succ, List.setIfInBounds_toArray, List.set_cons_zero, List.set_cons_succ]
        refine wpAnyD_pure (i := 8) (v := ?_) rfl (by kernel_rfl) (by kernel_rfl) (by kernel_rfl) (by rfl) (fun _ _ _ h => h) (Or.inl ⟨by rfl, ?_⟩) (by assumption) ?_
        rotate_left 1
        · (intro w; first | (go_simp; done) | (go_simp; with_reducible rfl))
        simp only [Act.put, List.getElem_toArray, List.getElem_cons_zero, List.getElem_cons_succ, List.setIfInBounds_toArray, List.set_cons_zero, List.set_cons_succ]
        refine wpAnyD_pure (i := 9) (v := ?_) rfl (by kernel_rfl) (by kernel_rfl) (by kernel_rfl) (by rfl) (fun _ _ _ h => h) (Or.inl ⟨by rfl, ?_⟩) (by assumption) ?_
        rotate_left 1
        · (intro w; first | (go_simp; done) | (go_simp; with_reducible rfl))
        simp only [Act.put, List.getElem_toArray, List.getElem_cons_zero, List.getElem_cons_succ, List.setIfInBounds_toArray, List.set_cons_zero, List.set_cons_succ]
        refine wpAnyD_take (i := 10) (v := ?_) rfl (by kernel_rfl) (by kernel_rfl) (by kernel_rfl) (by kernel_rfl) (fun _ _ _ h => h) (Or.inl ⟨by rfl, ?_⟩) (by assumption) ?_
        rotate_left 1
        · (intro w hSw; (try dsimp only at hSw); first | (go_simp; done) | (go_simp; with_reducible rfl))
        simp only [Act.put, List.getElem_toArray, List.getElem_cons_zero, List.getElem_cons_succ, List.setIfInBounds_toArray, List.set_cons_zero, List.set_cons_succ]
        refine wpAnyD_drop (by kernel_rfl) rfl (fun KK hK => ?_)
        go_simp
        go_wp2_with (go_at_call 11; (with_reducible refine (writeH_bad DVD.out V.out (by decide)).mono ?_); rintro en w3 ⟨rfl, hw⟩)
        subst hw
        refine hK.out _ _ ?_
        clear hK KK hHeld
        refine wpAny_one (i := 12) (by kernel_rfl) rfl (fun K hK => ?_)
        go_simp
        refine hK.out _ _ ?_
        clear hK K
        refine wpAny_done (by kernel_rfl) ?_ _
        go_wp2_with fail
        go_roundw
        case measure => simp [intOf]; have := HJ.out; have := HJT.out; omega
        case rel => exact ⟨j1, L, _, _, H, by have := HJ.out; have := HJT.out; omega, rfl, rfl, rfl, by have h1 := HLJ.out; have h2 := HJ.out; show _ ≤ _; omega, HR.out.drew⟩
      have s1 : decide ((s.size : Int) ≤ 64) = true := by simp; omega
      have s2 : decide (s.size ≤ 64) = true := by simp; omega
      have s3 : (s.size : Int) ≤ 64 := by omega
      have S64 : Hid (s.size ≤ 64) := by show s.size ≤ 64; omega
      clear hlt s0 x0 x2
      go_wp2_with fail
      refine wp_region_drop (fun W => W.cell? ⟨b, off + j * 3 + 1, none⟩ = some (.int .i64 x) ∧ W.cell? ⟨b, off + j * 3 + 2, none⟩ = some (.string s)) 11 (by kernel_rfl) ⟨c1, c2⟩ (fun hHeld => ?_)
      refine wpAnyD_pure (i := 0) (v := ?_) rfl (by kernel_rfl) (by kernel_rfl) (by kernel_rfl) (by rfl) (fun _ _ _ h => h) (Or.inl ⟨by rfl, ?_⟩) (by assumption) ?_
      rotate_left 1
      · (intro w; first | (go_simp; done) | (go_simp; with_reducible rfl))
      simp only [Act.put, List.getElem_toArray, List.getElem_cons_zero, List.setIfInBounds_toArray, List.set_cons_zero, List.set_cons_succ]
      refine wpAnyD_pure (i := 1) (v := ?_) rfl (by kernel_rfl) (by kernel_rfl) (by kernel_rfl) (by rfl) (fun _ _ _ h => h) (Or.inl ⟨by rfl, ?_⟩) (by assumption) ?_
      rotate_left 1
      · (intro w; first | (go_simp; done) | (go_simp; with_reducible rfl))
      simp only [Act.put, List.getElem_toArray, List.getElem_cons_zero, List.getElem_cons_succ, List.setIfInBounds_toArray, List.set_cons_zero, List.set_cons_succ]
      refine wpAnyD_pure (i := 2) (v := ?_) rfl (by kernel_rfl) (by kernel_rfl) (by kernel_rfl) (by rfl) (fun _ _ _ h => h) (Or.inl ⟨by rfl, ?_⟩) (by assumption) ?_
      rotate_left 1
      · (intro w; first | (go_simp; done) | (go_simp; with_reducible rfl))
      simp only [Act.put, List.getElem_toArray, List.getElem_cons_zero, List.getElem_cons_succ, List.setIfInBounds_toArray, List.set_cons_zero, List.set_cons_succ]
      refine wpAnyD_pure (i := 3) (v := ?_) rfl (by kernel_rfl) (by kernel_rfl) (by kernel_rfl) (by rfl) (fun _ _ _ h => h) (Or.inl ⟨by rfl, ?_⟩) (by assumption) ?_
      rotate_left 1
      · (intro w; first | (go_simp; done) | (go_simp; with_reducible rfl))
      simp only [Act.put, List.getElem_toArray, List.getElem_cons_zero, List.getElem_cons_succ, List.setIfInBounds_toArray, List.set_cons_zero, List.set_cons_succ]
      refine wpAnyD_pure (i := 4) (v := ?_) rfl (by kernel_rfl) (by kernel_rfl) (by kernel_rfl) (by rfl) (fun _ _ _ h => h) (Or.inl ⟨by rfl, ?_⟩) (by assumption) ?_
      rotate_left 1
      · (intro w; first | (go_simp; done) | (go_simp; with_reducible rfl))
      simp only [Act.put, List.getElem_toArray, List.getElem_cons_zero, List.getElem_cons_succ, List.setIfInBounds_toArray, List.set_cons_zero, List.set_cons_succ]
      refine wpAnyD_take (i := 5) (v := ?_) rfl (by kernel_rfl) (by kernel_rfl) (by kernel_rfl) (by kernel_rfl) (fun _ _ _ h => h) (Or.inl ⟨by rfl, ?_⟩) (by assumption) ?_
      rotate_left 1
      · (intro w hSw; (try dsimp only at hSw); first | (go_simp; done) | (go_simp; with_reducible rfl))
      simp only [Act.put, List.getElem_toArray, List.getElem_cons_zero, List.getElem_cons_succ, List.setIfInBounds_toArray, List.set_cons_zero, List.set_cons_succ]
      refine wpAnyD_pure (i := 6) (v := ?_) rfl (by kernel_rfl) (by kernel_rfl) (by kernel_rfl) (by rfl) (fun _ _ _ h => h) (Or.inl ⟨by rfl, ?_⟩) (by assumption) ?_
      rotate_left 1
      · (intro w; first | (go_simp; done) | (go_simp; with_reducible rfl))
      simp only [Act.put, List.getElem_toArray, List.getElem_cons_zero, List.getElem_cons_succ, List.setIfInBounds_toArray, List.set_cons_zero, List.set_cons_succ]
      refine wpAnyD_pure (i := 7) (v := ?_) rfl (by kernel_rfl) (by kernel_rfl) (by kernel_rfl) (by rfl) (fun _ _ _ h => h) (Or.inl ⟨by rfl, ?_⟩) (by assumption) ?_
      rotate_left 1
      · (intro w; first | (go_simp; done) | (go_simp; with_reducible rfl))
      simp only [Act.put, List.getElem_toArray, List.getElem_cons_zero, List.getElem_cons_succ, List.setIfInBounds_toArray, List.set_cons_zero, List.set_cons_succ]
      refine wpAnyD_pure (i := 8) (v := ?_) rfl (by kernel_rfl) (by kernel_rfl) (by kernel_rfl) (by rfl) (fun _ _ _ h => h) (Or.inl ⟨by rfl, ?_⟩) (by assumption) ?_
      rotate_left 1
      · (intro w; first | (go_simp; done) | (go_simp; with_reducible rfl))
      simp only [Act.put, List.getElem_toArray, List.getElem_cons_zero, List.getElem_cons_succ, List.setIfInBounds_toArray, List.set_cons_zero, List.set_cons_succ]
      refine wpAnyD_pure (i := 9) (v := ?_) rfl (by kernel_rfl) (by kernel_rfl) (by kernel_rfl) (by rfl) (fun _ _ _ h => h) (Or.inl ⟨by rfl, ?_⟩) (by assumption) ?_
      rotate_left 1
      · (intro w; first | (go_simp; done) | (go_simp; with_reducible rfl))
      simp only [Act.put, List.getElem_toArray, List.getElem_cons_zero, List.getElem_cons_succ, List.setIfInBounds_toArray, List.set_cons_zero, List.set_cons_succ]
      refine wpAnyD_take (i := 10) (v := ?_) rfl (by kernel_rfl) (by kernel_rfl) (by kernel_rfl) (by kernel_rfl) (fun _ _ _ h => h) (Or.inl ⟨by rfl, ?_⟩) (by assumption) ?_
      rotate_left 1
      · (intro w hSw; (try dsimp only at hSw); first | (go_simp; done) | (go_simp; with_reducible rfl))
      simp only [Act.put, List.getElem_toArray, List.getElem_cons_zero, List.getElem_cons_succ, List.setIfInBounds_toArray, List.set_cons_zero, List.set_cons_succ]
      refine wpAnyD_drop (by kernel_rfl) rfl (fun KK hK => ?_)
      go_simp
      go_wp2_with (go_at_call 11; (with_reducible refine (writeH_ok HRD.out XR.out S64.out L100.out).mono ?_); rintro en w3 ⟨rfl, hr⟩)
      obtain ⟨H', dv3, ra3, rp3, aa3, ap3, b3, sz3⟩ := hr
      rw [HL.out] at ra3 rp3
      have DV3 := Lib.hid dv3; have RA3 := Lib.hid ra3; have RP3 := Lib.hid rp3; have AA3 := Lib.hid aa3; have AP3 := Lib.hid ap3; have B3 := Lib.hid b3
      have c13 : w3.cell? ⟨b, off + j * 3 + 1, none⟩ = some (.int .i64 x) := by rw [B3.out.cell (by exact HBL.out)]; exact HC1.out
      have c23 : w3.cell? ⟨b, off + j * 3 + 2, none⟩ = some (.string s) := by rw [B3.out.cell (by exact HBL.out)]; exact HC2.out
      refine hK.out _ _ ?_
      clear hK KK hHeld dv3 ra3 rp3 aa3 ap3 b3 sz3 c1 c2
      refine wpAny_one (i := 12) (by kernel_rfl) rfl (fun K hK => ?_)
      go_simp
      refine hK.out _ _ ?_
      clear hK K
      refine wpAny_done (by kernel_rfl) ?_ _
      have M0 : Hid (Mid w w3.drew D gf gn cf cn n H' (zbs n) (rep (zbs n) (hof (L ++ [(x.toNat, s)]))) (hof (L ++ [(x.toNat, s)])) l (ats L) (.slice aa l ca) l (pts L) (.slice ap l cp)) :=
        ⟨DV3.out.keep (Below.refl _ _).drew, RA3.out.drew, RP3.out.drew, AA3.out, AP3.out, HR.out.ne, B3.out.drew⟩
      have SB : Hid (∀ W, Below w.heap.size w W → W.cell? ⟨b, off + j * 3 + 1, none⟩ = some (.int .i64 x) ∧ W.cell? ⟨b, off + j * 3 + 2, none⟩ = some (.string s)) := fun W hb =>
        ⟨by rw [hb.cell (by exact HBL.out)]; exact HC1.out, by rw [hb.cell (by exact HBL.out)]; exact HC2.out⟩
      have LS : Hid ((L ++ [(x.toNat, s)]).length = l + 1) := by show _ = _; rw [List.length_append, HL.out]; rfl
      have L40 : Hid (l ≤ 100) := by have h := L100.out; rw [HL.out] at h; exact h
      have FINL : Hid (∀ W va vp, Mid w W D gf gn cf cn n H' (zbs n) (rep (zbs n) (hof (L ++ [(x.toNat, s)]))) (hof (L ++ [(x.toNat, s)])) (l + 1) (ats L ++ [.int .i64 x]) va (l + 1) (pts L ++ [.string s]) vp → HS w W D gf gn cf cn n H' (L ++ [(x.toNat, s)]) va vp) := by
        intro W va vp hm
        have ex : ((x.toNat : Nat) : Int) = x := by have := XR.out; omega
        refine ⟨hm.dv, ?_, ?_, ?_, hm.apA, hm.apP, hm.ne, hm.bel⟩
        · rw [LS.out, ats_snoc, ex]; exact hm.a
        · rw [LS.out, pts_snoc]; exact hm.p
        · intro p hp
          rcases List.mem_append.1 hp with hp | hp
          · exact HR.out.ok p hp
          · rw [List.mem_singleton.1 hp]; exact ⟨by have h1 := XR.out; show x.toNat < n; omega, S64.out⟩
      go_wp2_with fail
      refine wp_region_held_drew (S := fun W => W.cell? ⟨b, off + j * 3 + 1, none⟩ = some (.int .i64 x) ∧ W.cell? ⟨b, off + j * 3 + 2, none⟩ = some (.string s)) (by kernel_rfl) ⟨c13, c23⟩ (fun hHeld => ?_)
      refine wpAnyH_take (i := 0) (v := ?_) rfl (by kernel_rfl) (by kernel_rfl) (by kernel_rfl) (fun _ _ _ h => h) (Or.inl ⟨by rfl, ?_⟩) (by assumption) ?_
      rotate_left 1
      · (intro w hSw; (try dsimp only at hSw); first | (go_simp; done) | (go_simp; with_reducible rfl))
      simp only [Act.put, List.getElem_toArray, List.getElem_cons_zero, List.setIfInBounds_toArray, List.set_cons_zero, List.set_cons_succ]
      refine wpAnyH_take (i := 1) (v := ?_) rfl (by kernel_rfl) (by kernel_rfl) (by kernel_rfl) (fun _ _ _ h => h) (Or.inl ⟨by rfl, ?_⟩) (by assumption) ?_
      rotate_left 1
      · (intro w hSw; (try dsimp only at hSw); first | (go_simp; done) | (go_simp; with_reducible rfl))
      simp only [Act.put, List.getElem_toArray, List.getElem_cons_zero, List.getElem_cons_succ, List.setIfInBounds_toArray, List.set_cons_zero, List.set_cons_succ]
      refine wpAnyH_take (i := 2) (v := ?_) rfl (by kernel_rfl) (by kernel_rfl) (by kernel_rfl) (fun _ _ _ h => h) (Or.inl ⟨by rfl, ?_⟩) (by assumption) ?_
      rotate_left 1
      · (intro w hSw; (try dsimp only at hSw); first | (go_simp; done) | (go_simp; with_reducible rfl))
      simp only [Act.put, List.getElem_toArray, List.getElem_cons_zero, List.getElem_cons_succ, List.setIfInBounds_toArray, List.set_cons_zero, List.set_cons_succ]
      refine wpAnyH_take (i := 3) (v := ?_) rfl (by kernel_rfl) (by kernel_rfl) (by kernel_rfl) (fun _ _ _ h => h) (Or.inl ⟨by rfl, ?_⟩) (by assumption) ?_
      rotate_left 1
      · (intro w hSw; (try dsimp only at hSw); first | (go_simp; done) | (go_simp; with_reducible rfl))
      simp only [Act.put, List.getElem_toArray, List.getElem_cons_zero, List.getElem_cons_succ, List.setIfInBounds_toArray, List.set_cons_zero, List.set_cons_succ]
      refine wpAnyH_take (i := 4) (v := ?_) rfl (by kernel_rfl) (by kernel_rfl) (by kernel_rfl) (fun _ _ _ h => h) (Or.inl ⟨by rfl, ?_⟩) (by assumption) ?_
      rotate_left 1
      · (intro w hSw; (try dsimp only at hSw); first | (go_simp; done) | (go_simp; with_reducible rfl))
      simp only [Act.put, List.getElem_toArray, List.getElem_cons_zero, List.getElem_cons_succ, List.setIfInBounds_toArray, List.set_cons_zero, List.set_cons_succ]
      refine wpAnyH_take (i := 5) (v := ?_) rfl (by kernel_rfl) (by kernel_rfl) (by kernel_rfl) (fun _ _ _ h => h) (Or.inl ⟨by rfl, ?_⟩) (by assumption) ?_
      rotate_left 1
      · (intro w hSw; (try dsimp only at hSw); first | (go_simp; done) | (go_simp; with_reducible rfl))
      simp only [Act.put, List.getElem_toArray, List.getElem_cons_zero, List.getElem_cons_succ, List.setIfInBounds_toArray, List.set_cons_zero, List.set_cons_succ]
      refine wpAnyH_take (i := 8) (v := ?_) rfl (by kernel_rfl) (by kernel_rfl) (by kernel_rfl) (fun _ _ _ h => h) (Or.inl ⟨by rfl, ?_⟩) (by assumption) ?_
      rotate_left 1
      · (intro w hSw; (try dsimp only at hSw); first | (go_simp; done) | (go_simp; with_reducible rfl))
      simp only [Act.put, List.getElem_toArray, List.getElem_cons_zero, List.getElem_cons_succ, List.setIfInBounds_toArray, List.set_cons_zero, List.set_cons_succ]
      refine wpAnyH_take (i := 9) (v := ?_) rfl (by kernel_rfl) (by kernel_rfl) (by kernel_rfl) (fun _ _ _ h => h) (Or.inl ⟨by rfl, ?_⟩) (by assumption) ?_
      rotate_left 1
      · (intro w hSw; (try dsimp only at hSw); first | (go_simp; done) | (go_simp; with_reducible rfl))
      simp only [Act.put, List.getElem_toArray, List.getElem_cons_zero, List.getElem_cons_succ, List.setIfInBounds_toArray, List.set_cons_zero, List.set_cons_succ]
      refine wpAnyH_take (i := 10) (v := ?_) rfl (by kernel_rfl) (by kernel_rfl) (by kernel_rfl) (fun _ _ _ h => h) (Or.inl ⟨by rfl, ?_⟩) (by assumption) ?_
      rotate_left 1
      · (intro w hSw; (try dsimp only at hSw); first | (go_simp; done) | (go_simp; with_reducible rfl))
      simp only [Act.put, List.getElem_toArray, List.getElem_cons_zero, List.getElem_cons_succ, List.setIfInBounds_toArray, List.set_cons_zero, List.set_cons_succ]
      refine wpAnyH_take (i := 11) (v := ?_) rfl (by kernel_rfl) (by kernel_rfl) (by kernel_rfl) (fun _ _ _ h => h) (Or.inl ⟨by rfl, ?_⟩) (by assumption) ?_
      rotate_left 1
      · (intro w hSw; (try dsimp only at hSw); first | (go_simp; done) | (go_simp; with_reducible rfl))
      simp only [Act.put, List.getElem_toArray, List.getElem_cons_zero, List.getElem_cons_succ, List.setIfInBounds_toArray, List.set_cons_zero, List.set_cons_succ]
      refine wpAnyH_take (i := 12) (v := ?_) rfl (by kernel_rfl) (by kernel_rfl) (by kernel_rfl) (fun _ _ _ h => h) (Or.inl ⟨by rfl, ?_⟩) (by assumption) ?_
      rotate_left 1
      · (intro w hSw; (try dsimp only at hSw); first | (go_simp; done) | (go_simp; with_reducible rfl))
      simp only [Act.put, List.getElem_toArray, List.getElem_cons_zero, List.getElem_cons_succ, List.setIfInBounds_toArray, List.set_cons_zero, List.set_cons_succ]
      refine wpAnyH_take (i := 13) (v := ?_) rfl (by kernel_rfl) (by kernel_rfl) (by kernel_rfl) (fun _ _ _ h => h) (Or.inl ⟨by rfl, ?_⟩) (by assumption) ?_
      rotate_left 1
      · (intro w hSw; (try dsimp only at hSw); first | (go_simp; done) | (go_simp; with_reducible rfl))
      simp only [Act.put, List.getElem_toArray, List.getElem_cons_zero, List.getElem_cons_succ, List.setIfInBounds_toArray, List.set_cons_zero, List.set_cons_succ]
      obtain ⟨W0, hW0⟩ : ∃ W0, w3.drew = W0 := ⟨_, rfl⟩
      rw [hW0] at hHeld M0 ⊢
      clear hW0 c13 c23
      refine wpAnyH_ready (rs := [6, 14]) (by kernel_rfl) (by simp) ?_
      refine AllReadyH.cons rfl (fun KK hK => ?_) (AllReadyH.cons rfl (fun KK hK => ?_) (AllReadyH.nil))
      · obtain ⟨W1, hW1⟩ : ∃ W1, W0.alloc (.cells #[.int .i64 x] 3) = W1 := ⟨_, rfl⟩
        have M1 := Lib.hid (M0.out.keep (below_al W0 (.cells #[.int .i64 x] 3)))
        rw [hW1] at M1
        have X6 : Hid (W1.cell? ⟨W0.heap.size, 0, none⟩ = some (.int .i64 x)) := by show _ = _; rw [← hW1]; exact one_al _ _ _
        go_simp
        refine hK.out _ _ (SB.out _ M1.out.bel) (fun hHeld2 => ?_)
        clear hK KK hHeld; have hHeld := hHeld2; clear hHeld2 hW1
        refine wpAnyH_ready (rs := [7, 14]) (by kernel_rfl) (by simp) ?_
        refine AllReadyH.cons rfl (fun KK hK => ?_) (AllReadyH.cons rfl (fun KK hK => ?_) (AllReadyH.nil))
        · refine step_append_own rfl _ _ 29 rfl w.heap.size 3 i3 (.int .i64 0) 1 8 Try.underlying29 II3.out Z30.out Z31.out Z32.out rfl (by decide) (.slice aa l ca) l (ats L) rfl M1.out.a ⟨W0.heap.size, 0, none⟩ 1 1 [.int .i64 x] rfl rfl (news1 X6.out) (by simp [Value.oneCell']) (by have := L40.out; unfold maxLen; omega) (by have := L40.out; omega) M1.out.bel.size ?_
          intro v2 W2 hown' hgrow hloc
          have M2 := Lib.hid (M1.out.appA hown' hgrow hloc)
          obtain ⟨a2, k2, he2⟩ := row_form1 hown'
          subst he2
          refine hK.out _ _ (SB.out _ M2.out.bel) (fun hHeld2 => ?_)
          clear hK KK hHeld hown' hgrow hloc; have hHeld := hHeld2; clear hHeld2
          refine wpAnyH_ready (rs := [14]) (by kernel_rfl) (by simp) ?_
          refine AllReadyH.cons rfl (fun KK hK => ?_) (AllReadyH.nil)
          obtain ⟨W3, hW3⟩ : ∃ W3, W2.alloc (.cells #[.string s] 9) = W3 := ⟨_, rfl⟩
          have M3 := Lib.hid (M2.out.keep (below_al W2 (.cells #[.string s] 9)))
          rw [hW3] at M3
          have X14 : Hid (W3.cell? ⟨W2.heap.size, 0, none⟩ = some (.string s)) := by show _ = _; rw [← hW3]; exact one_al _ _ _
          go_simp
          refine hK.out _ _ (SB.out _ M3.out.bel) (fun hHeld2 => ?_)
          clear hK KK hHeld; have hHeld := hHeld2; clear hHeld2 hW3
          refine wpAnyH_ready (rs := [15]) (by kernel_rfl) (by simp) ?_
          refine AllReadyH.cons rfl (fun KK hK => ?_) (AllReadyH.nil)
          refine step_append_own rfl _ _ 28 rfl w.heap.size 9 i9 (.string ByteArray.empty) 1 16 Try.underlying28 II9.out Z90.out Z91.out Z92.out rfl (by decide) (.slice ap l cp) l (pts L) rfl M3.out.p ⟨W2.heap.size, 0, none⟩ 1 1 [.string s] rfl rfl (news1 X14.out) (by simp [Value.oneCell']) (by have := L40.out; unfold maxLen; omega) (by have := L40.out; omega) M3.out.bel.size ?_
          intro v4 W4 hown' hgrow hloc
          have M4 := Lib.hid (M3.out.appP hown' hgrow hloc)
          obtain ⟨a4, k4, he4⟩ := row_form1 hown'
          subst he4
          refine hK.out _ _ (SB.out _ M4.out.bel) (fun hHeld2 => ?_)
          clear hK KK hHeld hown' hgrow hloc; have hHeld := hHeld2; clear hHeld2
          refine wpAnyH_take (i := 16) (v := ?_) rfl (by kernel_rfl) (by kernel_rfl) (by kernel_rfl) (fun _ _ _ h => h) (Or.inl ⟨by rfl, ?_⟩) (by assumption) ?_
          rotate_left 1
          · (intro w hSw; (try dsimp only at hSw); first | (go_simp; done) | (go_simp; with_reducible rfl))
          simp only [Act.put, List.getElem_toArray, List.getElem_cons_zero, List.getElem_cons_succ, List.setIfInBounds_toArray, List.set_cons_zero, List.set_cons_succ]
          refine wpAnyH_take (i := 17) (v := ?_) rfl (by kernel_rfl) (by kernel_rfl) (by kernel_rfl) (fun _ _ _ h => h) (Or.inl ⟨by rfl, ?_⟩) (by assumption) ?_
          rotate_left 1
          · (intro w hSw; (try dsimp only at hSw); first | (go_simp; done) | (go_simp; with_reducible rfl))
          simp only [Act.put, List.getElem_toArray, List.getElem_cons_zero, List.getElem_cons_succ, List.setIfInBounds_toArray, List.set_cons_zero, List.set_cons_succ]
          have MF := M4
          refine wpAnyH_done (by kernel_rfl) ?_ _
          clear hHeld
          go_wp2_with fail
          go_roundw
          case measure => simp [intOf]; have := HJ.out; have := HJT.out; omega
          case rel => exact ⟨j1, L ++ [(x.toNat, s)], _, _, H', by have := HJ.out; have := HJT.out; omega, rfl, rfl, rfl, by have h1 := HLJ.out; have h2 := HJ.out; show _ ≤ _; rw [List.length_append]; simp only [List.length_cons, List.length_nil]; omega, FINL.out _ _ _ MF.out⟩
        · obtain ⟨W2, hW2⟩ : ∃ W2, W1.alloc (.cells #[.string s] 9) = W2 := ⟨_, rfl⟩
          have M2 := Lib.hid (M1.out.keep (below_al W1 (.cells #[.string s] 9)))
          rw [hW2] at M2
          have X14 : Hid (W2.cell? ⟨W1.heap.size, 0, none⟩ = some (.string s)) := by show _ = _; rw [← hW2]; exact one_al _ _ _
          have X6 : Hid (W2.cell? ⟨W0.heap.size, 0, none⟩ = some (.int .i64 x)) := by show _ = _; rw [← hW2]; exact cell_al X6.out
          go_simp
          refine hK.out _ _ (SB.out _ M2.out.bel) (fun hHeld2 => ?_)
          clear hK KK hHeld; have hHeld := hHeld2; clear hHeld2 hW2
          have XN14 : Hid (Value.ownBlock (.slice aa l ca) ≠ some W1.heap.size) := fun e => by have := (M1.out.a.lt _ e).2; omega
          refine wpAnyH_ready (rs := [7]) (by kernel_rfl) (by simp) ?_
          refine AllReadyH.cons rfl (fun KK hK => ?_) (AllReadyH.nil)
          refine step_append_own rfl _ _ 29 rfl w.heap.size 3 i3 (.int .i64 0) 1 8 Try.underlying29 II3.out Z30.out Z31.out Z32.out rfl (by decide) (.slice aa l ca) l (ats L) rfl M2.out.a ⟨W0.heap.size, 0, none⟩ 1 1 [.int .i64 x] rfl rfl (news1 X6.out) (by simp [Value.oneCell']) (by have := L40.out; unfold maxLen; omega) (by have := L40.out; omega) M2.out.bel.size ?_
          intro v3 W3 hown' hgrow hloc
          have M3 := Lib.hid (M2.out.appA hown' hgrow hloc)
          obtain ⟨a3, k3, he3⟩ := row_form1 hown'
          subst he3
          have X14 : Hid (W3.cell? ⟨W1.heap.size, 0, none⟩ = some (.string s)) := hgrow.cell X14.out (fun e => XN14.out e.symm)
          refine hK.out _ _ (SB.out _ M3.out.bel) (fun hHeld2 => ?_)
          clear hK KK hHeld hown' hgrow hloc; have hHeld := hHeld2; clear hHeld2
          refine wpAnyH_ready (rs := [15]) (by kernel_rfl) (by simp) ?_
          refine AllReadyH.cons rfl (fun KK hK => ?_) (AllReadyH.nil)
          refine step_append_own rfl _ _ 28 rfl w.heap.size 9 i9 (.string ByteArray.empty) 1 16 Try.underlying28 II9.out Z90.out Z91.out Z92.out rfl (by decide) (.slice ap l cp) l (pts L) rfl M3.out.p ⟨W1.heap.size, 0, none⟩ 1 1 [.string s] rfl rfl (news1 X14.out) (by simp [Value.oneCell']) (by have := L40.out; unfold maxLen; omega) (by have := L40.out; omega) M3.out.bel.size ?_
          intro v4 W4 hown' hgrow hloc
          have M4 := Lib.hid (M3.out.appP hown' hgrow hloc)
          obtain ⟨a4, k4, he4⟩ := row_form1 hown'
          subst he4
          refine hK.out _ _ (SB.out _ M4.out.bel) (fun hHeld2 => ?_)
          clear hK KK hHeld hown' hgrow hloc; have hHeld := hHeld2; clear hHeld2
          refine wpAnyH_take (i := 16) (v := ?_) rfl (by kernel_rfl) (by kernel_rfl) (by kernel_rfl) (fun _ _ _ h => h) (Or.inl ⟨by rfl, ?_⟩) (by assumption) ?_
          rotate_left 1
          · (intro w hSw; (try dsimp only at hSw); first | (go_simp; done) | (go_simp; with_reducible rfl))
          simp only [Act.put, List.getElem_toArray, List.getElem_cons_zero, List.getElem_cons_succ, List.setIfInBounds_toArray, List.set_cons_zero, List.set_cons_succ]
          refine wpAnyH_take (i := 17) (v := ?_) rfl (by kernel_rfl) (by kernel_rfl) (by kernel_rfl) (fun _ _ _ h => h) (Or.inl ⟨by rfl, ?_⟩) (by assumption) ?_
          rotate_left 1
          · (intro w hSw; (try dsimp only at hSw); first | (go_simp; done) | (go_simp; with_reducible rfl))
          simp only [Act.put, List.getElem_toArray, List.getElem_cons_zero, List.getElem_cons_succ, List.setIfInBounds_toArray, List.set_cons_zero, List.set_cons_succ]
          have MF := M4
          refine wpAnyH_done (by kernel_rfl) ?_ _
          clear hHeld
          go_wp2_with fail
          go_roundw
          case measure => simp [intOf]; have := HJ.out; have := HJT.out; omega
          case rel => exact ⟨j1, L ++ [(x.toNat, s)], _, _, H', by have := HJ.out; have := HJT.out; omega, rfl, rfl, rfl, by have h1 := HLJ.out; have h2 := HJ.out; show _ ≤ _; rw [List.length_append]; simp only [List.length_cons, List.length_nil]; omega, FINL.out _ _ _ MF.out⟩
      · obtain ⟨W1, hW1⟩ : ∃ W1, W0.alloc (.cells #[.string s] 9) = W1 := ⟨_, rfl⟩
        have M1 := Lib.hid (M0.out.keep (below_al W0 (.cells #[.string s] 9)))
        rw [hW1] at M1
        have X14 : Hid (W1.cell? ⟨W0.heap.size, 0, none⟩ = some (.string s)) := by show _ = _; rw [← hW1]; exact one_al _ _ _
        go_simp
        refine hK.out _ _ (SB.out _ M1.out.bel) (fun hHeld2 => ?_)
        clear hK KK hHeld; have hHeld := hHeld2; clear hHeld2 hW1
        have XN14 : Hid (Value.ownBlock (.slice aa l ca) ≠ some W0.heap.size) := fun e => by have := (M0.out.a.lt _ e).2; omega
        refine wpAnyH_ready (rs := [6]) (by kernel_rfl) (by simp) ?_
        refine AllReadyH.cons rfl (fun KK hK => ?_) (AllReadyH.nil)
        obtain ⟨W2, hW2⟩ : ∃ W2, W1.alloc (.cells #[.int .i64 x] 3) = W2 := ⟨_, rfl⟩
        have M2 := Lib.hid (M1.out.keep (below_al W1 (.cells #[.int .i64 x] 3)))
        rw [hW2] at M2
        have X6 : Hid (W2.cell? ⟨W1.heap.size, 0, none⟩ = some (.int .i64 x)) := by show _ = _; rw [← hW2]; exact one_al _ _ _
        have X14 : Hid (W2.cell? ⟨W0.heap.size, 0, none⟩ = some (.string s)) := by show _ = _; rw [← hW2]; exact cell_al X14.out
        go_simp
        refine hK.out _ _ (SB.out _ M2.out.bel) (fun hHeld2 => ?_)
        clear hK KK hHeld; have hHeld := hHeld2; clear hHeld2 hW2
        refine wpAnyH_ready (rs := [7]) (by kernel_rfl) (by simp) ?_
        refine AllReadyH.cons rfl (fun KK hK => ?_) (AllReadyH.nil)
        refine step_append_own rfl _ _ 29 rfl w.heap.size 3 i3 (.int .i64 0) 1 8 Try.underlying29 II3.out Z30.out Z31.out Z32.out rfl (by decide) (.slice aa l ca) l (ats L) rfl M2.out.a ⟨W1.heap.size, 0, none⟩ 1 1 [.int .i64 x] rfl rfl (news1 X6.out) (by simp [Value.oneCell']) (by have := L40.out; unfold maxLen; omega) (by have := L40.out; omega) M2.out.bel.size ?_
        intro v3 W3 hown' hgrow hloc
        have M3 := Lib.hid (M2.out.appA hown' hgrow hloc)
        obtain ⟨a3, k3, he3⟩ := row_form1 hown'
        subst he3
        have X14 : Hid (W3.cell? ⟨W0.heap.size, 0, none⟩ = some (.string s)) := hgrow.cell X14.out (fun e => XN14.out e.symm)
        refine hK.out _ _ (SB.out _ M3.out.bel) (fun hHeld2 => ?_)
        clear hK KK hHeld hown' hgrow hloc; have hHeld := hHeld2; clear hHeld2
        refine wpAnyH_ready (rs := [15]) (by kernel_rfl) (by simp) ?_
        refine AllReadyH.cons rfl (fun KK hK => ?_) (AllReadyH.nil)
        refine step_append_own rfl _ _ 28 rfl w.heap.size 9 i9 (.string ByteArray.empty) 1 16 Try.underlying28 II9.out Z90.out Z91.out Z92.out rfl (by decide) (.slice ap l cp) l (pts L) rfl M3.out.p ⟨W0.heap.size, 0, none⟩ 1 1 [.string s] rfl rfl (news1 X14.out) (by simp [Value.oneCell']) (by have := L40.out; unfold maxLen; omega) (by have := L40.out; omega) M3.out.bel.size ?_
        intro v4 W4 hown' hgrow hloc
        have M4 := Lib.hid (M3.out.appP hown' hgrow hloc)
        obtain ⟨a4, k4, he4⟩ := row_form1 hown'
        subst he4
        refine hK.out _ _ (SB.out _ M4.out.bel) (fun hHeld2 => ?_)
        clear hK KK hHeld hown' hgrow hloc; have hHeld := hHeld2; clear hHeld2
        refine wpAnyH_take (i := 16) (v := ?_) rfl (by kernel_rfl) (by kernel_rfl) (by kernel_rfl) (fun _ _ _ h => h) (Or.inl ⟨by rfl, ?_⟩) (by assumption) ?_
        rotate_left 1
        · (intro w hSw; (try dsimp only at hSw); first | (go_simp; done) | (go_simp; with_reducible rfl))
        simp only [Act.put, List.getElem_toArray, List.getElem_cons_zero, List.getElem_cons_succ, List.setIfInBounds_toArray, List.set_cons_zero, List.set_cons_succ]
        refine wpAnyH_take (i := 17) (v := ?_) rfl (by kernel_rfl) (by kernel_rfl) (by kernel_rfl) (fun _ _ _ h => h) (Or.inl ⟨by rfl, ?_⟩) (by assumption) ?_
        rotate_left 1
        · (intro w hSw; (try dsimp only at hSw); first | (go_simp; done) | (go_simp; with_reducible rfl))
        simp only [Act.put, List.getElem_toArray, List.getElem_cons_zero, List.getElem_cons_succ, List.setIfInBounds_toArray, List.set_cons_zero, List.set_cons_succ]
        have MF := M4
        refine wpAnyH_done (by kernel_rfl) ?_ _
        clear hHeld
        go_wp2_with fail
        go_roundw
        case measure => simp [intOf]; have := HJ.out; have := HJT.out; omega
        case rel => exact ⟨j1, L ++ [(x.toNat, s)], _, _, H', by have := HJ.out; have := HJT.out; omega, rfl, rfl, rfl, by have h1 := HLJ.out; have h2 := HJ.out; show _ ≤ _; rw [List.length_append]; simp only [List.length_cons, List.length_nil]; omega, FINL.out _ _ _ MF.out⟩
    · have jl : ¬ (j : Int) < (m : Int) := by omega
      have L40 : Hid (l ≤ 40) := by have h1 := HLJ.out; rw [HL.out] at h1; have h2 := HM.out; show l ≤ 40; omega
      have P1 : Hid (∀ p ∈ L, p.1 < n) := fun p hp => (HR.out.ok p hp).1
      have P2 : Hid (∀ p ∈ L, p.2.size ≤ 64) := fun p hp => (HR.out.ok p hp).2
      have DV : Hid (Dv wr w.heap.size D n (zbs n) (rep (zbs n) (hof L)) (hof L) false 0) := ⟨gf, gn, cf, cn, H, HR.out.dv⟩
      have WR := Lib.hid (writes_any DV.out)
      rw [hof_len, HL.out] at WR
      have AF := Lib.hid (after_any DV.out k (by rw [hof_len, HL.out]; have := L40.out; omega))
      obtain ⟨K, hK0⟩ : ∃ K, kk l k = K := ⟨_, rfl⟩
      rw [hof_len, HL.out, hK0, hof_take] at AF
      have HK := Lib.hid hK0
      have KL : Hid (K ≤ l) := by show K ≤ l; rw [← hK0]; exact kk_le l k
      have RA0 := Lib.hid HR.out.a; have RP0 := Lib.hid HR.out.p; have BW0 := Lib.hid HR.out.bel
      rw [HL.out] at RA0 RP0
      clear hlt hj hK0 HR
      obtain ⟨WD, hWD⟩ : ∃ WD, WD = wr := ⟨_, rfl⟩
      subst hWD
      go_wp2_with fail
      refine WR.out.mono ?_; rintro e w2 ⟨rfl, hw⟩
      cases hw
      go_wp2_with fail
      refine AF.out.mono ?_; rintro e w3 ⟨D', rfl, hd, b⟩
      have DX := Lib.hid hd; have B3 := Lib.hid b
      have RA := Lib.hid (own_below RA0.out b); have RP := Lib.hid (own_below RP0.out b)
      have DD := Lib.hid (DV.out.keep b)
      clear hd b
      go_wp2_with fail
      refine (writes_any DX.out).mono ?_; rintro e w4 ⟨rfl, hw⟩
      cases hw
      go_wp2_with fail
      refine (blocks_any DX.out).mono ?_; rintro e w5 ⟨rfl, hw⟩
      cases hw
      go_wp2_with fail
      go_loopw [13] (fun s13 wq => ∃ i : Nat, i ≤ n ∧ s13 = .int .i64 (i : Int) ∧ Hid (Below w3.heap.size w3 wq)) (fun s13 _ => n - (intOf s13).toNat)
      case atStart => exact ⟨0, Nat.zero_le _, rfl, Below.refl _ _⟩
      case round =>
        obtain ⟨i, hi, rfl, BQ⟩ := hrel
        by_cases hin : i < n
        · have i0 : (0 : Int) ≤ (i : Int) := by omega
          have il : (i : Int) < (n : Int) := by omega
          obtain ⟨i1, hi1⟩ : ∃ i1, i + 1 = i1 := ⟨_, rfl⟩
          have HI := Lib.hid hi1; have HIN := Lib.hid hin
          have g1 : (i : Int) + 1 = (i1 : Int) := by omega
          have g2 : IntKind.i64.wrap (i1 : Int) = (i1 : Int) := by rw [IntKind.wrap_i64]; have h1 := HN.out; omega
          clear hi hin hi1
          obtain ⟨WI, hWI⟩ : ∃ WI, WI = wr := ⟨_, rfl⟩
          subst hWI
          go_wp2_with fail
          go_loopw [14, 15, 16] (fun s14 s15 s16 wq => ∃ (j : Nat) (ws ns : ByteArray), j ≤ l ∧ s16 = .int .i64 (j : Int) ∧ s14 = .string ws ∧ s15 = .string ns ∧ Hid (ws = lastS (L.take (min j K)) i) ∧ Hid (ns = lastS (L.take j) i) ∧ Hid (Below WI.heap.size WI wq)) (fun _ _ s16 _ => l - (intOf s16).toNat)
          case atStart => exact ⟨0, ByteArray.empty, ByteArray.empty, Nat.zero_le _, rfl, rfl, rfl, by show _ = _; rw [Nat.zero_min]; rfl, by show _ = _; rfl, Below.refl _ _⟩
          case round =>
            obtain ⟨j, ws, ns, hj, rfl, rfl, rfl, HW, HNS, BJ⟩ := hrel
            have BT := Lib.hid (BQ.out.trans (BJ.out.mono BQ.out.size))
            by_cases hjl : j < l
            · have hjL : j < L.length := by rw [HL.out]; exact hjl
              obtain ⟨ga, hga, _, ca0⟩ := own_at1 (own_below RA.out BT.out) (ats_at hjL)
              obtain ⟨gp, hgp, _, cp0⟩ := own_at1 (own_below RP.out BT.out) (pts_at hjL)
              subst hga hgp
              have ST := Lib.hid (lastS_step (i := i) hjL)
              obtain ⟨⟨pi, ps⟩, hpe⟩ : ∃ p, L.getD j (0, ByteArray.empty) = p := ⟨_, rfl⟩
              rw [hpe] at ca0 cp0 ST
              dsimp only at ca0 cp0 ST
              obtain ⟨pz, hpz⟩ : ∃ pz : Int, (pi : Int) = pz := ⟨_, rfl⟩
              rw [hpz] at ca0
              have HPZ := Lib.hid hpz
              obtain ⟨j1, hj1⟩ : ∃ j1, j + 1 = j1 := ⟨_, rfl⟩
              have HJ := Lib.hid hj1; have HJL := Lib.hid hjl
              have j00 : (0 : Int) ≤ (j : Int) := by omega
              have jll : (j : Int) < (l : Int) := by omega
              have e1 : (j : Int) + 1 = (j1 : Int) := by omega
              have e2 : IntKind.i64.wrap (j1 : Int) = (j1 : Int) := by rw [IntKind.wrap_i64]; have h1 := L40.out; omega
              have KK := Lib.hid (show (j : Int) < k ↔ j < K by rw [← HK.out]; exact kk_lt hjl)
              rw [hj1] at ST
              clear hj hjl hjL hpe hpz hj1
              by_cases q1 : pz = (i : Int)
              · have d1 : (pz == (i : Int)) = true := by simpa using q1
                have TI : Hid (lastS (L.take j1) i = ps) := by have h := ST.out; rw [if_pos (by have := HPZ.out; omega)] at h; exact h
                by_cases q2 : (j : Int) < k
                · have d2 : decide ((j : Int) < k) = true := by simpa using q2
                  have MI : Hid (min j1 K = j1) := by have h1 := KK.out.1 q2; have h2 := HJ.out; show min j1 K = j1; omega
                  clear q1
                  go_wp2_with fail
                  go_roundw
                  case measure => simp [intOf]; have := HJ.out; have := HJL.out; omega
                  case rel => exact ⟨j1, ps, ps, by have := HJ.out; have := HJL.out; omega, rfl, rfl, rfl, by show _ = _; rw [MI.out, TI.out], by show _ = _; rw [TI.out], BJ.out⟩
                · have d2 : decide ((j : Int) < k) = false := by simpa using q2
                  have MI : Hid (min j1 K = min j K) := by have h1 : ¬ j < K := fun h => q2 (KK.out.2 h); have h2 := HJ.out; show min j1 K = min j K; omega
                  clear q1
                  go_wp2_with fail
                  go_roundw
                  case measure => simp [intOf]; have := HJ.out; have := HJL.out; omega
                  case rel => exact ⟨j1, ws, ps, by have := HJ.out; have := HJL.out; omega, rfl, rfl, rfl, by show _ = _; rw [MI.out]; exact HW.out, by show _ = _; rw [TI.out], BJ.out⟩
              · have d1 : (pz == (i : Int)) = false := by simpa using q1
                have TI : Hid (lastS (L.take j1) i = lastS (L.take j) i) := by have h := ST.out; rw [if_neg (by have := HPZ.out; omega)] at h; exact h
                have MI : Hid (lastS (L.take (min j1 K)) i = lastS (L.take (min j K)) i) := by
                  have h2 := HJ.out
                  show _ = _
                  by_cases h : j < K
                  · rw [show min j1 K = j1 by omega, show min j K = j by omega]; exact TI.out
                  · rw [show min j1 K = min j K by omega]
                clear q1
                go_wp2_with fail
                go_roundw
                case measure => simp [intOf]; have := HJ.out; have := HJL.out; omega
                case rel => exact ⟨j1, ws, ns, by have := HJ.out; have := HJL.out; omega, rfl, rfl, rfl, by show _ = _; rw [MI.out]; exact HW.out, by show _ = _; rw [TI.out]; exact HNS.out, BJ.out⟩
            · obtain rfl : l = j := by omega
              have jll : ¬ (l : Int) < (l : Int) := by omega
              have WS : Hid (ws = lastS (L.take K) i) := by have h := HW.out; rw [show min l K = K by have := KL.out; omega] at h; exact h
              have NS : Hid (ns = lastS L i) := by have h := HNS.out; rw [← HL.out, List.take_length] at h; exact h
              have DXQ := Lib.hid (DX.out.keep BT.out)
              have DDQ := Lib.hid (DD.out.keep BT.out)
              have RX := Lib.hid (read_any DXQ.out (i : Int))
              have RDD := Lib.hid (read_any DDQ.out (i : Int))
              have E0 : cerr n (i : Int) = 0 := if_neg (by have := HIN.out; omega)
              rw [E0, rd_last (fun p hp => P1.out p (List.mem_of_mem_take hp)) HIN.out, ← WS.out] at RX
              rw [E0, rd_last P1.out HIN.out, ← NS.out] at RDD
              have ws64 : ws.size ≤ 64 := by rw [WS.out]; exact lastS_size i (fun p hp => P2.out p (List.mem_of_mem_take hp))
              have ns64 : ns.size ≤ 64 := by rw [NS.out]; exact lastS_size i P2.out
              obtain ⟨sx, hsx⟩ : ∃ sx, padS ws = sx := ⟨_, rfl⟩
              obtain ⟨sd, hsd⟩ : ∃ sd, padS ns = sd := ⟨_, rfl⟩
              rw [hsx] at RX
              rw [hsd] at RDD
              obtain ⟨z1, hz1⟩ : ∃ z1, 64 - ws.size = z1 := ⟨_, rfl⟩
              obtain ⟨z2, hz2⟩ : ∃ z2, 64 - ns.size = z2 := ⟨_, rfl⟩
              have u1 : (64 : Int) - (ws.size : Int) = (z1 : Int) := by omega
              have u2 : (64 : Int) - (ns.size : Int) = (z2 : Int) := by omega
              have v1 : IntKind.i64.wrap (z1 : Int) = (z1 : Int) := by rw [IntKind.wrap_i64]; omega
              have v2 : IntKind.i64.wrap (z2 : Int) = (z2 : Int) := by rw [IntKind.wrap_i64]; omega
              have MK1 := fun w => run_mkn w z1 (by omega)
              have MK2 := fun w => run_mkn w z2 (by omega)
              have CZ1 := fun w => run_czn w z1
              have CZ2 := run_czn (wr.alloc (.cells (Lib.byteCells (List.replicate z1 0)).toArray 5)) z2
              rw [size_al] at CZ2
              have CS1 : ¬ 9223372036854775807 < ws.size + (zer z1).size := by rw [zer_size]; omega
              have CS2 : ¬ 9223372036854775807 < ns.size + (zer z2).size := by rw [zer_size]; omega
              have CA1 : ws ++ zer z1 = sx := by rw [← hz1, ← hsx]; exact padS_eq ws
              have CA2 : ns ++ zer z2 = sd := by rw [← hz2, ← hsd]; exact padS_eq ns
              clear hj hjl hz1 hz2 hsx hsd E0
              go_wp2_with fail
              refine RX.out.mono ?_; rintro e w6 ⟨rfl, hw⟩
              cases hw
              go_wp2_with fail
              refine RDD.out.mono ?_; rintro e w6 ⟨rfl, hw⟩
              cases hw
              go_wp2_with fail
              go_roundw
              case measure => simp [intOf]; have := HI.out; have := HIN.out; omega
              case rel => exact ⟨i1, by have := HI.out; have := HIN.out; omega, rfl, (BT.out.alloc BT.out.size _).alloc (by rw [size_al]; have := BT.out.size; omega) _⟩
        · have il : ¬ (i : Int) < (n : Int) := by omega
          clear hi hin
          have BQD := Lib.hid (B3.out.trans (BQ.out.mono B3.out.size))
          have DXQ := Lib.hid (DX.out.keep BQ.out)
          have hB : WD.heap.size ≤ wr.heap.size := BQD.out.size
          have WX := Lib.hid (write_ok DXQ.out 0 sOther HN.out.1 (by decide) (by decide) (by decide) hB)
          clear hB
          go_wp2_with fail
          refine (show Calls Try.prog 11 #[pD D', .int .i64 0, .string sOther] wr _ from WX.out).mono ?_; rintro e w6 ⟨rfl, hd, b⟩
          have DX6 := Lib.hid hd
          have B6 := Lib.hid (BQD.out.trans b)
          have DD6 := Lib.hid (DV.out.keep B6.out)
          have BW6 := Lib.hid (BW0.out.trans (B6.out.mono BW0.out.size))
          clear hd b
          have R0 := Lib.hid (show Calls Try.prog 13 #[pD D, .int .i64 0] w6 _ from read_any DD6.out 0)
          have E0 : cerr n 0 = 0 := if_neg (by have := HN.out; omega)
          have RL : rd n (rep (zbs n) (hof L)) 0 = padS (lastS L 0) := rd_last P1.out (i := 0) (by have := HN.out; omega)
          obtain ⟨s0, hs0⟩ : ∃ s0, padS (lastS L 0) = s0 := ⟨_, rfl⟩
          rw [hs0] at RL
          rw [E0, RL] at R0
          have AF2 := Lib.hid (after_any DD6.out (l : Int) (by rw [hof_len, HL.out]; have := L40.out; omega))
          rw [hof_len, HL.out, kk_all, hof_take, ← HL.out, List.take_length, HL.out] at AF2
          have RR := Lib.hid (show ∀ (W : World) (Dz Bz : Nat) (zs : List (List UInt8)) (b : Bool), Dv W Bz Dz n zs (rep (zbs n) (hof L)) [] b 0 → Calls Try.prog 13 #[pD Dz, .int .i64 0] W fun e w' => e = .returned (.tuple #[.string s0, .int .i64 0]) ∧ w' = W from fun W Dz Bz zs b h => by
            have k := read_any h 0
            rw [E0, RL] at k; exact k)
          clear E0 RL hs0
          go_wp2_with fail
          refine R0.out.mono ?_; rintro e w7 ⟨rfl, hw⟩
          cases hw
          go_wp2_with fail
          refine AF2.out.mono ?_; rintro e w7 ⟨D2, rfl, hd, b⟩
          have B7 := Lib.hid b; have DX7 := Lib.hid (DX6.out.keep b); have DD7 := Lib.hid (DD6.out.keep b); have D27 := Lib.hid hd
          have BW7 := Lib.hid (BW6.out.trans (b.mono BW6.out.size))
          clear hd b
          go_wp2_with fail
          refine (RR.out _ _ _ _ _ D27.out).mono ?_; rintro e w8 ⟨rfl, hw⟩
          cases hw
          have WD7 := Lib.hid (writes_any DD7.out)
          rw [hof_len, HL.out] at WD7
          go_wp2_with fail
          refine WD7.out.mono ?_; rintro e w8 ⟨rfl, hw⟩
          cases hw
          go_wp2_with fail
          refine (writes_any DX7.out).mono ?_; rintro e w8 ⟨rfl, hw⟩
          cases hw
          go_wp2_with fail
          refine (lives_any _).mono ?_; rintro e w9 ⟨rfl, b⟩
          have BF := Lib.hid (BW7.out.trans (b.mono BW7.out.size))
          clear b
          go_wp2_with fail
          go_ret
          exact ⟨rfl, BF.out⟩
set_option maxRecDepth 100000 in
set_option maxHeartbeats 2000000 in
theorem history_few (w : World) (x lim : Int) (m cap : Nat) (a : Option Addr) (h : 16 < x ∨ 40 < m ∨ x < 1) :
    Calls Try.prog 5 #[.int .i64 x, .slice a m cap, .int .i64 lim] w fun e w' => e = .returned (.bool true) ∧ Below w.heap.size w w' := by
  by_cases h1 : 16 < x
  · have n1 : decide (16 < x) = true := by simpa using h1
    clear h h1
    go_enter Try.func5, Try.ntmps5
    go_wp2_with fail
    refine (lives_any _).mono ?_; rintro e w2 ⟨rfl, b⟩
    have BB := Lib.hid b
    clear b
    go_wp2_with fail
    go_ret
    exact ⟨rfl, BB.out⟩
  have n1 : decide (16 < x) = false := by simpa using h1
  by_cases h2 : 40 < m
  · have m1 : decide ((40 : Int) < (m : Int)) = true := by simp; omega
    have m2 : decide (40 < m) = true := by simpa using h2
    have m3 : (40 : Int) < (m : Int) := by omega
    clear h h1 h2
    go_enter Try.func5, Try.ntmps5
    go_wp2_with fail
    refine (lives_any _).mono ?_; rintro e w2 ⟨rfl, b⟩
    have BB := Lib.hid b
    clear b
    go_wp2_with fail
    go_ret
    exact ⟨rfl, BB.out⟩
  have m1 : decide ((40 : Int) < (m : Int)) = false := by simp; omega
  have m2 : decide (40 < m) = false := by simpa using h2
  have m3 : ¬ (40 : Int) < (m : Int) := by omega
  have NN := Lib.hid (new_none w x (Or.inl (by omega)))
  clear h h1 h2
  go_enter Try.func5, Try.ntmps5
  go_wp2_with fail
  refine NN.out.mono ?_; rintro e w1 ⟨rfl, hw⟩
  subst hw
  go_wp2_with fail
  refine (lives_any _).mono ?_; rintro e w2 ⟨rfl, b⟩
  have BB := Lib.hid b
  clear b
  go_wp2_with fail
  go_ret
  exact ⟨rfl, BB.out⟩
theorem deviceHistory_open1 {H : Type} {enc : TypeId × Value → H} {W : World} {base b0 : Nat} {spare : Nat → Bool} {held : Bool} {r : Reach} {v : Value} {d : DataW H} {p : List MemPlace}
    (hv : Value.okWide Try.prog W r b0 22 v) (h : DataW.Trod enc Try.prog W base spare held 22 v d p) : ∃ n g, OpsAt W v n g := ops_open hv h
theorem deviceHistory_walk (x : Int) (v : Value) (lim : Int) (w : World) (_ : (Lit.int .i64 x).wf = true) (h : ∃ n g, OpsAt w v n g) (_ : (Lit.int .i64 lim).wf = true) : Calls Try.prog 5 #[.int .i64 x, v, .int .i64 lim] w fun e w' => e = .returned (.bool true) ∧ Below w.heap.size w w' := by
  obtain ⟨m, g, h⟩ := h
  have h0 := h
  obtain ⟨a, cap, rfl, _⟩ := h
  by_cases hb : 16 < x ∨ 40 < m ∨ x < 1
  · exact history_few w x lim m cap a hb
  · obtain ⟨n, rfl⟩ : ∃ n : Nat, x = (n : Int) := ⟨x.toNat, by omega⟩
    exact history_main w n m cap a g lim h0 ⟨by omega, by omega⟩ (by omega)
end Go.Proofs.Ytgadplgjpemdaaa
