/- cmds: the parts of lines and areas. -/
import Derived.Test.YthlbenldgnjgcaaDoorKu
namespace Go.Proofs.YthlbenldgnjgcaaDoor
open Go.ChangeShapes Go.WideShapes Go.ChangeAt Go.RowKit Go.Joins Go.Deep

theorem rdA_len : ∀ (n : Nat) (acc : List Pt) (r : List Int) (p : Pt) (acc' : List Pt) (r' : List Int) (p' : Pt), rdA n acc r p = some (acc', r', p') → r'.length + 2 * n = r.length ∧ acc'.length = acc.length + n
  | 0, acc, r, p, acc', r', p', h => by
    rw [rdA] at h; injection h with h; injection h with h1 h2; injection h2 with h2 h3
    subst h1; subst h2; exact ⟨rfl, rfl⟩
  | n + 1, acc, [], p, _, _, _, h => by simp [rdA] at h
  | n + 1, acc, [_], p, _, _, _, h => by simp [rdA] at h
  | n + 1, acc, dx :: dy :: r, p, acc', r', p', h => by
    rw [rdA] at h
    split at h
    · have := rdA_len n _ r _ _ _ _ h
      simp at this ⊢; omega
    · cases h
theorem nx_lt {r : List Int} {p : Pt} {id : Int} {l : List Pt} {r' : List Int} {p' : Pt} (h : nx r p = some (id, l, r', p')) : r'.length < r.length ∧ (id ≠ 7 → 1 ≤ l.length) := by
  cases r with
  | nil => simp [nx] at h
  | cons x r =>
    rw [nx] at h
    split at h
    · rename_i hc
      cases hd : rdA (x / 8).toNat [] r p with
      | none => rw [hd] at h; cases h
      | some t =>
        obtain ⟨l1, r1, p1⟩ := t
        rw [hd, Option.map_some] at h
        injection h with h; injection h with h1 h2; injection h2 with h2 h3; injection h3 with h3 h4
        subst h2; subst h3
        have := rdA_len _ _ _ _ _ _ _ hd
        simp at this ⊢
        exact ⟨by omega, fun _ => by omega⟩
    · split at h
      · injection h with h; injection h with h1 h2; injection h2 with h2 h3; injection h3 with h3 h4
        subst h3
        exact ⟨by simp, fun hh => absurd h1.symm hh⟩
      · cases h
abbrev NxR (r : List Int) (p : Pt) (id : Int) (l : List Pt) (r' : List Int) (p' : Pt) : Prop := nx r p = some (id, l, r', p') ∨ nx r p = none ∧ id = 0 ∧ l = []
theorem NxR.some {r : List Int} {p : Pt} {id : Int} {l : List Pt} {r' : List Int} {p' : Pt} (h : NxR r p id l r' p') (hid : id ≠ 0) : nx r p = some (id, l, r', p') := h.resolve_right (fun hh => hid hh.2.1)
theorem prt_no1 {k : Int} {r : List Int} {p : Pt} {id : Int} {l : List Pt} {r' : List Int} {p' : Pt} (h : NxR r p id l r' p') (hc : ¬ (id = 1 ∧ l.length = 1)) : prt k r p = none := by
  unfold prt
  rcases h with h | ⟨h, _, _⟩ <;> rw [h]
  dsimp only; rw [if_neg hc]
theorem prt_no2 {k : Int} {r : List Int} {p : Pt} {l : List Pt} {r1 : List Int} {p1 : Pt} {i2 : Int} {l2 : List Pt} {r2 : List Int} {p2 : Pt} (h1 : nx r p = some (1, l, r1, p1)) (hl : l.length = 1) (h : NxR r1 p1 i2 l2 r2 p2) (hc : i2 ≠ 2) : prt k r p = none := by
  unfold prt
  rw [h1]; dsimp only; rw [if_pos ⟨rfl, hl⟩]
  rcases h with h | ⟨h, _, _⟩ <;> rw [h]
  dsimp only; rw [if_neg hc]
theorem prt_y2 {r : List Int} {p : Pt} {l : List Pt} {r1 : List Int} {p1 : Pt} {l2 : List Pt} {r2 : List Int} {p2 : Pt} (h1 : nx r p = some (1, l, r1, p1)) (hl : l.length = 1) (h : nx r1 p1 = some (2, l2, r2, p2)) : prt 2 r p = some (l ++ l2, r2, p2) := by
  unfold prt
  rw [h1]; dsimp only; rw [if_pos ⟨rfl, hl⟩, h]; rfl
theorem prt_y3 {r : List Int} {p : Pt} {l : List Pt} {r1 : List Int} {p1 : Pt} {l2 : List Pt} {r2 : List Int} {p2 : Pt} {l3 : List Pt} {r3 : List Int} {p3 : Pt} (h1 : nx r p = some (1, l, r1, p1)) (hl : l.length = 1) (h : nx r1 p1 = some (2, l2, r2, p2)) (h3 : nx r2 p2 = some (7, l3, r3, p3)) : prt 3 r p = some (l ++ l2, r3, p3) := by
  unfold prt
  rw [h1]; dsimp only; rw [if_pos ⟨rfl, hl⟩, h]; dsimp only; rw [if_pos rfl, if_pos rfl, h3]; rfl
theorem prt_no3 {r : List Int} {p : Pt} {l : List Pt} {r1 : List Int} {p1 : Pt} {l2 : List Pt} {r2 : List Int} {p2 : Pt} {i3 : Int} {l3 : List Pt} {r3 : List Int} {p3 : Pt} (h1 : nx r p = some (1, l, r1, p1)) (hl : l.length = 1) (h : nx r1 p1 = some (2, l2, r2, p2)) (h3 : NxR r2 p2 i3 l3 r3 p3) (hc : i3 ≠ 7) : prt 3 r p = none := by
  unfold prt
  rw [h1]; dsimp only; rw [if_pos ⟨rfl, hl⟩, h]; dsimp only; rw [if_pos rfl, if_pos rfl]
  rcases h3 with h | ⟨h, _, _⟩ <;> rw [h]
  dsimp only; rw [if_neg hc]
theorem dcA_none {k : Int} {f : Nat} {acc : List (List Pt)} {r : List Int} {p : Pt} {R : Option (List (List Pt))} (h : dcA k f acc r p = R) (hr : r ≠ []) (hp : prt k r p = none) : R = none := by
  match r, hr, f with
  | x :: r, _, 0 => rw [← h]; rfl
  | x :: r, _, f + 1 => rw [← h, dcA, hp]
theorem dcA_some {k : Int} {f : Nat} {acc : List (List Pt)} {r : List Int} {p : Pt} {R : Option (List (List Pt))} {l : List Pt} {r' : List Int} {p' : Pt} (h : dcA k f acc r p = R) (hf : r.length ≤ f) (hl : r'.length < r.length) (hp : prt k r p = some (l, r', p')) : ∃ f', r'.length ≤ f' ∧ dcA k f' (acc ++ [l]) r' p' = R := by
  match r, f with
  | [], _ => simp at hl
  | x :: r, 0 => simp at hf
  | x :: r, f + 1 =>
    rw [dcA, hp] at h
    exact ⟨f, by simp at hl hf; omega, h⟩
theorem app_pts {wr w3 w8 : World} {B base n q : Nat} {u1 v8 out : Value} {vs : List Value} {acc : List (List Pt)} {l1 l2 : List Pt} (hP : PR wr base out vs acc) (hB : B < base) (hb : base ≤ wr.heap.size) (G3 : wr.grownBy w3 (some B)) (O1 : POwn w3 wr.heap.size u1 l1) (h1 : l1.length = n) (h2 : l2.length = q)
    (gr : w3.grownBy w8 u1.ownBlock) (ow : w8.ownsRow wr.heap.size 44 2 v8 (n + q) (pcs l1 ++ pcs l2)) :
    PR w8 base out vs acc ∧ PtsAt w8 v8 (l1 ++ l2) ∧ (∀ g, v8.ownBlock = some g → base ≤ g ∧ g < w8.heap.size ∧ out.ownBlock ≠ some g) ∧ Below base w3 w8 ∧ w8.heap[B]? = w3.heap[B]? := by
  have nu : ∀ g, u1.ownBlock = some g → wr.heap.size ≤ g := fun g e => (pown_base O1 g e).1
  have s3 := G3.size
  have s8 := gr.size
  refine ⟨hP.same (by omega) (fun g h3 h4 => ?_), (pown_add h1 h2 ow).at_, fun g e => ?_, ?_, ?_⟩
  · rw [gr.block g (by omega) (fun e => by have := nu g e.symm; omega), G3.block g h4 (by intro e; injection e with e; omega)]
  · have := World.ownsRow.lt ow g e
    refine ⟨by omega, this.2, fun e2 => ?_⟩
    have := (World.ownsRow.lt hP.own g e2).2
    omega
  · exact Below.grown (Below.refl _ _) gr (by omega) (fun k e => by have := nu k e; omega)
  · exact gr.block B (by omega) (fun e => by have := nu B e.symm; omega)
def lenV : Value → Nat
  | .slice _ n _ => n
  | _ => 0
theorem row_of {w : World} {base m : Nat} {v : Value} {vs : List Value} {ls : List (List Pt)} (h : PR w base v vs ls) (hm : ls.length = m) : w.ownsRow base 42 1 v m vs := by have := h.own; rw [hm] at this; exact this
set_option maxRecDepth 100000 in
set_option maxHeartbeats 8000000 in
theorem parts_2 {w0 w : World} {B : Nat} {v : Value} {r : List Int} (g : GV w0) (h : Rd w0 B w v r (0, 0)) : Calls Tryd.prog 22 #[qp B, .int .i64 2] w (PtPost w0 B 2 r) := by
  obtain ⟨i0, hi0, hz0, hz1, hz2⟩ := info_parts info42
  have II := Lib.hid hi0; have Z0 := Lib.hid hz0; have Z1 := Lib.hid hz1; have Z2 := Lib.hid hz2
  clear hi0 hz0 hz1 hz2
  obtain ⟨j0, hi0, hz0, hz1, hz2⟩ := info_parts info44
  have JJ := Lib.hid hi0; have Y0 := Lib.hid hz0; have Y1 := Lib.hid hz1; have Y2 := Lib.hid hz2
  clear hi0 hz0 hz1 hz2
  have HH := Lib.hid h; have GG := Lib.hid g
  obtain ⟨base, hbase⟩ : ∃ base, w.heap.size = base := ⟨_, rfl⟩
  have HBS := Lib.hid hbase
  have LB : Hid (B < base) := by rw [← hbase]; exact h.row.lt
  have L0 : Hid (w0.heap.size ≤ base) := by have := h.low; have := LB.out; show _ ≤ _; omega
  obtain ⟨R, hR⟩ : ∃ R, dcA 2 r.length [] r (0, 0) = R := ⟨_, rfl⟩
  have HR := Lib.hid hR
  have PR0 : Hid (prts 2 r = R) := by show _ = _; unfold prts; rw [if_neg (by decide)]; exact hR
  clear h g hbase hR
  go_enter Tryd.func22, Tryd.ntmps22
  go_wp2_with fail
  go_loopw [6] (fun s6 wr => ∃ (vs : List Value) (acc : List (List Pt)) (v' : Value) (r' : List Int) (p' : Pt) (f : Nat), Hid (PR wr base s6 vs acc) ∧ Hid (Rd w0 B wr v' r' p') ∧ Hid (w.grownBy wr (some B)) ∧ Hid (r'.length ≤ f ∧ dcA 2 f acc r' p' = R) ∧ Hid (acc.length + r'.length ≤ r.length)) (fun s6 _ => r.length - lenV s6)
  case atStart => exact ⟨[], [], v, r, (0, 0), r.length, PR.nil _ _, HH.out, gb_below B (Below.refl _ _), ⟨Nat.le_refl _, HR.out⟩, by show _ ≤ _; simp⟩
  case round =>
    obtain ⟨vs, acc, v', r', p', f, PRk, RD, GB, HF, HL⟩ := hrel
    have SB : Hid (base ≤ wr.heap.size) := by rw [← HBS.out]; exact GB.out.size
    have RL : Hid (r.length ≤ 1000000) := HH.out.len
    obtain ⟨m, hm⟩ : ∃ m, acc.length = m := ⟨_, rfl⟩
    have HM := Lib.hid hm
    obtain ⟨a6, c6, hs6⟩ := own_form PRk.out.own
    rw [hm] at hs6
    subst hs6
    clear hm
    by_cases hre : r' = []
    · subst hre
      obtain ⟨ar, cr, rfl⟩ := RD.out.ints.form
      have c0 := RD.out.row.cell (i := 0) rfl
      rw [List.length_nil] at c0
      have NN : Hid (prts 2 r = some acc) := by show _ = _; rw [PR0.out, ← HF.out.2, dcA_nil]
      have BWW : Hid (Below w0.heap.size w0 wr) := RD.out.bel
      go_wp2_with fail
      go_ret2
      exact ⟨_, _, _, true, rfl, BWW.out, fun _ => ⟨acc, NN.out, fun W hs he => (PRk.out.same hs (fun g h1 h2 => he g (by have := LB.out; omega) h2)).rows, by have := HL.out; have := RL.out; omega⟩, (fun e => by cases e)⟩
    · have HRE := Lib.hid hre
      obtain ⟨ar, cr, rfl⟩ := RD.out.ints.form
      have c0 := RD.out.row.cell (i := 0) rfl
      obtain ⟨nr, hnr⟩ : ∃ nr, r'.length = nr := ⟨_, rfl⟩
      have nr0 : 0 < nr := by
        rw [← hnr]
        cases r' with
        | nil => exact absurd rfl hre
        | cons a b => simp
      have nri : (0 : Int) < (nr : Int) := by omega
      rw [hnr] at RD c0
      have HNR := Lib.hid hnr
      clear hre hnr
      go_wp2_with fail
      refine (next_any GG.out RD.out).mono ?_; rintro e w1 ⟨id, u, l1, v1, r1, p1, rfl, OW, RD1, GB1, HN1, hl1, hl2⟩
      obtain ⟨a1, c1, hu⟩ := own_form OW
      obtain ⟨n1, hn1⟩ : ∃ n1, l1.length = n1 := ⟨_, rfl⟩
      rw [hn1] at hu
      subst hu
      have OW1 := Lib.hid OW; have RD1 := Lib.hid RD1; have GB1 := Lib.hid GB1; have HN1 := Lib.hid HN1; have HL1 := Lib.hid hn1
      clear OW hl1 hl2 hn1 c0
      go_wp2_with fail
      refine (next_any GG.out RD1.out).mono ?_; rintro e w2 ⟨id2, u2, l2, v2, r2, p2, rfl, OW, RD2, GB2, HN2, hl1, hl2⟩
      obtain ⟨a2, c2, hu⟩ := own_form OW
      obtain ⟨n2, hn2⟩ : ∃ n2, l2.length = n2 := ⟨_, rfl⟩
      rw [hn2] at hu
      subst hu
      have N2L : Hid (n2 ≤ 1000000) := by have := RD1.out.len; show _ ≤ _; omega
      have OW2 := Lib.hid OW; have RD2 := Lib.hid RD2; have GB2 := Lib.hid GB2; have HN2 := Lib.hid HN2; have HL2 := Lib.hid hn2
      have GB12 := Lib.hid (gb_trans GB1.out GB2.out)
      have BWW : Hid (Below w0.heap.size w0 w2) := RD2.out.bel
      clear OW hl1 hl2 hn2
      by_cases hid : id = 1
      rotate_left 1
      · have d1 : (id != 1) = true := by simpa using hid
        have NN : Hid (prts 2 r = none) := by show _ = _; rw [PR0.out]; exact dcA_none HF.out.2 HRE.out (prt_no1 HN1.out (fun hh => hid hh.1))
        clear hid
        go_wp2_with fail
        go_ret2
        exact ⟨_, _, _, false, rfl, BWW.out, (fun e => by cases e), fun _ => NN.out⟩
      by_cases hn : n1 = 1
      rotate_left 1
      · have d1 : (id != 1) = false := by simpa using hid
        have d2 : ((n1 : Int) != 1) = true := by simp; omega
        have NN : Hid (prts 2 r = none) := by show _ = _; rw [PR0.out]; exact dcA_none HF.out.2 HRE.out (prt_no1 HN1.out (fun hh => hn (by rw [← HL1.out]; exact hh.2)))
        clear hid hn
        go_wp2_with fail
        go_ret2
        exact ⟨_, _, _, false, rfl, BWW.out, (fun e => by cases e), fun _ => NN.out⟩
      subst hid; subst hn
      have N1 := Lib.hid (NxR.some HN1.out (by decide))
      by_cases hid2 : id2 = 2
      rotate_left 1
      · have d3 : (id2 != 2) = true := by simpa using hid2
        have NN : Hid (prts 2 r = none) := by show _ = _; rw [PR0.out]; exact dcA_none HF.out.2 HRE.out (prt_no2 N1.out HL1.out HN2.out hid2)
        clear hid2
        go_wp2_with fail
        go_ret2
        exact ⟨_, _, _, false, rfl, BWW.out, (fun e => by cases e), fun _ => NN.out⟩
      subst hid2
      have N2 := Lib.hid (NxR.some HN2.out (by decide))
      have n20 : 1 ≤ n2 := by have := (nx_lt N2.out).2 (by decide); have := HL2.out; omega
      have PT := Lib.hid (prt_y2 N1.out HL1.out N2.out)
      have LT : Hid (r2.length < r'.length) := by have := (nx_lt N1.out).1; have := (nx_lt N2.out).1; show _ < _; omega
      have O1 : Hid (POwn w2 wr.heap.size (.slice a1 1 c1) l1) := POwn.same OW1.out (fun g e => GB2.out.block g (pown_base OW1.out g e).2 (by intro e2; injection e2 with e2; have := (pown_base OW1.out g e).1; have := LB.out; have := SB.out; omega))
      have OX : Hid (w2.ownsRow wr.heap.size 44 2 (.slice a1 1 c1) 1 (pcs l1)) := by have := O1.out; unfold POwn at this; rw [HL1.out] at this; exact this
      have OY : w2.ownsRow w1.heap.size 44 2 (.slice a2 n2 c2) n2 (pcs l2) := by have := OW2.out; unfold POwn at this; rw [HL2.out] at this; exact this
      obtain ⟨gb, cb, hgb, ce⟩ := own_cells OY n20
      injection hgb with hg1 hg2 hg3
      subst hg1; subst hg3
      have CE := Lib.hid ce
      have MM : Hid (m ≤ 1000000) := by have := HL.out; have := HM.out; have := RL.out; show _ ≤ _; omega
      clear OY ce n20
      go_wp2_with (first | (at_builtin; refine wpList_append_own_at _ rfl _ _ 22 rfl base 42 i0 (.slice none 0 0) 1 24 Tryd.underlying22 II.out Z0.out Z1.out Z2.out rfl (by decide) (.slice a6 m c6) m vs rfl ((row_of F7.out.1 HM.out).alloc _) ⟨w7.heap.size, 0, none⟩ 1 1 [.slice a7 (1 + n2) c7] rfl rfl (one_new _ _ _) (by simp [Value.oneCell']) (by have := MM.out; unfold maxLen; omega) (by have := MM.out; omega) (by have := F7.out.2.2.2.1.size; have := GB12.out.size; have := SB.out; simp; omega) ?_; intro v8 w8 hown' hgrow hnil hloc; have F8 := Lib.hid (pr_app F7.out.1 HM.out (Below.refl _ _) F7.out.2.1 F7.out.2.2.1 hgrow hown' hloc); obtain ⟨a8, c8, hv8⟩ := own_form hown'; subst hv8; clear hown' hgrow hnil hloc) | (at_builtin; refine wpList_append_own_at _ rfl _ _ 42 rfl wr.heap.size 44 j0 (.agg #[.int .i64 0, .int .i64 0]) 2 16 Tryd.underlying42 JJ.out Y0.out Y1.out Y2.out rfl (by decide) (.slice a1 1 c1) 1 (pcs l1) rfl OX.out ⟨gb, 0, none⟩ n2 c2 (pcs l2) rfl (by rw [pcs_len, HL2.out]) CE.out (pcs_one l2) (by have := N2L.out; unfold maxLen; omega) (by have := N2L.out; omega) (by have := GB12.out.size; omega) ?_; intro v7 w7 hown' hgrow hnil hloc; have F7 := Lib.hid (app_pts PRk.out LB.out SB.out GB12.out O1.out HL1.out HL2.out hgrow hown'); obtain ⟨a7, c7, hv7⟩ := own_form hown'; subst hv7; clear hown' hgrow hnil hloc))
      go_roundw
      case measure =>
        have h1 := HL.out; have h2 := HM.out; have h3 := HNR.out
        show r.length - (m + 1) < r.length - m
        omega
      case rel =>
        obtain ⟨f', e1, e2⟩ := dcA_some HF.out.2 HF.out.1 LT.out PT.out
        have hlow := RD2.out.low
        have b1 : Below base w2 w8 := F7.out.2.2.2.1.trans (F8.out.2.2 (by have := F7.out.2.2.2.1.size; have := GB12.out.size; have := SB.out; omega))
        have hlt := RD2.out.row.lt
        refine ⟨_, acc ++ [l1 ++ l2], _, r2, p2, f', F8.out.1, RD2.out.same ?_ (b1.mono (by have := LB.out; omega)), ⟨b1.os.trans (gb_trans GB.out GB12.out).os, b1.tape.trans (gb_trans GB.out GB12.out).tape, b1.output.trans (gb_trans GB.out GB12.out).output, Nat.le_trans (gb_trans GB.out GB12.out).size b1.size, fun k hk hk2 => (b1.block k (by rw [← HBS.out]; exact hk)).trans ((gb_trans GB.out GB12.out).block k hk hk2)⟩, ⟨e1, e2⟩, ?_⟩
        · have := b1.block B LB.out; exact this
        · have h1 := HL.out; have h2 := LT.out; show _ ≤ _; rw [List.length_append]; simp; omega
set_option maxRecDepth 100000 in
set_option maxHeartbeats 8000000 in
theorem parts_3 {w0 w : World} {B : Nat} {v : Value} {r : List Int} (g : GV w0) (h : Rd w0 B w v r (0, 0)) : Calls Tryd.prog 22 #[qp B, .int .i64 3] w (PtPost w0 B 3 r) := by
  obtain ⟨i0, hi0, hz0, hz1, hz2⟩ := info_parts info42
  have II := Lib.hid hi0; have Z0 := Lib.hid hz0; have Z1 := Lib.hid hz1; have Z2 := Lib.hid hz2
  clear hi0 hz0 hz1 hz2
  obtain ⟨j0, hi0, hz0, hz1, hz2⟩ := info_parts info44
  have JJ := Lib.hid hi0; have Y0 := Lib.hid hz0; have Y1 := Lib.hid hz1; have Y2 := Lib.hid hz2
  clear hi0 hz0 hz1 hz2
  have HH := Lib.hid h; have GG := Lib.hid g
  obtain ⟨base, hbase⟩ : ∃ base, w.heap.size = base := ⟨_, rfl⟩
  have HBS := Lib.hid hbase
  have LB : Hid (B < base) := by rw [← hbase]; exact h.row.lt
  have L0 : Hid (w0.heap.size ≤ base) := by have := h.low; have := LB.out; show _ ≤ _; omega
  obtain ⟨R, hR⟩ : ∃ R, dcA 3 r.length [] r (0, 0) = R := ⟨_, rfl⟩
  have HR := Lib.hid hR
  have PR0 : Hid (prts 3 r = R) := by show _ = _; unfold prts; rw [if_neg (by decide)]; exact hR
  clear h g hbase hR
  go_enter Tryd.func22, Tryd.ntmps22
  go_wp2_with fail
  go_loopw [6] (fun s6 wr => ∃ (vs : List Value) (acc : List (List Pt)) (v' : Value) (r' : List Int) (p' : Pt) (f : Nat), Hid (PR wr base s6 vs acc) ∧ Hid (Rd w0 B wr v' r' p') ∧ Hid (w.grownBy wr (some B)) ∧ Hid (r'.length ≤ f ∧ dcA 3 f acc r' p' = R) ∧ Hid (acc.length + r'.length ≤ r.length)) (fun s6 _ => r.length - lenV s6)
  case atStart => exact ⟨[], [], v, r, (0, 0), r.length, PR.nil _ _, HH.out, gb_below B (Below.refl _ _), ⟨Nat.le_refl _, HR.out⟩, by show _ ≤ _; simp⟩
  case round =>
    obtain ⟨vs, acc, v', r', p', f, PRk, RD, GB, HF, HL⟩ := hrel
    have SB : Hid (base ≤ wr.heap.size) := by rw [← HBS.out]; exact GB.out.size
    have RL : Hid (r.length ≤ 1000000) := HH.out.len
    obtain ⟨m, hm⟩ : ∃ m, acc.length = m := ⟨_, rfl⟩
    have HM := Lib.hid hm
    obtain ⟨a6, c6, hs6⟩ := own_form PRk.out.own
    rw [hm] at hs6
    subst hs6
    clear hm
    by_cases hre : r' = []
    · subst hre
      obtain ⟨ar, cr, rfl⟩ := RD.out.ints.form
      have c0 := RD.out.row.cell (i := 0) rfl
      rw [List.length_nil] at c0
      have NN : Hid (prts 3 r = some acc) := by show _ = _; rw [PR0.out, ← HF.out.2, dcA_nil]
      have BWW : Hid (Below w0.heap.size w0 wr) := RD.out.bel
      go_wp2_with fail
      go_ret2
      exact ⟨_, _, _, true, rfl, BWW.out, fun _ => ⟨acc, NN.out, fun W hs he => (PRk.out.same hs (fun g h1 h2 => he g (by have := LB.out; omega) h2)).rows, by have := HL.out; have := RL.out; omega⟩, (fun e => by cases e)⟩
    · have HRE := Lib.hid hre
      obtain ⟨ar, cr, rfl⟩ := RD.out.ints.form
      have c0 := RD.out.row.cell (i := 0) rfl
      obtain ⟨nr, hnr⟩ : ∃ nr, r'.length = nr := ⟨_, rfl⟩
      have nr0 : 0 < nr := by
        rw [← hnr]
        cases r' with
        | nil => exact absurd rfl hre
        | cons a b => simp
      have nri : (0 : Int) < (nr : Int) := by omega
      rw [hnr] at RD c0
      have HNR := Lib.hid hnr
      clear hre hnr
      go_wp2_with fail
      refine (next_any GG.out RD.out).mono ?_; rintro e w1 ⟨id, u, l1, v1, r1, p1, rfl, OW, RD1, GB1, HN1, hl1, hl2⟩
      obtain ⟨a1, c1, hu⟩ := own_form OW
      obtain ⟨n1, hn1⟩ : ∃ n1, l1.length = n1 := ⟨_, rfl⟩
      rw [hn1] at hu
      subst hu
      have OW1 := Lib.hid OW; have RD1 := Lib.hid RD1; have GB1 := Lib.hid GB1; have HN1 := Lib.hid HN1; have HL1 := Lib.hid hn1
      clear OW hl1 hl2 hn1 c0
      go_wp2_with fail
      refine (next_any GG.out RD1.out).mono ?_; rintro e w2 ⟨id2, u2, l2, v2, r2, p2, rfl, OW, RD2, GB2, HN2, hl1, hl2⟩
      obtain ⟨a2, c2, hu⟩ := own_form OW
      obtain ⟨n2, hn2⟩ : ∃ n2, l2.length = n2 := ⟨_, rfl⟩
      rw [hn2] at hu
      subst hu
      have N2L : Hid (n2 ≤ 1000000) := by have := RD1.out.len; show _ ≤ _; omega
      have OW2 := Lib.hid OW; have RD2 := Lib.hid RD2; have GB2 := Lib.hid GB2; have HN2 := Lib.hid HN2; have HL2 := Lib.hid hn2
      have GB12 := Lib.hid (gb_trans GB1.out GB2.out)
      have BWW : Hid (Below w0.heap.size w0 w2) := RD2.out.bel
      clear OW hl1 hl2 hn2
      by_cases hid : id = 1
      rotate_left 1
      · have d1 : (id != 1) = true := by simpa using hid
        have NN : Hid (prts 3 r = none) := by show _ = _; rw [PR0.out]; exact dcA_none HF.out.2 HRE.out (prt_no1 HN1.out (fun hh => hid hh.1))
        clear hid
        go_wp2_with fail
        go_ret2
        exact ⟨_, _, _, false, rfl, BWW.out, (fun e => by cases e), fun _ => NN.out⟩
      by_cases hn : n1 = 1
      rotate_left 1
      · have d1 : (id != 1) = false := by simpa using hid
        have d2 : ((n1 : Int) != 1) = true := by simp; omega
        have NN : Hid (prts 3 r = none) := by show _ = _; rw [PR0.out]; exact dcA_none HF.out.2 HRE.out (prt_no1 HN1.out (fun hh => hn (by rw [← HL1.out]; exact hh.2)))
        clear hid hn
        go_wp2_with fail
        go_ret2
        exact ⟨_, _, _, false, rfl, BWW.out, (fun e => by cases e), fun _ => NN.out⟩
      subst hid; subst hn
      have N1 := Lib.hid (NxR.some HN1.out (by decide))
      by_cases hid2 : id2 = 2
      rotate_left 1
      · have d3 : (id2 != 2) = true := by simpa using hid2
        have NN : Hid (prts 3 r = none) := by show _ = _; rw [PR0.out]; exact dcA_none HF.out.2 HRE.out (prt_no2 N1.out HL1.out HN2.out hid2)
        clear hid2
        go_wp2_with fail
        go_ret2
        exact ⟨_, _, _, false, rfl, BWW.out, (fun e => by cases e), fun _ => NN.out⟩
      subst hid2
      have N2 := Lib.hid (NxR.some HN2.out (by decide))
      have n20 : 1 ≤ n2 := by have := (nx_lt N2.out).2 (by decide); have := HL2.out; omega
      go_wp2_with fail
      refine (next_any GG.out RD2.out).mono ?_; rintro e w3 ⟨id3, u3, l3, v3, r3, p3, rfl, OW, RD3, GB3, HN3, hl1, hl2⟩
      have RD3 := Lib.hid RD3; have GB3 := Lib.hid GB3; have HN3 := Lib.hid HN3
      have GB13 := Lib.hid (gb_trans GB12.out GB3.out)
      have BWW : Hid (Below w0.heap.size w0 w3) := RD3.out.bel
      obtain ⟨a3, c3, hu⟩ := own_form OW
      subst hu
      clear OW hl1 hl2
      by_cases hid3 : id3 = 7
      rotate_left 1
      · have d3 : (id3 != 7) = true := by simpa using hid3
        have NN : Hid (prts 3 r = none) := by show _ = _; rw [PR0.out]; exact dcA_none HF.out.2 HRE.out (prt_no3 N1.out HL1.out N2.out HN3.out hid3)
        clear hid3
        go_wp2_with fail
        go_ret2
        exact ⟨_, _, _, false, rfl, BWW.out, (fun e => by cases e), fun _ => NN.out⟩
      subst hid3
      have N3 := Lib.hid (NxR.some HN3.out (by decide))
      have PT := Lib.hid (prt_y3 N1.out HL1.out N2.out N3.out)
      have LT : Hid (r3.length < r'.length) := by have := (nx_lt N1.out).1; have := (nx_lt N2.out).1; have := (nx_lt N3.out).1; show _ < _; omega
      have OW2 : Hid (POwn w3 w1.heap.size (.slice a2 n2 c2) l2) := POwn.same OW2.out (fun g e => GB3.out.block g (pown_base OW2.out g e).2 (by intro e2; injection e2 with e2; have := (pown_base OW2.out g e).1; have := LB.out; have := SB.out; have := GB1.out.size; omega))
      have O1 : Hid (POwn w3 wr.heap.size (.slice a1 1 c1) l1) := POwn.same OW1.out (fun g e => (gb_trans GB2.out GB3.out).block g (pown_base OW1.out g e).2 (by intro e2; injection e2 with e2; have := (pown_base OW1.out g e).1; have := LB.out; have := SB.out; omega))
      have OX : Hid (w3.ownsRow wr.heap.size 44 2 (.slice a1 1 c1) 1 (pcs l1)) := by have := O1.out; unfold POwn at this; rw [HL1.out] at this; exact this
      have OY : w3.ownsRow w1.heap.size 44 2 (.slice a2 n2 c2) n2 (pcs l2) := by have := OW2.out; unfold POwn at this; rw [HL2.out] at this; exact this
      obtain ⟨gb, cb, hgb, ce⟩ := own_cells OY n20
      injection hgb with hg1 hg2 hg3
      subst hg1; subst hg3
      have CE := Lib.hid ce
      have MM : Hid (m ≤ 1000000) := by have := HL.out; have := HM.out; have := RL.out; show _ ≤ _; omega
      clear OY ce n20
      go_wp2_with (first | (at_builtin; refine wpList_append_own_at _ rfl _ _ 22 rfl base 42 i0 (.slice none 0 0) 1 24 Tryd.underlying22 II.out Z0.out Z1.out Z2.out rfl (by decide) (.slice a6 m c6) m vs rfl ((row_of F7.out.1 HM.out).alloc _) ⟨w7.heap.size, 0, none⟩ 1 1 [.slice a7 (1 + n2) c7] rfl rfl (one_new _ _ _) (by simp [Value.oneCell']) (by have := MM.out; unfold maxLen; omega) (by have := MM.out; omega) (by have := F7.out.2.2.2.1.size; have := GB13.out.size; have := SB.out; simp; omega) ?_; intro v8 w8 hown' hgrow hnil hloc; have F8 := Lib.hid (pr_app F7.out.1 HM.out (Below.refl _ _) F7.out.2.1 F7.out.2.2.1 hgrow hown' hloc); obtain ⟨a8, c8, hv8⟩ := own_form hown'; subst hv8; clear hown' hgrow hnil hloc) | (at_builtin; refine wpList_append_own_at _ rfl _ _ 42 rfl wr.heap.size 44 j0 (.agg #[.int .i64 0, .int .i64 0]) 2 16 Tryd.underlying42 JJ.out Y0.out Y1.out Y2.out rfl (by decide) (.slice a1 1 c1) 1 (pcs l1) rfl OX.out ⟨gb, 0, none⟩ n2 c2 (pcs l2) rfl (by rw [pcs_len, HL2.out]) CE.out (pcs_one l2) (by have := N2L.out; unfold maxLen; omega) (by have := N2L.out; omega) (by have := GB13.out.size; omega) ?_; intro v7 w7 hown' hgrow hnil hloc; have F7 := Lib.hid (app_pts PRk.out LB.out SB.out GB13.out O1.out HL1.out HL2.out hgrow hown'); obtain ⟨a7, c7, hv7⟩ := own_form hown'; subst hv7; clear hown' hgrow hnil hloc))
      go_roundw
      case measure =>
        have h1 := HL.out; have h2 := HM.out; have h3 := HNR.out
        show r.length - (m + 1) < r.length - m
        omega
      case rel =>
        obtain ⟨f', e1, e2⟩ := dcA_some HF.out.2 HF.out.1 LT.out PT.out
        have hlow := RD3.out.low
        have b1 : Below base w3 w8 := F7.out.2.2.2.1.trans (F8.out.2.2 (by have := F7.out.2.2.2.1.size; have := GB13.out.size; have := SB.out; omega))
        have hlt := RD3.out.row.lt
        refine ⟨_, acc ++ [l1 ++ l2], _, r3, p3, f', F8.out.1, RD3.out.same ?_ (b1.mono (by have := LB.out; omega)), ⟨b1.os.trans (gb_trans GB.out GB13.out).os, b1.tape.trans (gb_trans GB.out GB13.out).tape, b1.output.trans (gb_trans GB.out GB13.out).output, Nat.le_trans (gb_trans GB.out GB13.out).size b1.size, fun k hk hk2 => (b1.block k (by rw [← HBS.out]; exact hk)).trans ((gb_trans GB.out GB13.out).block k hk hk2)⟩, ⟨e1, e2⟩, ?_⟩
        · have := b1.block B LB.out; exact this
        · have h1 := HL.out; have h2 := LT.out; show _ ≤ _; rw [List.length_append]; simp; omega
theorem parts_any {w0 w : World} {B : Nat} {k : Int} {v : Value} {r : List Int} (hk : vK k) (g : GV w0) (h : Rd w0 B w v r (0, 0)) : Calls Tryd.prog 22 #[qp B, .int .i64 k] w (PtPost w0 B k r) := by
  unfold vK at hk
  rcases (by omega : k = 1 ∨ k = 2 ∨ k = 3) with rfl | rfl | rfl
  · exact parts_1 g h
  · exact parts_2 g h
  · exact parts_3 g h
end Go.Proofs.YthlbenldgnjgcaaDoor
