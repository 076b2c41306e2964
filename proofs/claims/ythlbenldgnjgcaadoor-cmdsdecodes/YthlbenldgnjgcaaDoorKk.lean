/- cmds: the reference's Encode. -/
import Derived.Test.YthlbenldgnjgcaaDoorKj
namespace Go.Proofs.YthlbenldgnjgcaaDoor
open Go.ChangeShapes Go.WideShapes Go.ChangeAt Go.RowKit Go.Joins Go.Deep

namespace One
theorem same_set {W : World} {b T i : Nat} {v : Value} {cs : List Value} (h : Row W b T cs) (hv : cs[i]? = some v) : W.setCell ⟨b, i, none⟩ v = W := by
  have e : (W.setCell ⟨b, i, none⟩ v).heap = W.heap := by
    apply Array.ext_getElem?
    intro q
    by_cases hi : q = b
    · subst hi
      have k := h.set (i := i) v
      have e2 : cs.set i v = cs := by
        obtain ⟨h1, h2⟩ := List.getElem?_eq_some_iff.1 hv
        rw [← h2]; exact List.set_getElem_self h1
      rw [e2] at k
      unfold Row at h k
      rw [k, h]
    · exact Below.heap_setCell _ _ _ _ hi
  have : ({ W with heap := (W.setCell ⟨b, i, none⟩ v).heap } : World) = W := by rw [e]
  exact this
theorem keepS {X q co : Nat} {ao : Option Addr} {p : Pt} {O : List Int} {wr w W : World} {u v : Value} (b : Below w.heap.size w W)
    (h : (Rst (X + 1) X w (.slice ao q co) p O ∧ Below wr.heap.size wr w) ∧ w.cell? ⟨X, 0, none⟩ = some u ∧ w.cell? ⟨X, 1, none⟩ = some v) :
    (Rst (X + 1) X W (.slice ao q co) p O ∧ Below wr.heap.size wr W) ∧ W.cell? ⟨X, 0, none⟩ = some u ∧ W.cell? ⟨X, 1, none⟩ = some v :=
  ⟨⟨h.1.1.keep b, h.1.2.trans (b.mono h.1.2.size)⟩, by rw [b.cell (cell_lt h.2.1)]; exact h.2.1, by rw [b.cell (cell_lt h.2.2)]; exact h.2.2⟩
theorem ints_cells {w : World} {b off n cap : Nat} {l : List Int} (h : IntsAt w (.slice (some ⟨b, off, none⟩) n cap) l) : ∀ j u, (nums l)[j]? = some u → w.cell? ((⟨b, off, none⟩ : Addr).add j) = some u := by
  intro j u hu
  unfold nums at hu
  rw [List.getElem?_map] at hu
  have hj : j < l.length := by
    by_cases hj : j < l.length
    · exact hj
    · rw [List.getElem?_eq_none (by omega)] at hu; cases hu
  rw [List.getElem?_eq_getElem hj] at hu
  injection hu with hu
  obtain ⟨b', off', e, hc⟩ := h.at hj
  injection e with e; injection e with e1 e2 e3; subst e1; subst e2
  have ea : (⟨b, off, none⟩ : Addr).add j = ⟨b, off + j, none⟩ := Addr.add_lit _ _ _
  rw [ea, hc, ← hu, List.getD, List.getElem?_eq_getElem hj]; rfl
/- what the region of a call of steps leaves -/

structure Cst (X B0 : Nat) (w3 w wx : World) (Y : Nat) (v f : Value) (p r : Pt) (O F : List Int) : Prop where
  st : Rst (X + 1) X wx v p O
  ints : IntsAt wx f F
  row : Row wx Y 44 [.int .i64 r.1, .int .i64 r.2]
  ge : X + 1 ≤ Y
  ne : ∀ k, v.ownBlock = some k → k ≠ Y
  sz : X + 1 ≤ wx.heap.size
  le : w.heap.size ≤ wx.heap.size
  below : Below X w3 wx
theorem cst_set {X B0 Y fb : Nat} {w3 wr W0 : World} {v f : Value} {p : Pt} {O F : List Int} {z1 z2 qa qb : Int} (st : Rst (X + 1) X W0 v p O) (own : IOwn W0 fb f F) (hne : ∀ k, f.ownBlock = some k → k ≠ Y) (row : Row W0 Y 44 [.int .i64 z1, .int .i64 z2])
    (ge : X + 1 ≤ Y) (ne : ∀ k, v.ownBlock = some k → k ≠ Y) (sz : X + 1 ≤ W0.heap.size) (le : wr.heap.size ≤ W0.heap.size) (bl : Below X w3 W0) :
    Cst X B0 w3 wr ((W0.setCell ⟨Y, 0, none⟩ (.int .i64 qa)).setCell ⟨Y, 1, none⟩ (.int .i64 qb)) Y v f p (qa, qb) O F := by
  refine ⟨⟨?_, ?_, st.lt⟩, ?_, ?_, ge, ne, by simpa using sz, by simpa using le, ?_⟩
  · exact (st.row.other (by show X ≠ Y; omega)).other (by show X ≠ Y; omega)
  · exact st.own.same (fun g hg => by rw [Below.heap_setCell _ _ _ _ (ne g hg), Below.heap_setCell _ _ _ _ (ne g hg)])
  · exact IntsAt.of_row (own.same (fun g hg => by rw [Below.heap_setCell _ _ _ _ (hne g hg), Below.heap_setCell _ _ _ _ (hne g hg)]))
  · have := (row.set (i := 0) (.int .i64 qa)).set (i := 1) (.int .i64 qb); simpa using this
  · exact (bl.setCell (by show X ≤ Y; omega) _).setCell (by show X ≤ Y; omega) _
/- behind the append of what steps returned -/
structure Dst (X : Nat) (w3 w7 : World) (Y : Nat) (v : Value) (p r : Pt) (O : List Int) : Prop where
  st : Rst (X + 1) X w7 v p O
  row : Row w7 Y 44 [.int .i64 r.1, .int .i64 r.2]
  sz : X + 1 ≤ w7.heap.size
  ne : ∀ k, v.ownBlock = some k → k ≠ Y
  below : Below X w3 w7
theorem cst_app {X B0 Y n q : Nat} {w3 w wx w7 : World} {v f v' : Value} {p r : Pt} {O F : List Int} (h : Cst X B0 w3 w wx Y v f p r O F) (hn : O.length = n) (hq : F.length = q) (gr : wx.grownBy w7 v.ownBlock)
    (ow : w7.ownsRow (X + 1) 3 1 v' (n + q) (nums O ++ nums F)) (loc : v'.ownBlock = v.ownBlock ∨ v'.ownBlock = some wx.heap.size) : Dst X w3 w7 Y v' p r (O ++ F) := by
  obtain ⟨a, b, c⟩ := rst_app (xs := F) h.st h.below (by omega) h.sz (Below.refl _ _) hn hq gr ow
  have hY := h.row.lt
  refine ⟨a, h.row.same (gr.block Y hY (fun e => h.ne Y e.symm rfl)), by have := c.size; have := h.sz; omega, ?_, b⟩
  intro k hk
  rcases loc with l | l
  · exact h.ne k (by rw [← l]; exact hk)
  · rw [l] at hk; injection hk with hk; omega
theorem take_one {l : List Pt} {m : Nat} (h : ¬ shK 1 m) (hm : l.length = m) : l.take 1 = l := by
  unfold shK at h
  exact List.take_of_length_le (by omega)
set_option maxRecDepth 100000 in
set_option maxHeartbeats 8000000 in
theorem encr_1 {w : World} {v : Value} {ls : List (List Pt)} (h : RowsAt w v ls) (hm : ls.length + tot ls ≤ 9000) (hz : chk 1 ls = 0) : Calls Tryd.prog 10 #[gv 1 v] w fun e w' => ∃ u, e = .returned (.tuple #[u, .int .i64 0]) ∧ IntsAt w' u (enc 1 ls) ∧ Below w.heap.size w w' := by
  obtain ⟨i0, hi0, hz0, hz1, hz2⟩ := info_parts Tryd.info3
  have II := Lib.hid hi0; have Z0 := Lib.hid hz0; have Z1 := Lib.hid hz1; have Z2 := Lib.hid hz2
  clear hi0 hz0 hz1 hz2
  have A0 := h
  obtain ⟨a, cap, rfl⟩ := h.form
  obtain ⟨_, hne, hall0⟩ := chk_zero hz
  have ALL := Lib.hid (fun l hl => cpt_zero (hall0 l hl))
  obtain ⟨n, hn⟩ : ∃ n, ls.length = n := ⟨_, rfl⟩
  obtain ⟨B0, hB0⟩ : ∃ B0, w.heap.size = B0 := ⟨_, rfl⟩
  have HM := Lib.hid hm
  rw [hn] at hm ⊢
  have HN := Lib.hid hn
  obtain ⟨W1, hW1⟩ : ∃ W1, w.alloc (.cells #[.int .i64 1, .slice a n cap] 24) = W1 := ⟨_, rfl⟩
  have r1 : Row W1 B0 24 [.int .i64 1, .slice a n cap] := by rw [← hW1, ← hB0]; exact Row.new _ _ _
  have q0 := r1.cell (i := 0) rfl; have q1 := r1.cell (i := 1) rfl
  have b1 : Below w.heap.size w W1 := by rw [← hW1]; exact (Below.refl _ _).alloc (Nat.le_refl _) _
  have BB := Lib.hid b1
  have R1 := Lib.hid r1
  have CK := Lib.hid (checkr_any (k := 1) (A0.below b1) (by omega))
  rw [hz, hn] at CK
  have AA := Lib.hid (A0.below b1)
  rw [hn] at AA
  clear A0 h r1 b1 hm hn hz hne hall0
  go_enter Tryd.func10, Tryd.ntmps10
  go_wp2_with fail
  refine CK.out.mono ?_; rintro e w3 ⟨rfl, b3⟩
  have B3 := Lib.hid (BB.out.trans (b3.mono BB.out.size))
  have A3 := Lib.hid (AA.out.below b3)
  have r3 := R1.out.below b3 R1.out.lt
  have R3 := Lib.hid r3
  clear b3 CK q0 q1 hW1
  have q0 := r3.cell (i := 0) rfl; have q1 := r3.cell (i := 1) rfl
  obtain ⟨X, hX⟩ : ∃ z, w3.heap.size = z := ⟨_, rfl⟩
  obtain ⟨W4, hW4⟩ : ∃ W4, w3.alloc (.cells #[.int .i64 0, .int .i64 0] 44) = W4 := ⟨_, rfl⟩
  have s4 : W4.heap.size = X + 1 := by rw [← hW4, World.size_alloc, hX]
  have b4 : Below w3.heap.size w3 W4 := by rw [← hW4]; exact (Below.refl _ _).alloc (Nat.le_refl _) _
  have rX : Row W4 X 44 [.int .i64 0, .int .i64 0] := by rw [← hW4, ← hX]; exact Row.new _ _ _
  have r4 := r3.below b4 r3.lt
  have hs0 := same_set (i := 0) rX rfl; have hs1 := same_set (i := 1) rX rfl
  have z0 := rX.cell (i := 0) rfl; have z1 := rX.cell (i := 1) rfl; have fz0 := rX.fr (i := 0); have fz1 := rX.fr (i := 1)
  have d0 := r4.cell (i := 0) rfl; have d1 := r4.cell (i := 1) rfl
  have HX := Lib.hid hX
  have LT3 : Hid (B0 < X) := by rw [← hX]; exact r3.lt
  have E0 : Hid (inE (0, 0)) := by show inE _; unfold inE; decide
  rw [hX] at b4
  have B4 := Lib.hid b4
  have ST0 : Hid (Rst (X + 1) X W4 (.slice none 0 0) (0, 0) []) := ⟨rX, World.ownsRow_nil _ _ _ _, by omega⟩
  have S4 := Lib.hid s4
  clear r3 r4 rX b4
  have f1 : IntKind.i64.wrap (8 * (n : Int)) = 8 * (n : Int) := by rw [IntKind.wrap_i64]; have := HM.out; have := HN.out; omega
  have f2 : IntKind.i64.wrap (1 + 8 * (n : Int)) = 1 + 8 * (n : Int) := by rw [IntKind.wrap_i64]; have := HM.out; have := HN.out; omega
  go_wp2_with (at_builtin; refine wpList_append_own_at _ rfl _ _ 27 rfl (X + 1) 3 i0 (.int .i64 0) 1 8 Tryd.underlying27 II.out Z0.out Z1.out Z2.out rfl (by decide) (.slice none 0 0) 0 (nums []) rfl (ST0.out.own.alloc _) ⟨X + 1, 0, none⟩ 1 1 [.int .i64 (1 + 8 * (n : Int))] rfl rfl (by have := one_new W4 (.int .i64 (1 + 8 * (n : Int))) 3; rw [S4.out] at this; exact this) (by simp [Value.oneCell']) (by decide) (by decide) (by have := S4.out; simp; omega) ?_; intro v5 w5 hown' hgrow hnil hloc; have F5 := Lib.hid (rst_app (xs := [1 + 8 * (n : Int)]) ST0.out B4.out (by omega) (by rw [S4.out]; exact Nat.le_refl _) ((Below.refl _ _).alloc (Nat.le_refl _) _) rfl rfl hgrow hown'); obtain ⟨a5, c5, hv5⟩ := row_form hown'; subst hv5; have SZ5 : Hid (X + 1 ≤ w5.heap.size) := (by have := F5.out.2.2.size; have := S4.out; show _ ≤ _; omega); have r5 := R3.out.below F5.out.2.1 LT3.out; have q0 := r5.cell (i := 0) rfl; have q1 := r5.cell (i := 1) rfl; clear hown' hgrow hnil hloc r5)
  --
  clear q0 q1 d0 d1 hW4 s4 hX hs0 hs1 z0 z1 fz0 fz1 f1 f2
  go_loopw [5, 7] (fun s5 s7 wr => ∃ (i : Nat), i ≤ n ∧ s7 = .int .i64 (i : Int) ∧ Hid (Rst (X + 1) X wr s5 (lastA (ls.take i) (0, 0)) ([1 + 8 * (n : Int)] ++ encA 1 (ls.take i) (0, 0))) ∧ Hid (X + 1 ≤ wr.heap.size) ∧ Hid (Below X w3 wr)) (fun _ s _ => n - (intOf s).toNat)
  case atStart => exact ⟨0, Nat.zero_le _, rfl, F5.out.1, SZ5.out, F5.out.2.1⟩
  case round =>
    obtain ⟨i, hi, rfl, WS, SW, BW⟩ := hrel
    have r5 := R3.out.below BW.out LT3.out
    have q0 := r5.cell (i := 0) rfl; have q1 := r5.cell (i := 1) rfl
    clear r5
    by_cases hin : i < n
    · obtain ⟨ob, off, u, rfl, bl, o3, pu3⟩ := A3.out.at_ (j := i) (by rw [HN.out]; exact hin)
      have o0 : wr.cell? ⟨ob, off + i, none⟩ = some u := by rw [BW.out.cell (by rw [← HX.out]; exact bl)]; exact o3
      have TG := Lib.hid (takeL_get (ls := ls) (k := i) (by rw [HN.out]; exact hin))
      have MEM := Lib.hid (getL_mem (ls := ls) (j := i) (by rw [HN.out]; exact hin))
      have TL : Hid (tot (ls.take i) + (ls.getD i []).length ≤ tot ls) := by have e := tot_take ls (i := i) (by rw [HN.out]; exact hin); have e2 := tot_le ls (i + 1); show _ ≤ _; omega
      have LENA := Lib.hid (encA_len 1 (ls.take i) (0, 0))
      have LTK : Hid ((ls.take i).length = i) := by show _ = _; rw [List.length_take, HN.out]; omega
      have INP : Hid (inE (lastA (ls.take i) (0, 0))) := lastA_in _ _ (fun l hl => (ALL.out l (List.mem_of_mem_take hl)).2.2) E0.out
      obtain ⟨l, hl⟩ : ∃ l, ls.getD i [] = l := ⟨_, rfl⟩
      rw [hl] at TG MEM TL pu3
      have SN := Lib.hid (encA_snoc 1 (ls.take i) l (0, 0))
      have LN := Lib.hid (lastA_snoc (ls.take i) l (0, 0))
      rw [← TG.out] at SN LN
      obtain ⟨hs, h8, hin2⟩ := ALL.out l MEM.out
      have INL := Lib.hid hin2
      obtain ⟨au, cu, rfl, hcap⟩ := pu3.form
      have HCAP := Lib.hid hcap
      clear hcap
      obtain ⟨m, hmm⟩ : ∃ m, l.length = m := ⟨_, rfl⟩
      rw [hmm] at o0 pu3 o3
      have HMM := Lib.hid hmm
      have SH : Hid (¬ shK 1 m) := by rw [← hmm]; exact hs
      have P3 := Lib.hid pu3
      obtain ⟨k1, hk1⟩ : ∃ k1, i + 1 = k1 := ⟨_, rfl⟩
      rw [hk1] at SN LN
      have HK := Lib.hid hk1
      have k0 : (0 : Int) ≤ (i : Int) := by omega
      have kl : (i : Int) < (n : Int) := by omega
      have e1 : (i : Int) + 1 = (k1 : Int) := by omega
      have e2 : IntKind.i64.wrap (k1 : Int) = (k1 : Int) := by rw [IntKind.wrap_i64]; have := HM.out; have := HN.out; omega
      clear hk1 bl pu3 hs h8 hin2 hmm hl o3
      have LO : Hid (([1 + 8 * (n : Int)] ++ encA 1 (ls.take i) (0, 0)).length + 2 * m ≤ 900000) := by
        show _ ≤ _
        have := LENA.out; have := LTK.out; have := TL.out; have := HM.out; have := HN.out; have := HMM.out; simp; omega
      have M1 : Hid (1 ≤ m) := by have := SH.out; unfold shK at this; show _ ≤ _; omega
      have hcu : (1 : Int) ≤ (cu : Int) := by have := M1.out; have := HCAP.out; have := HMM.out; omega
      obtain ⟨OO, hOO⟩ : ∃ z, [1 + 8 * (n : Int)] ++ encA 1 (ls.take i) (0, 0) = z := ⟨_, rfl⟩
      rw [hOO] at WS LO
      obtain ⟨⟨pa, pb⟩, hpp⟩ : ∃ z, lastA (ls.take i) (0, 0) = z := ⟨_, rfl⟩
      rw [hpp] at WS INP SN LN
      obtain ⟨ao, co, hv⟩ := row_form WS.out.own
      obtain ⟨q, hq⟩ : ∃ q, OO.length = q := ⟨_, rfl⟩
      have OW : Hid (wr.ownsRow (X + 1) 3 1 u5 q (nums OO)) := by have := WS.out.own; unfold IOwn at this; rw [hq] at this; exact this
      rw [hq] at hv LO
      subst hv
      have HQ := Lib.hid hq; have HOO := Lib.hid hOO; have HPP := Lib.hid hpp
      have c0 := WS.out.row.cell (i := 0) rfl; have c1 := WS.out.row.cell (i := 1) rfl
      clear hq hOO hpp
      --
      obtain ⟨FL, hFL⟩ : ∃ z, stp (l.take 1) (pa, pb) = z := ⟨_, rfl⟩
      obtain ⟨⟨qa, qb⟩, hqq⟩ : ∃ z, lastP (l.take 1) (pa, pb) = z := ⟨_, rfl⟩
      have FLN : Hid (FL.length = 2) := by show _ = _; rw [← hFL, stp_len, List.length_take]; have := HMM.out; have := M1.out; omega
      have ST := Lib.hid (fun W (b : Below wr.heap.size wr W) => steps_any (w := W) (p := (pa, pb)) (((P3.out.head M1.out).below (by rw [HX.out]; exact BW.out)).below b) (fun x hx => INL.out x (List.mem_of_mem_take hx)) INP.out (by rw [List.length_take]; omega))
      rw [hFL, hqq] at ST
      have HFL := Lib.hid hFL; have HQQ := Lib.hid hqq
      clear hFL hqq
      go_wp2_with fail
      go_cut [9, 10] (fun s9 s10 wx => ∃ (Y : Nat) (af : Option Addr) (cf : Nat), s9 = .slice af 2 cf ∧ s10 = qp Y ∧ Hid (Cst X B0 w3 wr wx Y (.slice ao q co) (.slice af 2 cf) (pa, pb) (qa, qb) OO FL))
      case first =>
        --
        have S00 : Hid ((Rst (X + 1) X wr (.slice ao q co) (pa, pb) OO ∧ Below wr.heap.size wr wr) ∧ wr.cell? ⟨X, 0, none⟩ = some (.int .i64 pa) ∧ wr.cell? ⟨X, 1, none⟩ = some (.int .i64 pb)) := ⟨⟨WS.out, Below.refl _ _⟩, c0, c1⟩
        refine wp_region_held_drew (S := fun W => (Rst (X + 1) X W (.slice ao q co) (pa, pb) OO ∧ Below wr.heap.size wr W) ∧ W.cell? ⟨X, 0, none⟩ = some (.int .i64 pa) ∧ W.cell? ⟨X, 1, none⟩ = some (.int .i64 pb)) (by kernel_rfl) ⟨⟨WS.out.keep (Below.drew (Below.refl _ _)), Below.drew (Below.refl _ _)⟩, c0, c1⟩ (fun hHeld => ?_)
        refine wpAnyH_take (i := 0) (v := ?_) rfl (by decide +kernel) (by decide +kernel) (by decide +kernel) (fun _ _ _ h => h) (Or.inl ⟨by rfl, ?_⟩) (by assumption) ?_
        rotate_left 1
        · (intro w hSw; (try dsimp only at hSw); first | (go_simp; done) | (go_simp; with_reducible rfl))
        simp only [Act.put, List.getElem_toArray, List.getElem_cons_zero, List.setIfInBounds_toArray, List.set_cons_zero, List.set_cons_succ]
        refine wpAnyH_take (i := 1) (v := ?_) rfl (by decide +kernel) (by decide +kernel) (by decide +kernel) (fun _ _ _ h => h) (Or.inl ⟨by rfl, ?_⟩) (by assumption) ?_
        rotate_left 1
        · (intro w hSw; (try dsimp only at hSw); first | (go_simp; done) | (go_simp; with_reducible rfl))
        simp only [Act.put, List.getElem_toArray, List.getElem_cons_zero, List.getElem_cons_succ, List.setIfInBounds_toArray, List.set_cons_zero, List.set_cons_succ]
        refine wpAnyH_take (i := 2) (v := ?_) rfl (by decide +kernel) (by decide +kernel) (by decide +kernel) (fun _ _ _ h => h) (Or.inl ⟨by rfl, ?_⟩) (by assumption) ?_
        rotate_left 1
        · (intro w hSw; (try dsimp only at hSw); first | (go_simp; done) | (go_simp; with_reducible rfl))
        simp only [Act.put, List.getElem_toArray, List.getElem_cons_zero, List.getElem_cons_succ, List.setIfInBounds_toArray, List.set_cons_zero, List.set_cons_succ]
        refine wpAnyH_ready (rs := [3, 7]) (by decide +kernel) (by simp) ?_
        refine AllReadyH.cons rfl (fun K hK => ?_) (AllReadyH.cons rfl (fun K hK => ?_) AllReadyH.nil)
        · have hS1 := Lib.hid hHeld
          go_simp
          go_wp2_with (go_at_call 19; (with_reducible refine (ST.out _ hS1.out.1.2).mono ?_); rintro en w5 ⟨v5, rfl, i5, b5⟩)
          have I5 := Lib.hid i5; have B5 := Lib.hid b5
          obtain ⟨a5, c5, hv5⟩ := row_form i5
          rw [FLN.out] at hv5
          subst hv5
          clear i5 b5
          --
          refine hK.out _ _ (keepS B5.out hS1.out) (fun hHeld2 => ?_)
          clear hK K hHeld hS1; have hHeld := hHeld2; clear hHeld2
          refine wpAnyH_take (i := 4) (v := ?_) rfl (by decide +kernel) (by decide +kernel) (by decide +kernel) (fun _ _ _ h => h) (Or.inl ⟨by rfl, ?_⟩) (by assumption) ?_
          rotate_left 1
          · (intro w hSw; (try dsimp only at hSw); first | (go_simp; done) | (go_simp; with_reducible rfl))
          simp only [Act.put, List.getElem_toArray, List.getElem_cons_zero, List.getElem_cons_succ, List.setIfInBounds_toArray, List.set_cons_zero, List.set_cons_succ]
          refine wpAnyH_take (i := 5) (v := ?_) rfl (by decide +kernel) (by decide +kernel) (by decide +kernel) (fun _ _ _ h => h) (Or.inl ⟨by rfl, ?_⟩) (by assumption) ?_
          rotate_left 1
          · (intro w hSw; (try dsimp only at hSw); first | (go_simp; done) | (go_simp; with_reducible rfl))
          simp only [Act.put, List.getElem_toArray, List.getElem_cons_zero, List.getElem_cons_succ, List.setIfInBounds_toArray, List.set_cons_zero, List.set_cons_succ]
          --
          first | refine wpAnyH_ready (rs := [7]) (by decide +kernel) (by simp) ?_ | (refine wpAnyH_take (i := 6) (v := ?_) rfl (by decide +kernel) (by decide +kernel) (by decide +kernel) (fun _ _ _ h => h) (Or.inl ⟨by rfl, ?_⟩) (by assumption) ?_; rotate_left 1; (intro w hSw; (try dsimp only at hSw); first | (go_simp; done) | (go_simp; with_reducible rfl)); simp only [Act.put, List.getElem_toArray, List.getElem_cons_zero, List.getElem_cons_succ, List.setIfInBounds_toArray, List.set_cons_zero, List.set_cons_succ]; refine wpAnyH_ready (rs := [7]) (by decide +kernel) (by simp) ?_)
          refine AllReadyH.cons rfl (fun K hK => ?_) AllReadyH.nil
          have hS1 := Lib.hid hHeld
          go_simp
          --
          obtain ⟨Y, hY⟩ : ∃ Y, w5.heap.size = Y := ⟨_, rfl⟩
          obtain ⟨W0, hW0⟩ : ∃ W0, w5.alloc (.cells #[.int .i64 0, .int .i64 0] 44) = W0 := ⟨_, rfl⟩
          have b0 : Below w5.heap.size w5 W0 := by rw [← hW0]; exact (Below.refl _ _).alloc (Nat.le_refl _) _
          have R0 : Hid (Row W0 Y 44 [.int .i64 0, .int .i64 0]) := by show Row _ _ _ _; rw [← hW0, ← hY]; exact Row.new _ _ _
          have LT5 : Hid (wr.heap.size ≤ Y) := by rw [← hY]; exact hS1.out.1.2.size
          have WY := LT5
          have CS : Hid (Cst X B0 w3 wr ((W0.setCell ⟨Y, 0, none⟩ (.int .i64 qa)).setCell ⟨Y, 1, none⟩ (.int .i64 qb)) Y (.slice ao q co) (.slice a5 2 c5) (pa, pb) (qa, qb) OO FL) :=
            cst_set (hS1.out.1.1.keep b0) (I5.out.keep b0) (fun k e => by have := (I5.out.lt k e).2; omega) R0.out (by have := SW.out; have := LT5.out; omega) (fun k e => by have := (WS.out.own.lt k e).2; have := LT5.out; omega) (by have := SW.out; have := LT5.out; have := b0.size; omega) (by have := LT5.out; have := b0.size; omega) ((BW.out.trans (hS1.out.1.2.mono (by have := SW.out; omega))).trans (b0.mono (by have := SW.out; have := LT5.out; omega)))
          rw [hY, hW0]
          refine hK.out _ _ (by have := keepS b0 hS1.out; exact this) (fun hHeld2 => ?_)
          clear hK K hHeld hS1 hY hW0 b0; have hHeld := hHeld2; clear hHeld2
          have y0 := R0.out.cell (i := 0) rfl; have y1 := R0.out.cell (i := 1) rfl; have fy0 := R0.out.fr (i := 0); have fy1 := R0.out.fr (i := 1)
          refine wpAnyH_take (i := 8) (v := ?_) rfl (by decide +kernel) (by decide +kernel) (by decide +kernel) (fun _ _ _ h => h) (Or.inl ⟨by rfl, ?_⟩) (by assumption) ?_
          rotate_left 1
          · (intro w hSw; (try dsimp only at hSw); first | (go_simp; done) | (go_simp; with_reducible rfl))
          simp only [Act.put, List.getElem_toArray, List.getElem_cons_zero, List.getElem_cons_succ, List.setIfInBounds_toArray, List.set_cons_zero, List.set_cons_succ]
          refine wpAnyH_ready (rs := [9]) (by decide +kernel) (by simp) ?_
          refine AllReadyH.cons rfl (fun K hK => ?_) AllReadyH.nil
          have hS2 := Lib.hid hHeld
          go_simp
          refine hK.out _ _ ⟨⟨CS.out.st, (hS2.out.1.2.setCell WY.out _).setCell WY.out _⟩, CS.out.st.row.cell (i := 0) rfl, CS.out.st.row.cell (i := 1) rfl⟩ (fun _ => ?_)
          clear hK K hS2 y0 y1 fy0 fy1
          refine wpAnyH_done (by kernel_rfl) ?_ _
          go_wp2_with fail
          --
          go_meet
          exact ⟨Y, a5, c5, rfl, rfl, CS.out⟩
        · have hS1 := Lib.hid hHeld
          go_simp
          refine hK.out _ _ (keepS (Below.drew (Below.alloc (Below.refl _ _) (Nat.le_refl _) _)) S00.out) (fun hHeld2 => ?_)
          clear hK K hHeld hS1; have hHeld := hHeld2; clear hHeld2
          --
          first | refine wpAnyH_ready (rs := [3]) (by decide +kernel) (by simp) ?_ | refine wpAnyH_ready (rs := [3, 8]) (by decide +kernel) (by simp) ?_
          refine AllReadyH.cons rfl (fun K hK => ?_) AllReadyH.nil
          have hS1 := Lib.hid hHeld
          go_simp
          go_wp2_with (go_at_call 19; (with_reducible refine (ST.out _ hS1.out.1.2).mono ?_); rintro en w5 ⟨v5, rfl, i5, b5⟩)
          have I5 := Lib.hid i5; have B5 := Lib.hid b5
          obtain ⟨a5, c5, hv5⟩ := row_form i5
          rw [FLN.out] at hv5
          subst hv5
          clear i5 b5
          refine hK.out _ _ (keepS B5.out hS1.out) (fun hHeld2 => ?_)
          clear hK K hHeld hS1; have hHeld := hHeld2; clear hHeld2
          refine wpAnyH_take (i := 4) (v := ?_) rfl (by decide +kernel) (by decide +kernel) (by decide +kernel) (fun _ _ _ h => h) (Or.inl ⟨by rfl, ?_⟩) (by assumption) ?_
          rotate_left 1
          · (intro w hSw; (try dsimp only at hSw); first | (go_simp; done) | (go_simp; with_reducible rfl))
          simp only [Act.put, List.getElem_toArray, List.getElem_cons_zero, List.getElem_cons_succ, List.setIfInBounds_toArray, List.set_cons_zero, List.set_cons_succ]
          refine wpAnyH_take (i := 5) (v := ?_) rfl (by decide +kernel) (by decide +kernel) (by decide +kernel) (fun _ _ _ h => h) (Or.inl ⟨by rfl, ?_⟩) (by assumption) ?_
          rotate_left 1
          · (intro w hSw; (try dsimp only at hSw); first | (go_simp; done) | (go_simp; with_reducible rfl))
          simp only [Act.put, List.getElem_toArray, List.getElem_cons_zero, List.getElem_cons_succ, List.setIfInBounds_toArray, List.set_cons_zero, List.set_cons_succ]
          --
          have WY : Hid (wr.heap.size ≤ wr.heap.size) := Nat.le_refl _
          have RW : Row (wr.alloc (.cells #[.int .i64 0, .int .i64 0] 44)).drew wr.heap.size 44 [.int .i64 0, .int .i64 0] := Row.new _ _ _
          have R0 : Hid (Row w5 wr.heap.size 44 [.int .i64 0, .int .i64 0]) := RW.below B5.out RW.lt
          have CS : Hid (Cst X B0 w3 wr ((w5.setCell ⟨wr.heap.size, 0, none⟩ (.int .i64 qa)).setCell ⟨wr.heap.size, 1, none⟩ (.int .i64 qb)) wr.heap.size (.slice ao q co) (.slice a5 2 c5) (pa, pb) (qa, qb) OO FL) :=
            cst_set hHeld.1.1 I5.out (fun k e => by have := (I5.out.lt k e).1; have := RW.lt; omega) R0.out (by have := SW.out; omega) (fun k e => by have := (WS.out.own.lt k e).2; omega) (by have := SW.out; have := hHeld.1.2.size; omega) hHeld.1.2.size (BW.out.trans (hHeld.1.2.mono (by have := SW.out; omega)))
          clear RW
          have y0 := R0.out.cell (i := 0) rfl; have y1 := R0.out.cell (i := 1) rfl; have fy0 := R0.out.fr (i := 0); have fy1 := R0.out.fr (i := 1)
          refine wpAnyH_take (i := 6) (v := ?_) rfl (by decide +kernel) (by decide +kernel) (by decide +kernel) (fun _ _ _ h => h) (Or.inl ⟨by rfl, ?_⟩) (by assumption) ?_
          rotate_left 1
          · (intro w hSw; (try dsimp only at hSw); first | (go_simp; done) | (go_simp; with_reducible rfl))
          simp only [Act.put, List.getElem_toArray, List.getElem_cons_zero, List.getElem_cons_succ, List.setIfInBounds_toArray, List.set_cons_zero, List.set_cons_succ]
          refine wpAnyH_take (i := 8) (v := ?_) rfl (by decide +kernel) (by decide +kernel) (by decide +kernel) (fun _ _ _ h => h) (Or.inl ⟨by rfl, ?_⟩) (by assumption) ?_
          rotate_left 1
          · (intro w hSw; (try dsimp only at hSw); first | (go_simp; done) | (go_simp; with_reducible rfl))
          simp only [Act.put, List.getElem_toArray, List.getElem_cons_zero, List.getElem_cons_succ, List.setIfInBounds_toArray, List.set_cons_zero, List.set_cons_succ]
          refine wpAnyH_ready (rs := [9]) (by decide +kernel) (by simp) ?_
          refine AllReadyH.cons rfl (fun K hK => ?_) AllReadyH.nil
          have hS2 := Lib.hid hHeld
          go_simp
          refine hK.out _ _ ⟨⟨CS.out.st, (hS2.out.1.2.setCell WY.out _).setCell WY.out _⟩, CS.out.st.row.cell (i := 0) rfl, CS.out.st.row.cell (i := 1) rfl⟩ (fun _ => ?_)
          clear hK K hS2 y0 y1 fy0 fy1
          refine wpAnyH_done (by kernel_rfl) ?_ _
          go_wp2_with fail
          --
          go_meet
          exact ⟨wr.heap.size, a5, c5, rfl, rfl, CS.out⟩
      case rest =>
        obtain ⟨Y, af, cf, rfl, rfl, CS⟩ := hcut
        have OWc : Hid (wc.ownsRow (X + 1) 3 1 (.slice ao q co) q (nums OO)) := by have := CS.out.st.own; unfold IOwn at this; rw [HQ.out] at this; exact this
        obtain ⟨fb, foff, hfa⟩ : ∃ fb foff, af = some ⟨fb, foff, none⟩ := by
          obtain ⟨x, y, e, _⟩ := CS.out.ints.at (k := 0) (by rw [FLN.out]; decide)
          exact ⟨x, y, e⟩
        subst hfa
        have NEW : Hid (∀ j u, (nums FL)[j]? = some u → wc.cell? ((⟨fb, foff, none⟩ : Addr).add j) = some u) := ints_cells CS.out.ints
        have NL : Hid ((nums FL).length = 2 * 1) := by show _ = _; unfold nums; rw [List.length_map, FLN.out]
        go_wp2_with (at_builtin; refine wpList_append_own_at _ rfl _ _ 27 rfl (X + 1) 3 i0 (.int .i64 0) 1 8 Tryd.underlying27 II.out Z0.out Z1.out Z2.out rfl (by decide) (.slice ao q co) q (nums OO) rfl OWc.out ⟨fb, foff, none⟩ 2 cf (nums FL) rfl NL.out NEW.out (nums_one _) (by have := LO.out; unfold maxLen; omega) (by have := LO.out; omega) CS.out.sz ?_; intro v7 w7 hown' hgrow hnil hloc; have F7 := Lib.hid (cst_app CS.out HQ.out FLN.out hgrow (by have h := hown'; exact h) hloc); obtain ⟨a7, c7, hv7⟩ := row_form hown'; subst hv7; clear hown' hgrow hnil hloc; have r7 := R3.out.below F7.out.below LT3.out; have q0 := r7.cell (i := 0) rfl; have q1 := r7.cell (i := 1) rfl; have y0 := F7.out.row.cell (i := 0) rfl; have y1 := F7.out.row.cell (i := 1) rfl; have t0 := F7.out.st.row.cell (i := 0) rfl; have t1 := F7.out.st.row.cell (i := 1) rfl; have ft0 := F7.out.st.row.fr (i := 0); have ft1 := F7.out.st.row.fr (i := 1); clear r7)
        --
        go_roundw
        case measure => simp [intOf]; have := HK.out; omega
        case rel =>
          refine ⟨k1, by have := HK.out; omega, rfl, ?_, ?_, ?_⟩
          · show Rst _ _ _ _ _ _
            have LP : (qa, qb) = lastP l (pa, pb) := by rw [← HQQ.out, take_one SH.out HMM.out]
            rw [SN.out, LN.out, ← List.append_assoc, HOO.out]
            have e : encP 1 l (pa, pb) = FL := by
              have e1 : encP 1 l (pa, pb) = stp l (pa, pb) := if_pos rfl
              rw [e1, ← HFL.out, take_one SH.out HMM.out]
            rw [e, ← LP]
            exact rst_at F7.out.st qa qb
          · have := F7.out.sz; show X + 1 ≤ _; simpa using this
          · exact (F7.out.below.setCell (Nat.le_refl _) _).setCell (Nat.le_refl _) _
    · have kl : ¬ (i : Int) < (n : Int) := by omega
      have e : ls.take i = ls := List.take_of_length_le (by have := HN.out; omega)
      rw [e] at WS
      have FB : Hid (Below w.heap.size w wr) := B3.out.trans (BW.out.mono (by have := B3.out.size; have := HX.out; omega))
      rw [hB0] at FB
      go_wp2_with fail
      go_ret2
      refine ⟨_, rfl, ?_, FB.out⟩
      have he : enc 1 ls = [1 + 8 * (n : Int)] ++ encA 1 ls (0, 0) := by unfold enc; rw [if_pos rfl, HN.out]
      rw [he]
      exact IntsAt.of_row WS.out.own
end One
end Go.Proofs.YthlbenldgnjgcaaDoor
