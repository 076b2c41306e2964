/- graph: group, Out, In. -/
import Derived.Test.YtgofachgoflgnaaGg
namespace Go.Proofs.Ytgofachgoflgnaa
open Go.ChangeShapes Go.WideShapes Go.ChangeAt Go.RowKit Go.Joins Go.Deep

theorem chk_zero {N : Int} {ars : List (Int × Int)} (h : chk N ars = 0) : ¬ long N ars.length ∧ ∀ j, j < ars.length → ¬ bad N (ars.getD j (0, 0)) := by
  by_cases h1 : long N ars.length
  · rw [chk_long h1] at h; cases h
  · refine ⟨h1, fun j hj hb => ?_⟩
    rw [chk_bad h1 hj hb] at h; cases h
theorem ends_len (f : Int × Int → Int) (l : List (Int × Int)) (k v : Nat) : (ends f l k v).length ≤ k := by
  unfold ends; rw [List.length_map]
  have := List.length_filter_le (fun i => decide (f (l.getD i (0, 0)) = (v : Int))) (List.range k)
  simpa using this
theorem info22 : (Try.prog.info? 25).map (fun i => (i.zero, i.size, i.bytes)) = some (some (.slice none 0 0), 1, 24) := by kernel_rfl
theorem Own1.form {w : World} {v : Value} {l : List Int} (h : Own1 w v l) : ∃ a cap, v = .slice a l.length cap := by
  rcases h.2 with ⟨rfl, h0⟩ | ⟨g, cap, cur, rfl, _⟩
  · rw [h0]; exact ⟨none, 0, rfl⟩
  · exact ⟨_, cap, rfl⟩
theorem row_form1 {w : World} {v : Value} {n : Nat} {xs : List Value} (h : w.ownsRow 0 3 1 v n xs) : ∃ a cap, v = .slice a n cap := by
  rcases h.2 with ⟨rfl, rfl⟩ | ⟨g, cap, cur, rfl, _⟩
  · exact ⟨none, 0, rfl⟩
  · exact ⟨_, cap, rfl⟩
theorem group_bad (g : FuncId) {w : World} {N : Int} {v : Value} {ars : List (Int × Int)} (h : ArcsAt w v ars) (hc : chk N ars ≠ 0) : Calls Try.prog 37 #[gv N v, .func (.func g) #[] #[]] w fun e w' => e = .returned nilV ∧ Below w.heap.size w w' := by
  have A0 := h
  obtain ⟨a, cap, rfl, _⟩ := h
  have CK := Lib.hid (fun W (b : Below w.heap.size w W) => check_any (N := N) (A0.below b))
  obtain ⟨n, hn⟩ : ∃ n, ars.length = n := ⟨_, rfl⟩
  obtain ⟨c, hcc⟩ : ∃ c, chk N ars = c := ⟨_, rfl⟩
  rw [hn] at CK ⊢
  rw [hcc] at CK hc
  have c1 : (c == 0) = false := by simpa using hc
  obtain ⟨W1, hW1⟩ : ∃ W1, w.alloc (.cells #[.int .i64 N, .slice a n cap] 24) = W1 := ⟨_, rfl⟩
  have r1 : Row W1 w.heap.size 24 [.int .i64 N, .slice a n cap] := by rw [← hW1]; exact Row.new _ _ _
  have q0 := r1.cell (i := 0) rfl; have q1 := r1.cell (i := 1) rfl
  have BB := Lib.hid (show Below w.heap.size w W1 by rw [← hW1]; exact (Below.refl _ _).alloc (Nat.le_refl _) _)
  clear r1 A0 hn hcc hc
  go_enter Try.func37, Try.ntmps37
  go_wp2_with fail
  refine (CK.out _ BB.out).mono ?_; rintro e w3 ⟨rfl, b⟩
  have FB := Lib.hid (BB.out.trans (b.mono BB.out.size))
  clear b
  go_wp2_with fail
  go_ret
  exact ⟨rfl, FB.out⟩
/- rows of the call's own, all of them behind B -/
def RNew (B : Nat) (w : World) (u : Value) (m : Nat) (ls : List (List Int)) : Prop := ∃ ob vs cap, u = .slice (some ⟨ob, 0, none⟩) m cap ∧ RR w B ob m vs ls
theorem RNew.base {B C : Nat} {w : World} {u : Value} {m : Nat} {ls : List (List Int)} (h : RNew B w u m ls) (hb : C ≤ B) : RNew C w u m ls := by
  obtain ⟨ob, vs, cap, e, r⟩ := h
  exact ⟨ob, vs, cap, e, r.o, r.vl, r.ll, r.i, r.d, r.no, Nat.le_trans hb r.go, fun k a hk ha => Nat.le_trans hb (r.gi k a hk ha)⟩
set_option maxRecDepth 100000 in
set_option maxHeartbeats 4000000 in
theorem group_any (g : FuncId) (f : Int × Int → Int) (hfn : ∀ (args : Array Value) (w : World), Sem.run Try.prog (callFunc g args) w = .ok (.enter g args) w) (hk : ∀ x y W, Calls Try.prog g #[.agg #[.int .i64 x, .int .i64 y]] W fun e w' => e = .returned (.int .i64 (f (x, y))) ∧ Below W.heap.size W w')
    {w : World} {m : Nat} {v : Value} {ars : List (Int × Int)} (hf : ∀ a, ¬ bad (m : Int) a → 0 ≤ f a ∧ f a < (m : Int)) (h : ArcsAt w v ars) (hc : chk (m : Int) ars = 0) :
    Calls Try.prog 37 #[gv (m : Int) v, .func (.func g) #[] #[]] w fun e w' => ∃ u, e = .returned u ∧ RNew w.heap.size w' u m (groups f ars ars.length m) ∧ Below w.heap.size w w' := by
  obtain ⟨i0, hi, hz0, hz1, hz2⟩ := Go.info_parts Try.info3
  have II := Lib.hid hi; have Z0 := Lib.hid hz0; have Z1 := Lib.hid hz1; have Z2 := Lib.hid hz2
  clear hi hz0 hz1 hz2
  obtain ⟨j0, hi, hz0, hz1, hz2⟩ := Go.info_parts info22
  have JI := Lib.hid hi; have Y0 := Lib.hid hz0; have Y1 := Lib.hid hz1; have Y2 := Lib.hid hz2
  clear hi hz0 hz1 hz2
  obtain ⟨nl, nb⟩ := chk_zero hc
  have NB := Lib.hid nb; have HF := Lib.hid hf; have HK0 := Lib.hid hk
  unfold long at nl
  have hm : m ≤ 1048576 := by omega
  have hl : ars.length ≤ 4194304 := by omega
  have A0 := h
  obtain ⟨a, cap, rfl, _⟩ := h
  have CK := Lib.hid (fun W (b : Below w.heap.size w W) => check_any (N := (m : Int)) (A0.below b))
  have AA := Lib.hid A0
  obtain ⟨n, hn⟩ : ∃ n, ars.length = n := ⟨_, rfl⟩
  have HN := Lib.hid hn; have HM := Lib.hid hm; have HL := Lib.hid hl
  rw [hn] at CK AA ⊢
  rw [hc] at CK
  obtain ⟨W1, hW1⟩ : ∃ W1, w.alloc (.cells #[.int .i64 (m : Int), .slice a n cap] 24) = W1 := ⟨_, rfl⟩
  have r1 : Row W1 w.heap.size 24 [.int .i64 (m : Int), .slice a n cap] := by rw [← hW1]; exact Row.new _ _ _
  have q0 := r1.cell (i := 0) rfl; have q1 := r1.cell (i := 1) rfl
  have R1 := Lib.hid r1
  have BB := Lib.hid (show Below w.heap.size w W1 by rw [← hW1]; exact (Below.refl _ _).alloc (Nat.le_refl _) _)
  clear r1 A0 hn hc hm hl nl nb hf hk
  go_enter Try.func37, Try.ntmps37
  go_wp2_with fail
  refine (CK.out _ BB.out).mono ?_; rintro e w3 ⟨rfl, b⟩
  have B3 := Lib.hid (BB.out.trans (b.mono BB.out.size))
  have r3 := R1.out.below b R1.out.lt
  have R3 := Lib.hid r3
  have q0' := r3.cell (i := 0) rfl; have q1' := r3.cell (i := 1) rfl
  clear b r3 q0 q1 hW1
  obtain ⟨W4, hW4⟩ : ∃ W4, w3.alloc (.cells (madeCells #[nilV] m) 25) = W4 := ⟨_, rfl⟩
  have b4 : Below w3.heap.size w3 W4 := by rw [← hW4]; exact (Below.refl _ _).alloc (Nat.le_refl _) _
  have r4 := R3.out.below b4 R3.out.lt
  have p0 := r4.cell (i := 0) rfl; have p1 := r4.cell (i := 1) rfl
  have B4 := Lib.hid (B3.out.trans (b4.mono B3.out.size))
  have RN : Hid (RR W4 w.heap.size w3.heap.size m (List.replicate m nilV) (groups f ars 0 m)) := by
    show RR _ _ _ _ _ _
    rw [groups_zero, ← hW4]; exact rr_new B3.out.size
  clear b4 r4
  go_wp2_with (at_make; refine wpList_make_row _ rfl _ _ 60 rfl 25 j0 nilV Try.underlying60 JI.out Y0.out Y1.out rfl .i64 .i64 m rfl rfl (by rw [Y2.out]; have := HM.out; omega) (by have := HM.out; omega) ?_)
  obtain ⟨ob, hob⟩ : ∃ ob, w3.heap.size = ob := ⟨_, rfl⟩
  rw [hob] at RN ⊢
  clear p0 p1 q0' q1' hW4 hob
  go_loopw [18] (fun s wr => ∃ (k : Nat) (vs : List Value), k ≤ n ∧ s = .int .i64 (k : Int) ∧ Hid (RR wr w.heap.size ob m vs (groups f ars k m)) ∧ Hid (Below w.heap.size w wr)) (fun s _ => n - (intOf s).toNat)
  case atStart => exact ⟨0, _, Nat.zero_le _, rfl, RN, B4⟩
  case round =>
    clear RN B4
    obtain ⟨k, vs, hk, rfl, RK, BW⟩ := hrel
    by_cases hkn : k < n
    · obtain ⟨b, off, rfl, o0, o1⟩ := (AA.out.below BW.out).at_ (j := k) (by rw [HN.out]; exact hkn)
      have hnb := NB.out k (by rw [HN.out]; exact hkn)
      obtain ⟨⟨x, y⟩, hz⟩ : ∃ z, ars.getD k (0, 0) = z := ⟨_, rfl⟩
      rw [hz] at o0 o1 hnb
      dsimp only at o0 o1
      obtain ⟨f0, f1⟩ := HF.out _ hnb
      obtain ⟨vv, hvv⟩ : ∃ vv : Nat, f (x, y) = (vv : Int) := ⟨(f (x, y)).toNat, by omega⟩
      have hvm : vv < m := by omega
      have GS := Lib.hid (groups_succ (f := f) (l := ars) (k := k) (n := m) hvm (by rw [hz]; exact hvv))
      have CG := Lib.hid (HK0.out x y)
      rw [hvv] at CG
      obtain ⟨k1, hk1⟩ : ∃ k1, k + 1 = k1 := ⟨_, rfl⟩
      rw [hk1] at GS
      have HK := Lib.hid hk1
      have k0 : (0 : Int) ≤ (k : Int) := by omega
      have kl : (k : Int) < (n : Int) := by omega
      have e1 : (k : Int) + 1 = (k1 : Int) := by omega
      have e2 : IntKind.i64.wrap (k1 : Int) = (k1 : Int) := by rw [IntKind.wrap_i64]; have := HL.out; have := HN.out; omega
      have v0 : (0 : Int) ≤ (vv : Int) := by omega
      have v1 : (vv : Int) < (m : Int) := by omega
      have HV := Lib.hid hvm
      obtain ⟨xb, hxb⟩ : ∃ xb, wr.heap.size = xb := ⟨_, rfl⟩
      obtain ⟨W5, hW5⟩ : ∃ W5, wr.alloc (.cells #[.int .i64 x, .int .i64 y] 47) = W5 := ⟨_, rfl⟩
      have r5 : Row W5 xb 47 [.int .i64 x, .int .i64 y] := by rw [← hW5, ← hxb]; exact Row.new _ _ _
      have b5 : Below wr.heap.size wr W5 := by rw [← hW5]; exact (Below.refl _ _).alloc (Nat.le_refl _) _
      have x0 := r5.cell (i := 0) rfl; have x1 := r5.cell (i := 1) rfl
      have R5 := Lib.hid (RK.out.keep b5); have B5 := Lib.hid (BW.out.trans (b5.mono BW.out.size))
      clear r5 b5 hz hk1 hnb f0 f1 hvv hvm RK BW
      go_wp2_with fail
      refine (CG.out _).mono ?_; rintro e w6 ⟨rfl, b⟩
      have R6 := Lib.hid (R5.out.keep b); have B6 := Lib.hid (B5.out.trans (b.mono B5.out.size))
      have cv := R6.out.cell HV.out
      have OW := R6.out.i vv HV.out
      rw [groups_get HV.out] at OW
      have LE : Hid ((ends f ars k vv).length ≤ 4194304) := by have := ends_len f ars k vv; have := HL.out; have := HN.out; show _ ≤ _; omega
      have GG := Lib.hid (groups_get (f := f) (l := ars) (k := k) (n := m) HV.out)
      obtain ⟨le, hle⟩ : ∃ le, (ends f ars k vv).length = le := ⟨_, rfl⟩
      have OW' : Hid (w6.ownsRow 0 3 1 (vs.getD vv nilV) le (nums (ends f ars k vv))) := by have h := OW; unfold Own1 at h; rw [hle] at h; exact h
      obtain ⟨ve, hve⟩ : ∃ ve, vs.getD vv nilV = ve := ⟨_, rfl⟩
      rw [hve] at cv OW'
      obtain ⟨ae, ce, hae⟩ := row_form1 OW'.out
      subst hae
      have HE := Lib.hid hle; have HVE := Lib.hid hve
      clear b x0 x1 OW hle hve R5 B5
      go_wp2_with (at_builtin; refine wpList_append_own_at _ rfl _ _ 25 rfl 0 3 i0 (.int .i64 0) 1 8 Try.underlying25 II.out Z0.out Z1.out Z2.out rfl (by decide) (.slice ae le ce) le (nums (ends f ars k vv)) rfl (OW'.out.alloc _) ⟨w6.heap.size, 0, none⟩ 1 1 [.int .i64 k] rfl rfl (cell_one_new _ _ _) (by simp [Value.oneCell']) (by have := LE.out; have := HE.out; unfold maxLen; omega) (by have := LE.out; have := HE.out; omega) (by simp) ?_; intro v' w7 hown' hgrow hnil hloc; obtain ⟨a', c', hv'⟩ := row_form1 hown'; subst hv'; obtain ⟨q1, q2, q3, q4⟩ := rr_append (x := (k : Int)) (v' := .slice a' (le + 1) c') R6.out B6.out.size HV.out (by rw [GG.out, HE.out]; exact hown') (by rw [HVE.out]; exact hgrow) (by rw [HVE.out]; exact hloc); rw [HVE.out] at q1; obtain ⟨W8, hW8⟩ : ∃ W8, w7.setCell ⟨ob, vv, none⟩ (.slice a' (le + 1) c') = W8 := ⟨_, rfl⟩; rw [hW8] at q3 q4; have R8 := Lib.hid q3; have B8 := Lib.hid (B6.out.trans q4); clear hown' hgrow hnil hloc q3 q4)
      go_roundw
      case measure => simp [intOf]; have := HK.out; omega
      case rel => exact ⟨k1, _, by have := HK.out; omega, rfl, by show RR _ _ _ _ _ _; rw [← GS.out]; exact R8.out, B8⟩
    · have kl : ¬ (k : Int) < (n : Int) := by omega
      obtain rfl : k = n := by omega
      have RA : Hid (RNew w.heap.size wr (.slice (some ⟨ob, 0, none⟩) m m) m (groups f ars k m)) := ⟨_, _, _, rfl, RK.out⟩
      clear RK
      go_wp2_with fail
      go_ret
      exact ⟨_, rfl, RA.out, BW.out⟩
theorem arc_end0 (x y : Int) (W : World) : Calls Try.prog 38 #[.agg #[.int .i64 x, .int .i64 y]] W fun e w' => e = .returned (.int .i64 x) ∧ Below W.heap.size W w' := by
  obtain ⟨W1, hW1⟩ : ∃ W1, W.alloc (.cells #[.int .i64 x, .int .i64 y] 47) = W1 := ⟨_, rfl⟩
  have r1 : Row W1 W.heap.size 47 [.int .i64 x, .int .i64 y] := by rw [← hW1]; exact Row.new _ _ _
  have q0 := r1.cell (i := 0) rfl
  have BB := Lib.hid (show Below W.heap.size W W1 by rw [← hW1]; exact (Below.refl _ _).alloc (Nat.le_refl _) _)
  clear r1
  go_enter Try.func38, Try.ntmps38
  go_wp2_with fail
  go_ret
  exact ⟨rfl, BB.out⟩
theorem out_any {w : World} {m : Nat} {v : Value} {ars : List (Int × Int)} (h : ArcsAt w v ars) (hc : chk (m : Int) ars = 0) : Calls Try.prog 31 #[gv (m : Int) v] w fun e w' => ∃ u, e = .returned u ∧ RNew w.heap.size w' u m (groups Prod.fst ars ars.length m) ∧ Below w.heap.size w w' := by
  have GR := Lib.hid (fun W (b : Below w.heap.size w W) => group_any 38 Prod.fst (fun _ _ => rfl) arc_end0 (fun a ha => by unfold bad at ha; omega) (h.below b) hc)
  obtain ⟨a, cap, rfl, _⟩ := h
  obtain ⟨n, hn⟩ : ∃ n, ars.length = n := ⟨_, rfl⟩
  rw [hn] at GR ⊢
  obtain ⟨W1, hW1⟩ : ∃ W1, w.alloc (.cells #[.int .i64 (m : Int), .slice a n cap] 24) = W1 := ⟨_, rfl⟩
  have r1 : Row W1 w.heap.size 24 [.int .i64 (m : Int), .slice a n cap] := by rw [← hW1]; exact Row.new _ _ _
  have q0 := r1.cell (i := 0) rfl; have q1 := r1.cell (i := 1) rfl
  have BB := Lib.hid (show Below w.heap.size w W1 by rw [← hW1]; exact (Below.refl _ _).alloc (Nat.le_refl _) _)
  clear r1 hc hn
  go_enter Try.func31, Try.ntmps31
  go_wp2_with fail
  refine (GR.out _ BB.out).mono ?_; rintro e w3 ⟨u, rfl, ru, b⟩
  have RU := Lib.hid (ru.base BB.out.size); have FB := Lib.hid (BB.out.trans (b.mono BB.out.size))
  clear ru b
  go_wp2_with fail
  go_ret
  exact ⟨u, rfl, RU.out, FB.out⟩
end Go.Proofs.Ytgofachgoflgnaa

