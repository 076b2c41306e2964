/- tags: Small and lives; the opening of a row of tags. -/
import Derived.Test.YtlojecpladckiaaTk
import Derived.ChangeSame
import Derived.Deep.Slices
import Derived.WalkArith
namespace Go.Proofs.Ytlojecpladckiaa
open Go.ChangeShapes Go.WideShapes Go.ChangeAt Go.RowKit Go.Joins Go.Deep

open Go.Proofs.TagM Go.Shelf Go.Sort

def SmP (l : List Tg) (w : World) (e : Ending) (w' : World) : Prop := ∃ b, e = .returned (.bool b) ∧ (b = true → l.length ≤ 40) ∧ w' = w
set_option maxRecDepth 100000 in
set_option maxHeartbeats 2000000 in
theorem small_any {w : World} {v : Value} {l : List Tg} (h : TagsAt w v l) : Calls Try.prog 8 #[v] w fun e w' => SmP l w e w' := by
  have A0 := Lib.hid h
  obtain ⟨a, cap, rfl, _⟩ := h
  obtain ⟨n, hn⟩ : ∃ n, l.length = n := ⟨_, rfl⟩
  have HN := Lib.hid hn
  rw [hn] at A0 ⊢
  clear hn
  go_enter Try.func8, Try.ntmps8
  go_wp2_with fail
  go_loopw [3] (fun s wr => ∃ k : Nat, k ≤ n ∧ k ≤ 41 ∧ s = .int .i64 (k : Int) ∧ wr = w) (fun s _ => 41 - (intOf s).toNat)
  case atStart => exact ⟨0, Nat.zero_le _, by omega, rfl, rfl⟩
  case round =>
    obtain ⟨k, hk, hk4, rfl, rfl⟩ := hrel
    by_cases hkn : k < n
    · by_cases hk41 : k < 41
      · obtain ⟨b, off, rfl, hbl, o0, o1⟩ := A0.out.at_ (j := k) (by rw [HN.out]; exact hkn)
        obtain ⟨⟨x, y⟩, hz⟩ : ∃ z, l.getD k default = z := ⟨_, rfl⟩
        rw [hz] at o0 o1
        dsimp only at o0 o1
        obtain ⟨k1, hk1⟩ : ∃ k1, k + 1 = k1 := ⟨_, rfl⟩
        have HK := Lib.hid hk1
        have k0 : (0 : Int) ≤ (k : Int) := by omega
        have kl : (k : Int) < (n : Int) := by omega
        have k4 : (k : Int) < 41 := by omega
        have e1 : (k : Int) + 1 = (k1 : Int) := by omega
        have e2 : IntKind.i64.wrap (k1 : Int) = (k1 : Int) := by rw [IntKind.wrap_i64]; omega
        clear hz hk1 hbl
        by_cases c1 : 200 < (x.size : Int)
        · go_wp2_with fail
          go_ret
          exact ⟨false, rfl, (fun h => by cases h), rfl⟩
        · by_cases c2 : 200 < (y.size : Int)
          · go_wp2_with fail
            go_ret
            exact ⟨false, rfl, (fun h => by cases h), rfl⟩
          · go_wp2_with fail
            go_roundw
            case measure => simp [intOf]; have := HK.out; omega
            case rel => exact ⟨k1, by have := HK.out; omega, by have := HK.out; omega, rfl, by trivial⟩
      · have kl : (k : Int) < (n : Int) := by omega
        have k4 : ¬ (k : Int) < 41 := by omega
        have n4 : ¬ (n : Int) ≤ 40 := by omega
        go_wp2_with fail
        go_ret
        exact ⟨false, rfl, (fun h => by cases h), rfl⟩
    · have kl : ¬ (k : Int) < (n : Int) := by omega
      by_cases n4 : (n : Int) ≤ 40
      · go_wp2_with fail
        go_ret
        exact ⟨true, rfl, (fun _ => by rw [HN.out]; omega), rfl⟩
      · go_wp2_with fail
        go_ret
        exact ⟨false, rfl, (fun h => by cases h), rfl⟩
theorem lit_at (w : World) (l : List Tg) (n : Nat) (hn : l.length = n) : TagsAt (w.alloc (.cells (tcs l).toArray 42)) (.slice (some ⟨w.heap.size, 0, none⟩) n n) l := by
  refine ⟨_, n, by rw [hn], fun e => (by cases e), Or.inr ⟨w.heap.size, 0, rfl, by simp, fun j hj => ?_⟩⟩
  obtain ⟨a1, a2⟩ := tcs_get l j hj
  have r := Row.new w 42 (tcs l)
  rw [Nat.zero_add]
  exact ⟨r.cell a1, r.cell a2⟩
abbrev sA : ByteArray := ⟨#[97]⟩
abbrev sB : ByteArray := ⟨#[98]⟩
abbrev s1 : ByteArray := ⟨#[49]⟩
abbrev s2 : ByteArray := ⟨#[50]⟩
abbrev sSp : ByteArray := ⟨#[115, 112, 101, 101, 100]⟩
abbrev s050 : ByteArray := ⟨#[48, 53, 48]⟩
abbrev s5x : ByteArray := ⟨#[53, 120]⟩
theorem sk_ab : SK [(sA, s2), (sB, s1)] := by unfold SK; decide +kernel
theorem vld_ab : ∀ t ∈ [(sB, s1), (sA, s2)], vld t := by decide +kernel
theorem cp_ab : CP [(sB, s1), (sA, s2)] [(sA, s2), (sB, s1)] 0 := cp_fine (by decide) vld_ab sk_ab (List.Perm.swap _ _ _)
theorem chk_ab : chkT [(sA, s2), (sB, s1)] = 0 := (chk_zero (by decide)).2 ⟨fun t ht => vld_ab t ((List.Perm.swap (sB, s1) (sA, s2) []).mem_iff.1 ht), sk_ab⟩
theorem canon_ab (w : World) : Calls Try.prog 10 #[.slice (some ⟨w.heap.size, 0, none⟩) 2 2] (w.alloc (.cells #[.string sB, .string s1, .string sA, .string s2] 42)) fun e w' => ∃ u, e = .returned (.tuple #[u, .int .i64 0]) ∧ TagsAt w' u [(sA, s2), (sB, s1)] ∧ Below w.heap.size w w' := by
  refine (canon_any (lit_at w [(sB, s1), (sA, s2)] 2 rfl)).mono fun e w' => ?_
  rintro ⟨u, r, f, he, ha, hc, hb⟩
  obtain ⟨rfl, rfl⟩ := hc.unique cp_ab (List.Perm.refl _)
  exact ⟨u, he, ha, ((Below.refl _ w).alloc (Nat.le_refl _) _).trans (hb.mono (by simp))⟩
theorem num_050 (w : World) : Calls Try.prog 17 #[.slice (some ⟨w.heap.size, 0, none⟩) 1 1, .string sSp] (w.alloc (.cells #[.string sSp, .string s050] 42)) fun e w' => e = .returned (.tuple #[.int .i64 50, .bool true]) ∧ Below w.heap.size w w' := by
  refine (number_any sSp (lit_at w [(sSp, s050)] 1 rfl) (by decide)).mono fun e w' => ?_
  rintro ⟨he, hb⟩
  rw [show nm (gt [(sSp, s050)] sSp).1 = (50, true) from by decide +kernel] at he
  exact ⟨he, ((Below.refl _ w).alloc (Nat.le_refl _) _).trans (hb.mono (by simp))⟩
theorem num_5x (w : World) : Calls Try.prog 17 #[.slice (some ⟨w.heap.size, 0, none⟩) 1 1, .string sSp] (w.alloc (.cells #[.string sSp, .string s5x] 42)) fun e w' => e = .returned (.tuple #[.int .i64 0, .bool false]) ∧ Below w.heap.size w w' := by
  refine (number_any sSp (lit_at w [(sSp, s5x)] 1 rfl) (by decide)).mono fun e w' => ?_
  rintro ⟨he, hb⟩
  rw [show nm (gt [(sSp, s5x)] sSp).1 = (0, false) from by decide +kernel] at he
  exact ⟨he, ((Below.refl _ w).alloc (Nat.le_refl _) _).trans (hb.mono (by simp))⟩
theorem same_ab {w : World} {u : Value} (h : TagsAt w u [(sA, s2), (sB, s1)]) : Calls Try.prog 14 #[u, .slice (some ⟨w.heap.size, 0, none⟩) 2 2] (w.alloc (.cells #[.string sA, .string s2, .string sB, .string s1] 42)) fun e w' => e = .returned (.bool true) ∧ Below w.heap.size w w' := by
  refine (samer_any (h.below ((Below.refl _ w).alloc (Nat.le_refl _) _)) (lit_at w [(sA, s2), (sB, s1)] 2 rfl) (by decide)).mono fun e w' => ?_
  rintro ⟨he, q, hq⟩
  rw [decide_eq_true rfl] at he
  exact ⟨he, by rw [hq]; exact below_drewN ((Below.refl _ w).alloc (Nat.le_refl _) _) q⟩
set_option maxRecDepth 100000 in
set_option maxHeartbeats 2000000 in
theorem lives_any (w : World) : Calls Try.prog 9 #[] w fun e w' => e = .returned (.bool true) ∧ Below w.heap.size w w' := by
  go_enter Try.func9, Try.ntmps9
  go_wp2_with fail
  refine (canon_ab w).mono ?_; rintro e w1 ⟨u, rfl, ha, b1⟩
  have A1 := Lib.hid ha; have B1 := Lib.hid b1
  clear ha b1
  go_wp2_with fail
  refine (num_050 w1).mono ?_; rintro e w2 ⟨rfl, b2⟩
  have A2 := Lib.hid (A1.out.below b2); have B2 := Lib.hid (B1.out.trans (b2.mono B1.out.size))
  clear b2
  go_wp2_with fail
  refine (num_5x w2).mono ?_; rintro e w3 ⟨rfl, b3⟩
  have A3 := Lib.hid (A2.out.below b3); have B3 := Lib.hid (B2.out.trans (b3.mono B2.out.size))
  clear b3
  go_wp2_with fail
  refine (same_ab A3.out).mono ?_; rintro e w4 ⟨rfl, b4⟩
  have A4 := Lib.hid (A3.out.below b4); have B4 := Lib.hid (B3.out.trans (b4.mono B3.out.size))
  clear b4
  have CK := Lib.hid (check_any A4.out)
  rw [chk_ab] at CK
  go_wp2_with fail
  refine CK.out.mono ?_; rintro e w5 ⟨rfl, b5⟩
  have B5 := Lib.hid (B4.out.trans (b5.mono B4.out.size))
  clear b5
  go_wp2_with fail
  go_ret
  exact ⟨rfl, B5.out⟩
/- the opening -/
theorem Try.cells42 : Try.prog.cellsOf 42 = 2 := by kernel_rfl
theorem Try.cells9 : Try.prog.cellsOf 9 = 1 := by kernel_rfl
theorem tags_open {H : Type} {enc : TypeId × Value → H} {W : World} {base b0 : Nat} {spare : Nat → Bool} {held : Bool} {r : Reach} {v : Value} {d : DataW H} {p : List MemPlace}
    (hv : Value.okWide Try.prog W r b0 22 v) (h : DataW.Trod enc Try.prog W base spare held 22 v d p) : ∃ l, TagsAt W v l := by
  obtain ⟨a0, len0, cap0, rfl⟩ := okWide_slice Try.underlying22 hv
  obtain ⟨fuel, hf⟩ := h
  rcases Deep.open_slice Try.underlying22 hf with ⟨hcs, _⟩ | ⟨a, len, cap, m, n', D, Pl, hcs, _, hl, hm, hmm, _, hi⟩
  · simp [Value.cells] at hcs
    obtain ⟨rfl, rfl, rfl⟩ := hcs
    exact ⟨[], nil_at _⟩
  · simp [Value.cells] at hcs
    obtain ⟨rfl, rfl, rfl⟩ := hcs
    have hlm : len0 ≤ m := by rw [hmm]; split <;> omega
    have key : ∀ j, j < len0 → ∃ z : Tg, W.cell? (a.add (j * 2)) = some (.string z.1) ∧ W.cell? (a.add (j * 2 + 1)) = some (.string z.2) := by
      intro j hj
      obtain ⟨cs', hc, ht⟩ := hi j (by omega)
      rw [Try.cells42] at hc
      obtain ⟨_, hcl, hat⟩ := World.cells?_some hc
      obtain ⟨z0, z1, n2, _, _, t0, t1⟩ := trod_struct2 Try.underlying42 ht
      obtain ⟨x, ex, _, wx⟩ := DataW.trod_string Try.underlying9 t0
      obtain ⟨y, ey, _, wy⟩ := DataW.trod_string Try.underlying9 t1
      rw [Try.cells9] at ex ey
      match cs', hcl with
      | [q0, q1], _ =>
        simp at ex ey
        subst ex ey
        refine ⟨(x, y), ?_, ?_⟩
        · have := hat 0 (by omega); simpa [Addr.add] using this
        · have := hat 1 (by omega); rw [Deep.add_add] at this; simpa using this
    obtain ⟨g, hg⟩ := Deep.choose_lt key
    have hgl : ∀ j, j < len0 → ((List.range len0).map g).getD j default = g j := fun j hj => by
      rw [List.getD, List.getElem?_eq_getElem (by simpa using hj)]; simp
    refine ⟨(List.range len0).map g, some a, cap0, by simp, fun e => (by cases e), ?_⟩
    by_cases hz : len0 = 0
    · left; rw [hz]; rfl
    · right
      obtain ⟨b, off, spot⟩ := a
      have c0 := (hg 0 (by omega)).1
      have hspot : spot = none := by simpa [Addr.add] using World.cell?_spot c0
      subst hspot
      refine ⟨b, off, rfl, ?_, fun j hj => ?_⟩
      · rw [Addr.add_lit] at c0
        by_cases hb : b < W.heap.size
        · exact hb
        · exfalso
          unfold World.cell? at c0
          simp [Array.getElem?_eq_none (Nat.le_of_not_lt hb)] at c0
      · have hj' : j < len0 := by simpa using hj
        obtain ⟨h1, h2⟩ := hg j hj'
        rw [Addr.add_lit] at h1 h2
        rw [hgl j hj']
        exact ⟨h1, h2⟩
end Go.Proofs.Ytlojecpladckiaa
