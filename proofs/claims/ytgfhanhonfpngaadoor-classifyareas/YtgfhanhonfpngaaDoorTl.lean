/- tags: Small and lives; the opening of a row of tags. -/
import Derived.Test.YtgfhanhonfpngaaDoorTj
import Derived.ChangeSame
import Derived.Deep.Slices
import Derived.WalkArith
namespace Go.Proofs.YtgfhanhonfpngaaDoor
open Go.ChangeShapes Go.WideShapes Go.ChangeAt Go.RowKit Go.Joins Go.Deep

open Go.Proofs.TagM Go.Shelf Go.Sort

def SmP (l : List Tg) (w : World) (e : Ending) (w' : World) : Prop := ∃ b, e = .returned (.bool b) ∧ (b = true → l.length ≤ 40) ∧ w' = w
set_option maxRecDepth 100000 in
set_option maxHeartbeats 2000000 in
theorem small_any {w : World} {v : Value} {l : List Tg} (h : TagsAt w v l) : Calls Tryd.prog 7 #[v] w fun e w' => SmP l w e w' := by
  have A0 := Lib.hid h
  obtain ⟨a, cap, rfl, _⟩ := h
  obtain ⟨n, hn⟩ : ∃ n, l.length = n := ⟨_, rfl⟩
  have HN := Lib.hid hn
  rw [hn] at A0 ⊢
  clear hn
  go_enter Tryd.func7, Tryd.ntmps7
  go_wp2_with fail
  go_loopw [3] (fun s wr => ∃ k : Nat, k ≤ n ∧ k ≤ 41 ∧ s = .int .i64 (k : Int) ∧ wr = w) (fun s _ => 41 - (intOf s).toNat)
  case atStart => exact ⟨0, Nat.zero_le _, by omega, rfl, rfl⟩
  case round =>
    obtain ⟨k, hk, hk4, rfl, rfl⟩ := hrel
    by_cases hkn : k < n
    · by_cases hk41 : k < 41
      · obtain ⟨b, off, rfl, hbl, o0, o1⟩ := A0.out.at_ (j := k) (by rw [HN.out]; exact hkn)
        obtain ⟨⟨x, y⟩, hz⟩ : ∃ z, l.getD k default = z := ⟨_, rfl⟩
        rw [hz] at o0 o1
        dsimp only at o0 o1
        obtain ⟨k1, hk1⟩ : ∃ k1, k + 1 = k1 := ⟨_, rfl⟩
        have HK := Lib.hid hk1
        have k0 : (0 : Int) ≤ (k : Int) := by omega
        have kl : (k : Int) < (n : Int) := by omega
        have k4 : (k : Int) < 41 := by omega
        have e1 : (k : Int) + 1 = (k1 : Int) := by omega
        have e2 : IntKind.i64.wrap (k1 : Int) = (k1 : Int) := by rw [IntKind.wrap_i64]; omega
        clear hz hk1 hbl
        by_cases c1 : 200 < (x.size : Int)
        · go_wp2_with fail
          go_ret
          exact ⟨false, rfl, (fun h => by cases h), rfl⟩
        · by_cases c2 : 200 < (y.size : Int)
          · go_wp2_with fail
            go_ret
            exact ⟨false, rfl, (fun h => by cases h), rfl⟩
          · go_wp2_with fail
            go_roundw
            case measure => simp [intOf]; have := HK.out; omega
            case rel => exact ⟨k1, by have := HK.out; omega, by have := HK.out; omega, rfl, by trivial⟩
      · have kl : (k : Int) < (n : Int) := by omega
        have k4 : ¬ (k : Int) < 41 := by omega
        have n4 : ¬ (n : Int) ≤ 40 := by omega
        go_wp2_with fail
        go_ret
        exact ⟨false, rfl, (fun h => by cases h), rfl⟩
    · have kl : ¬ (k : Int) < (n : Int) := by omega
      by_cases n4 : (n : Int) ≤ 40
      · go_wp2_with fail
        go_ret
        exact ⟨true, rfl, (fun _ => by rw [HN.out]; omega), rfl⟩
      · go_wp2_with fail
        go_ret
        exact ⟨false, rfl, (fun h => by cases h), rfl⟩
theorem lit_at (w : World) (l : List Tg) (n : Nat) (hn : l.length = n) : TagsAt (w.alloc (.cells (tcs l).toArray 32)) (.slice (some ⟨w.heap.size, 0, none⟩) n n) l := by
  refine ⟨_, n, by rw [hn], fun e => (by cases e), Or.inr ⟨w.heap.size, 0, rfl, by simp, fun j hj => ?_⟩⟩
  obtain ⟨a1, a2⟩ := tcs_get l j hj
  have r := Row.new w 32 (tcs l)
  rw [Nat.zero_add]
  exact ⟨r.cell a1, r.cell a2⟩
/- the opening -/
theorem Tryd.cells32 : Tryd.prog.cellsOf 32 = 2 := by kernel_rfl
theorem Tryd.cells9 : Tryd.prog.cellsOf 9 = 1 := by kernel_rfl
theorem tags_open {H : Type} {enc : TypeId × Value → H} {W : World} {base b0 : Nat} {spare : Nat → Bool} {held : Bool} {r : Reach} {v : Value} {d : DataW H} {p : List MemPlace}
    (hv : Value.okWide Tryd.prog W r b0 22 v) (h : DataW.Trod enc Tryd.prog W base spare held 22 v d p) : ∃ l, TagsAt W v l := by
  obtain ⟨a0, len0, cap0, rfl⟩ := okWide_slice Tryd.underlying22 hv
  obtain ⟨fuel, hf⟩ := h
  rcases Deep.open_slice Tryd.underlying22 hf with ⟨hcs, _⟩ | ⟨a, len, cap, m, n', D, Pl, hcs, _, hl, hm, hmm, _, hi⟩
  · simp [Value.cells] at hcs
    obtain ⟨rfl, rfl, rfl⟩ := hcs
    exact ⟨[], nil_at _⟩
  · simp [Value.cells] at hcs
    obtain ⟨rfl, rfl, rfl⟩ := hcs
    have hlm : len0 ≤ m := by rw [hmm]; split <;> omega
    have key : ∀ j, j < len0 → ∃ z : Tg, W.cell? (a.add (j * 2)) = some (.string z.1) ∧ W.cell? (a.add (j * 2 + 1)) = some (.string z.2) := by
      intro j hj
      obtain ⟨cs', hc, ht⟩ := hi j (by omega)
      rw [Tryd.cells32] at hc
      obtain ⟨_, hcl, hat⟩ := World.cells?_some hc
      obtain ⟨z0, z1, n2, _, _, t0, t1⟩ := trod_struct2 Tryd.underlying32 ht
      obtain ⟨x, ex, _, wx⟩ := DataW.trod_string Tryd.underlying9 t0
      obtain ⟨y, ey, _, wy⟩ := DataW.trod_string Tryd.underlying9 t1
      rw [Tryd.cells9] at ex ey
      match cs', hcl with
      | [q0, q1], _ =>
        simp at ex ey
        subst ex ey
        refine ⟨(x, y), ?_, ?_⟩
        · have := hat 0 (by omega); simpa [Addr.add] using this
        · have := hat 1 (by omega); rw [Deep.add_add] at this; simpa using this
    obtain ⟨g, hg⟩ := Deep.choose_lt key
    have hgl : ∀ j, j < len0 → ((List.range len0).map g).getD j default = g j := fun j hj => by
      rw [List.getD, List.getElem?_eq_getElem (by simpa using hj)]; simp
    refine ⟨(List.range len0).map g, some a, cap0, by simp, fun e => (by cases e), ?_⟩
    by_cases hz : len0 = 0
    · left; rw [hz]; rfl
    · right
      obtain ⟨b, off, spot⟩ := a
      have c0 := (hg 0 (by omega)).1
      have hspot : spot = none := by simpa [Addr.add] using World.cell?_spot c0
      subst hspot
      refine ⟨b, off, rfl, ?_, fun j hj => ?_⟩
      · rw [Addr.add_lit] at c0
        by_cases hb : b < W.heap.size
        · exact hb
        · exfalso
          unfold World.cell? at c0
          simp [Array.getElem?_eq_none (Nat.le_of_not_lt hb)] at c0
      · have hj' : j < len0 := by simpa using hj
        obtain ⟨h1, h2⟩ := hg j hj'
        rw [Addr.add_lit] at h1 h2
        rw [hgl j hj']
        exact ⟨h1, h2⟩
end Go.Proofs.YtgfhanhonfpngaaDoor

