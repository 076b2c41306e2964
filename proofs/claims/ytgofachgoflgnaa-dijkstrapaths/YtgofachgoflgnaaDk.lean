/- dijkstra: slices.Reverse; costs of paths. -/
import Derived.Test.YtgofachgoflgnaaDh
namespace Go.Proofs.Ytgofachgoflgnaa
open Go.ChangeShapes Go.WideShapes Go.ChangeAt Go.RowKit Go.Joins Go.Deep

/- i numbers at each end have changed places -/
structure Rev (l c : List Int) (i : Nat) : Prop where
  len : c.length = l.length
  val : ∀ k, k < l.length → c.getD k 0 = if k < i ∨ l.length ≤ k + i then l.getD (l.length - 1 - k) 0 else l.getD k 0
theorem Rev.done {l c : List Int} {i : Nat} (h : Rev l c i) (hi : l.length ≤ 2 * i + 1) : c = l.reverse := by
  apply List.ext_getElem (by rw [h.len, List.length_reverse])
  intro k p q
  have hk : k < l.length := by rw [← h.len]; exact p
  have e := h.val k hk
  rw [List.getElem_reverse]
  have e1 : c[k] = c.getD k 0 := by rw [List.getD, List.getElem?_eq_getElem p]; rfl
  have e2 : ∀ j (hj : j < l.length), l[j] = l.getD j 0 := fun j hj => by rw [List.getD, List.getElem?_eq_getElem hj]; rfl
  rw [e1, e, e2]
  by_cases hc : k < i ∨ l.length ≤ k + i
  · rw [if_pos hc]
  · rw [if_neg hc]
    have : l.length - 1 - k = k := by omega
    rw [this]
theorem Rev.step {l c : List Int} {i j : Nat} (h : Rev l c i) (hj : i + j + 1 = l.length) (hlt : i < j) : Rev l ((c.set i (c.getD j 0)).set j (c.getD i 0)) (i + 1) := by
  have hi : i < c.length := by rw [h.len]; omega
  have hjc : j < (c.set i (c.getD j 0)).length := by rw [List.length_set, h.len]; omega
  refine ⟨by rw [List.length_set, List.length_set]; exact h.len, fun k hk => ?_⟩
  rw [getD_set2 _ _ _ _ hjc, getD_set2 _ _ _ _ hi]
  have vi := h.val i (by omega)
  have vj := h.val j (by omega)
  rw [if_neg (by omega)] at vi vj
  by_cases e1 : j = k
  · rw [if_pos e1, if_pos (by omega), vi]
    have : l.length - 1 - k = i := by omega
    rw [this]
  · rw [if_neg e1]
    by_cases e2 : i = k
    · rw [if_pos e2, if_pos (by omega), vj]
      have : l.length - 1 - k = j := by omega
      rw [this]
    · rw [if_neg e2, h.val k hk]
      by_cases hc : k < i ∨ l.length ≤ k + i
      · rw [if_pos hc, if_pos (by omega)]
      · rw [if_neg hc, if_neg (by omega)]
theorem reverse_nil (w : World) : Calls Try.prog 27 #[.slice none 0 0] w fun e w' => e = .returned (.tuple #[]) ∧ w = w' := by
  go_enter Try.func27, Try.ntmps27
  go_wp2_with fail
  go_loopw [2, 3] (fun s2 s3 wr => s2 = .int .i64 0 ∧ s3 = .int .i64 (-1) ∧ wr = w) (fun _ _ _ => 0)
  case atStart => exact ⟨rfl, rfl, rfl⟩
  case round =>
    obtain ⟨rfl, rfl, rfl⟩ := hrel
    go_wp2_with fail
    go_end0
    exact ⟨rfl, rfl⟩
set_option maxRecDepth 100000 in
set_option maxHeartbeats 4000000 in
theorem reverse_any {w : World} {g n cap : Nat} {l : List Int} (h : Nums w g n cap l) (hn : n ≤ 1048576) : Calls Try.prog 27 #[.slice (some ⟨g, 0, none⟩) n cap] w fun e w' => e = .returned (.tuple #[]) ∧ Nums w' g n cap l.reverse ∧ FrF (fun j => j = g) w w' := by
  have H := Lib.hid h; have HN := Lib.hid hn
  have L := Lib.hid h.len
  have nb1 : (n : Int) ≤ 1048576 := by omega
  have nb0 : (0 : Int) ≤ (n : Int) := by omega
  clear h hn
  go_enter Try.func27, Try.ntmps27
  go_wp2_with fail
  go_loopw [2, 3] (fun s2 s3 wr => ∃ (i : Nat) (j : Int) (c : List Int), s2 = .int .i64 (i : Int) ∧ s3 = .int .i64 j ∧ Hid ((i : Int) + j + 1 = (n : Int) ∧ i ≤ n) ∧ Hid (Nums wr g n cap c) ∧ Hid (Rev l c i) ∧ Hid (FrF (fun j => j = g) w wr)) (fun s2 _ _ => n - (intOf s2).toNat)
  case atStart => exact ⟨0, (n : Int) - 1, l, rfl, rfl, ⟨by omega, Nat.zero_le _⟩, H, ⟨rfl, fun k hk => by rw [if_neg (by omega)]⟩, FrF.refl _ _⟩
  case round =>
    clear H
    obtain ⟨i, jj, c, rfl, rfl, HI, NU, RV, FR⟩ := hrel
    by_cases hlt : (i : Int) < jj
    · obtain ⟨j, rfl⟩ : ∃ j : Nat, jj = (j : Int) := ⟨jj.toNat, by omega⟩
      have hi := HI.out
      have hin : i < n := by omega
      have hjn : j < n := by omega
      obtain ⟨ci, fi⟩ := NU.out.at_ hin
      obtain ⟨cj, fj⟩ := NU.out.at_ hjn
      have RS : Hid (Rev l ((c.set i (c.getD j 0)).set j (c.getD i 0)) (i + 1)) := RV.out.step (by have := L.out; omega) (by omega)
      obtain ⟨x, hx⟩ : ∃ x, c.getD i 0 = x := ⟨_, rfl⟩
      obtain ⟨y, hy⟩ : ∃ y, c.getD j 0 = y := ⟨_, rfl⟩
      rw [hx] at ci
      rw [hy] at cj
      rw [hx, hy] at RS
      obtain ⟨Wa, hWa⟩ : ∃ Wa, wr.setCell ⟨g, i, none⟩ (.int .i64 y) = Wa := ⟨_, rfl⟩
      have na : Nums Wa g n cap (c.set i y) := by rw [← hWa]; exact NU.out.set y
      obtain ⟨caj, faj⟩ := na.at_ hjn
      obtain ⟨ea, hea⟩ : ∃ ea, (c.set i y).getD j 0 = ea := ⟨_, rfl⟩
      rw [hea] at caj
      obtain ⟨Wc, hWc⟩ : ∃ Wc, Wa.setCell ⟨g, j, none⟩ (.int .i64 x) = Wc := ⟨_, rfl⟩
      have NC : Hid (Nums Wc g n cap ((c.set i y).set j x)) := by show Nums _ _ _ _ _; rw [← hWc]; exact na.set x
      have FC : Hid (FrF (fun j => j = g) w Wc) := by
        have f := (FrF.setCell (F := fun j => j = g) wr (a := ⟨g, i, none⟩) rfl (.int .i64 y)).trans (FrF.setCell (F := fun j => j = g) _ (a := ⟨g, j, none⟩) rfl (.int .i64 x)) (fun _ _ h => h)
        rw [hWa, hWc] at f
        exact FR.out.trans f (fun _ _ h => h)
      obtain ⟨i1, hi1⟩ : ∃ i1, i + 1 = i1 := ⟨_, rfl⟩
      have HI1 := Lib.hid hi1
      have i00 : (0 : Int) ≤ (i : Int) := by omega
      have il : (i : Int) < (n : Int) := by omega
      have j00 : (0 : Int) ≤ (j : Int) := by omega
      have jl : (j : Int) < (n : Int) := by omega
      have e1 : (i : Int) + 1 = (i1 : Int) := by omega
      have e2 : IntKind.i64.wrap (i1 : Int) = (i1 : Int) := by rw [IntKind.wrap_i64]; have := HN.out; omega
      have e3 : IntKind.i64.wrap ((j : Int) - 1) = (j : Int) - 1 := by rw [IntKind.wrap_i64]; have := HN.out; omega
      have HIN := Lib.hid hin
      clear hi hin hjn hx hy hea na hi1 NU RV FR
      go_wp2_with fail
      go_region
      all_goals
        go_wp2_with fail
        go_roundw
        case measure => simp [intOf]; have := HI1.out; have := HIN.out; omega
        case rel => exact ⟨i1, (j : Int) - 1, _, rfl, rfl, ⟨by have := HI1.out; have := HI.out; omega, by have := HI1.out; have := HIN.out; omega⟩, NC.out.same rfl, by have h := RS.out; rw [HI1.out] at h; exact h, FC.out.trans (FrF.of_below (F := fun j => j = g) ((Below.refl _ _).drew)) (fun _ _ h => h)⟩
    · have hlt' : jj ≤ (i : Int) := by omega
      have FIN : Hid (c = l.reverse) := RV.out.done (by have h1 := HI.out; have h2 := L.out; omega)
      have NF : Hid (Nums wr g n cap l.reverse) := by have h := NU.out; rw [FIN.out] at h; exact h
      clear NU RV
      go_wp2_with fail
      go_end0
      exact ⟨rfl, NF.out, FR.out⟩
/- the cost and the end of a path -/
def cst (ars : List (Int × Int)) (ws : List Int) : Int → Int → List Int → Option (Int × Int)
  | at_, sum, [] => some (sum, at_)
  | at_, sum, k :: l => if k < 0 ∨ (ars.length : Int) ≤ k ∨ ws.getD k.toNat 0 < 0 ∨ (ars.getD k.toNat (0, 0)).1 ≠ at_ then none else cst ars ws (ars.getD k.toNat (0, 0)).2 (sum + ws.getD k.toNat 0) l
theorem cst_shift (ars : List (Int × Int)) (ws : List Int) : ∀ (l : List Int) (p sum x : Int), cst ars ws p (sum + x) l = (cst ars ws p sum l).map (fun r => (r.1 + x, r.2)) := by
  intro l
  induction l with
  | nil => intro p sum x; rfl
  | cons k l ih =>
    intro p sum x
    rw [cst, cst]
    by_cases h : k < 0 ∨ (ars.length : Int) ≤ k ∨ ws.getD k.toNat 0 < 0 ∨ (ars.getD k.toNat (0, 0)).1 ≠ p
    · rw [if_pos h, if_pos h]; rfl
    · rw [if_neg h, if_neg h, ← ih]
      congr 1; omega
theorem cst_cons {ars : List (Int × Int)} {ws : List Int} {i p u : Nat} {l : List Int} {c r : Int} (hi : i < ars.length) (e : ars.getD i (0, 0) = ((p : Int), (u : Int))) (hw : 0 ≤ ws.getD i 0) (h : cst ars ws (u : Int) 0 l = some (c, r)) : cst ars ws (p : Int) 0 ((i : Int) :: l) = some (c + ws.getD i 0, r) := by
  rw [cst, Int.toNat_natCast, if_neg (by rw [e]; dsimp only; omega), e]
  dsimp only
  rw [cst_shift, h]; rfl
end Go.Proofs.Ytgofachgoflgnaa
