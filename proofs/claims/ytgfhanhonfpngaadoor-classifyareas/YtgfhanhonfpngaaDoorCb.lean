/- classify: the classes of roads, the program's and the reference's. -/
import Derived.Test.YtgfhanhonfpngaaDoorCa
namespace Go.Proofs.YtgfhanhonfpngaaDoor
open Go.ChangeShapes Go.WideShapes Go.ChangeAt Go.RowKit Go.Joins Go.Deep

open Go.Proofs.TagM Go.Shelf Go.Sort

abbrev sNat : ByteArray := ⟨#[110, 97, 116, 117, 114, 97, 108]⟩
abbrev sWater : ByteArray := ⟨#[119, 97, 116, 101, 114]⟩
abbrev sBld : ByteArray := ⟨#[98, 117, 105, 108, 100, 105, 110, 103]⟩
abbrev sNo : ByteArray := ⟨#[110, 111]⟩
abbrev sLand : ByteArray := ⟨#[108, 97, 110, 100, 117, 115, 101]⟩
abbrev sHw : ByteArray := ⟨#[104, 105, 103, 104, 119, 97, 121]⟩
abbrev sBound : ByteArray := ⟨#[98, 111, 117, 110, 100, 97, 114, 121]⟩
abbrev sPlace : ByteArray := ⟨#[112, 108, 97, 99, 101]⟩
abbrev sRoute : ByteArray := ⟨#[114, 111, 117, 116, 101]⟩
abbrev sFerry : ByteArray := ⟨#[102, 101, 114, 114, 121]⟩
abbrev sArea : ByteArray := ⟨#[97, 114, 101, 97]⟩
abbrev sYes : ByteArray := ⟨#[121, 101, 115]⟩
abbrev sOne : ByteArray := ⟨#[111, 110, 101, 119, 97, 121]⟩
abbrev sM1 : ByteArray := ⟨#[45, 49]⟩
abbrev sName : ByteArray := ⟨#[110, 97, 109, 101]⟩
abbrev sCity : ByteArray := ⟨#[99, 105, 116, 121]⟩
abbrev sTown : ByteArray := ⟨#[116, 111, 119, 110]⟩
abbrev sVil : ByteArray := ⟨#[118, 105, 108, 108, 97, 103, 101]⟩
abbrev s_h1 : ByteArray := ⟨#[109, 111, 116, 111, 114, 119, 97, 121]⟩
abbrev s_h2 : ByteArray := ⟨#[112, 114, 105, 109, 97, 114, 121]⟩
abbrev s_h3 : ByteArray := ⟨#[115, 101, 99, 111, 110, 100, 97, 114, 121]⟩
abbrev s_h4 : ByteArray := ⟨#[114, 101, 115, 105, 100, 101, 110, 116, 105, 97, 108]⟩
abbrev s_h5 : ByteArray := ⟨#[116, 114, 97, 99, 107]⟩
/- the package's variables -/
def hws : List ByteArray := [s_h1, s_h2, s_h3, s_h4, s_h5]
structure GV (w : World) : Prop where
  a : ∀ i, i < 5 → w.cell? ⟨0, i, none⟩ = some (.string (hws.getD i default))
  b : ∀ i, i < 7 → w.cell? ⟨1, i, none⟩ = some (.int .i64 (([0, 1, 2, 3, 5, 8, 10] : List Int).getD i 0))
  c : w.cell? ⟨2, 0, none⟩ = some (.string sCity) ∧ w.cell? ⟨2, 1, none⟩ = some (.int .i64 0) ∧ w.cell? ⟨2, 2, none⟩ = some (.string sTown) ∧ w.cell? ⟨2, 3, none⟩ = some (.int .i64 3) ∧ w.cell? ⟨2, 4, none⟩ = some (.string sVil) ∧ w.cell? ⟨2, 5, none⟩ = some (.int .i64 5)
  s : 2 < w.heap.size
theorem GV.below {w W : World} (h : GV w) (b : Below w.heap.size w W) : GV W := by
  have hs := h.s
  refine ⟨fun i hi => ?_, fun i hi => ?_, ?_, by have := b.size; omega⟩
  · rw [b.cell (by show 0 < _; omega)]; exact h.a i hi
  · rw [b.cell (by show 1 < _; omega)]; exact h.b i hi
  · obtain ⟨c0, c1, c2, c3, c4, c5⟩ := h.c
    refine ⟨?_, ?_, ?_, ?_, ?_, ?_⟩ <;> rw [b.cell (by show 2 < _; omega)] <;> assumption
/- the class that a value of highway has -/
def hwI : List ByteArray → Int → ByteArray → Int
  | [], _, _ => 0
  | s :: l, i, h => if s = h then i + 1 else hwI l (i + 1) h
def cls (l : List Tg) : Int := if hasB l sHw = false ∧ isB l sRoute sFerry = true then 6 else hwI hws 0 (gt l sHw).1
theorem ix0 (w : World) : Sem.run Tryd.prog (Instr.index 37 (.agg #[.string s_h1, .string s_h2, .string s_h3, .string s_h4, .string s_h5]) (.int .i64 0)) w = .ok (.string s_h1) w := by rfl
theorem ix1 (w : World) : Sem.run Tryd.prog (Instr.index 37 (.agg #[.string s_h1, .string s_h2, .string s_h3, .string s_h4, .string s_h5]) (.int .i64 1)) w = .ok (.string s_h2) w := by rfl
theorem ix2 (w : World) : Sem.run Tryd.prog (Instr.index 37 (.agg #[.string s_h1, .string s_h2, .string s_h3, .string s_h4, .string s_h5]) (.int .i64 2)) w = .ok (.string s_h3) w := by rfl
theorem ix3 (w : World) : Sem.run Tryd.prog (Instr.index 37 (.agg #[.string s_h1, .string s_h2, .string s_h3, .string s_h4, .string s_h5]) (.int .i64 3)) w = .ok (.string s_h4) w := by rfl
theorem ix4 (w : World) : Sem.run Tryd.prog (Instr.index 37 (.agg #[.string s_h1, .string s_h2, .string s_h3, .string s_h4, .string s_h5]) (.int .i64 4)) w = .ok (.string s_h5) w := by rfl
set_option maxRecDepth 100000 in
set_option maxHeartbeats 4000000 in
theorem class_any {w : World} {v : Value} {l : List Tg} (h : TagsAt w v l) (g : GV w) (hl : l.length ≤ 1000000) : Calls Tryd.prog 15 #[v] w fun e w' => e = .returned (.int .i64 (cls l)) ∧ Below w.heap.size w w' := by
  have HG := Lib.hid (get_any sHw h hl)
  have A0 := Lib.hid h; have HL := Lib.hid hl; have G0 := Lib.hid g
  have V0 := Lib.hid (show cls l = if hasB l sHw = false ∧ isB l sRoute sFerry = true then 6 else hwI hws 0 (gt l sHw).1 from rfl)
  obtain ⟨a, cap, rfl, _⟩ := h
  have HS := Lib.hid (show hasB l sHw = (gt l sHw).2 from rfl)
  obtain ⟨⟨hv, ok⟩, hs⟩ : ∃ z, gt l sHw = z := ⟨_, rfl⟩
  rw [hs] at HG V0 HS
  dsimp only at HG V0 HS
  obtain ⟨n, hn⟩ : ∃ n, l.length = n := ⟨_, rfl⟩
  rw [hn] at HG A0 ⊢
  have IS := Lib.hid (fun W (b : Below w.heap.size w W) => is_any sRoute sFerry (A0.out.below b) HL.out)
  clear hs hn hl g
  cases ok with
  | true =>
    have V := Lib.hid (V0.out.trans (if_neg (by rw [HS.out]; simp)))
    clear V0 HS
    go_enter Tryd.func15, Tryd.ntmps15
    go_wp2_with fail
    refine HG.out.mono ?_; rintro e w2 ⟨rfl, b⟩
    have B2 := Lib.hid b
    have GG2 := G0.out.below b
    have c0 := GG2.a 0 (by decide); have c1 := GG2.a 1 (by decide); have c2 := GG2.a 2 (by decide); have c3 := GG2.a 3 (by decide); have c4 := GG2.a 4 (by decide)
    simp only [hws, List.getD_cons_zero, List.getD_cons_succ] at c0 c1 c2 c3 c4
    clear b GG2
    go_wp2_with fail
    clear c0 c1 c2 c3 c4
    go_loopw [19] (fun s wr => ∃ k : Nat, k ≤ 5 ∧ s = .int .i64 (k : Int) ∧ Hid (hwI hws 0 hv = hwI (hws.drop k) (k : Int) hv) ∧ wr = w2) (fun s _ => 5 - (intOf s).toNat)
    case atStart => exact ⟨0, by decide, rfl, rfl, rfl⟩
    case round =>
      obtain ⟨k, hk, rfl, GG, rfl⟩ := hrel
      have hk5 : k = 0 ∨ k = 1 ∨ k = 2 ∨ k = 3 ∨ k = 4 ∨ k = 5 := by omega
      rcases hk5 with rfl | rfl | rfl | rfl | rfl | rfl
      · by_cases hx : s_h1 = hv
        · have F := Lib.hid (V.out.trans (GG.out.trans (show hwI (hws.drop 0) (0 : Int) hv = 1 from if_pos hx)))
          have IX := ix0
          subst hx
          clear GG hk
          go_wp2_with fail
          go_ret
          exact ⟨by rw [F.out]; rfl, B2.out⟩
        · have h1 : ([109, 111, 116, 111, 114, 119, 97, 121] == hv.toList) = false := by rw [show ([109, 111, 116, 111, 114, 119, 97, 121] : List UInt8) = s_h1.toList from by simp]; exact str_ne hx
          have G2 : Hid (hwI hws 0 hv = hwI (hws.drop 1) (1 : Int) hv) := GG.out.trans (show hwI (hws.drop 0) (0 : Int) hv = _ from if_neg hx)
          have IX := ix0
          clear GG hk hx
          go_wp2_with fail
          go_roundw
          case measure => simp [intOf]
          case rel => exact ⟨1, by decide, rfl, G2, by trivial⟩
      · by_cases hx : s_h2 = hv
        · have F := Lib.hid (V.out.trans (GG.out.trans (show hwI (hws.drop 1) (1 : Int) hv = 2 from if_pos hx)))
          have IX := ix1
          subst hx
          clear GG hk
          go_wp2_with fail
          go_ret
          exact ⟨by rw [F.out]; rfl, B2.out⟩
        · have h1 : ([112, 114, 105, 109, 97, 114, 121] == hv.toList) = false := by rw [show ([112, 114, 105, 109, 97, 114, 121] : List UInt8) = s_h2.toList from by simp]; exact str_ne hx
          have G2 : Hid (hwI hws 0 hv = hwI (hws.drop 2) (2 : Int) hv) := GG.out.trans (show hwI (hws.drop 1) (1 : Int) hv = _ from if_neg hx)
          have IX := ix1
          clear GG hk hx
          go_wp2_with fail
          go_roundw
          case measure => simp [intOf]
          case rel => exact ⟨2, by decide, rfl, G2, by trivial⟩
      · by_cases hx : s_h3 = hv
        · have F := Lib.hid (V.out.trans (GG.out.trans (show hwI (hws.drop 2) (2 : Int) hv = 3 from if_pos hx)))
          have IX := ix2
          subst hx
          clear GG hk
          go_wp2_with fail
          go_ret
          exact ⟨by rw [F.out]; rfl, B2.out⟩
        · have h1 : ([115, 101, 99, 111, 110, 100, 97, 114, 121] == hv.toList) = false := by rw [show ([115, 101, 99, 111, 110, 100, 97, 114, 121] : List UInt8) = s_h3.toList from by simp]; exact str_ne hx
          have G2 : Hid (hwI hws 0 hv = hwI (hws.drop 3) (3 : Int) hv) := GG.out.trans (show hwI (hws.drop 2) (2 : Int) hv = _ from if_neg hx)
          have IX := ix2
          clear GG hk hx
          go_wp2_with fail
          go_roundw
          case measure => simp [intOf]
          case rel => exact ⟨3, by decide, rfl, G2, by trivial⟩
      · by_cases hx : s_h4 = hv
        · have F := Lib.hid (V.out.trans (GG.out.trans (show hwI (hws.drop 3) (3 : Int) hv = 4 from if_pos hx)))
          have IX := ix3
          subst hx
          clear GG hk
          go_wp2_with fail
          go_ret
          exact ⟨by rw [F.out]; rfl, B2.out⟩
        · have h1 : ([114, 101, 115, 105, 100, 101, 110, 116, 105, 97, 108] == hv.toList) = false := by rw [show ([114, 101, 115, 105, 100, 101, 110, 116, 105, 97, 108] : List UInt8) = s_h4.toList from by simp]; exact str_ne hx
          have G2 : Hid (hwI hws 0 hv = hwI (hws.drop 4) (4 : Int) hv) := GG.out.trans (show hwI (hws.drop 3) (3 : Int) hv = _ from if_neg hx)
          have IX := ix3
          clear GG hk hx
          go_wp2_with fail
          go_roundw
          case measure => simp [intOf]
          case rel => exact ⟨4, by decide, rfl, G2, by trivial⟩
      · by_cases hx : s_h5 = hv
        · have F := Lib.hid (V.out.trans (GG.out.trans (show hwI (hws.drop 4) (4 : Int) hv = 5 from if_pos hx)))
          have IX := ix4
          subst hx
          clear GG hk
          go_wp2_with fail
          go_ret
          exact ⟨by rw [F.out]; rfl, B2.out⟩
        · have h1 : ([116, 114, 97, 99, 107] == hv.toList) = false := by rw [show ([116, 114, 97, 99, 107] : List UInt8) = s_h5.toList from by simp]; exact str_ne hx
          have G2 : Hid (hwI hws 0 hv = hwI (hws.drop 5) (5 : Int) hv) := GG.out.trans (show hwI (hws.drop 4) (4 : Int) hv = _ from if_neg hx)
          have IX := ix4
          clear GG hk hx
          go_wp2_with fail
          go_roundw
          case measure => simp [intOf]
          case rel => exact ⟨5, by decide, rfl, G2, by trivial⟩
      · have F := Lib.hid (V.out.trans (GG.out.trans (show hwI (hws.drop 5) (5 : Int) hv = 0 from rfl)))
        clear GG hk
        go_wp2_with fail
        go_ret
        exact ⟨by rw [F.out]; rfl, B2.out⟩
  | false =>
    cases hf : isB l sRoute sFerry with
    | true =>
      have V := Lib.hid (V0.out.trans (if_pos ⟨HS.out, hf⟩))
      rw [hf] at IS
      clear V0 HS hf
      go_enter Tryd.func15, Tryd.ntmps15
      go_wp2_with fail
      refine HG.out.mono ?_; rintro e w2 ⟨rfl, b⟩
      have B2 := Lib.hid b
      clear b
      go_wp2_with fail
      refine (IS.out _ B2.out).mono ?_; rintro e w3 ⟨rfl, b⟩
      have B3 := Lib.hid (B2.out.trans (b.mono B2.out.size))
      clear b
      go_wp2_with fail
      go_ret
      exact ⟨by rw [V.out]; rfl, B3.out⟩
    | false =>
      have V := Lib.hid (V0.out.trans (if_neg (by rw [hf]; simp)))
      rw [hf] at IS
      clear V0 HS hf
      go_enter Tryd.func15, Tryd.ntmps15
      go_wp2_with fail
      refine HG.out.mono ?_; rintro e w1 ⟨rfl, b⟩
      have B1 := Lib.hid b
      clear b
      go_wp2_with fail
      refine (IS.out _ B1.out).mono ?_; rintro e w2 ⟨rfl, b⟩
      have B2 := Lib.hid (B1.out.trans (b.mono B1.out.size))
      have GG2 := G0.out.below B2.out
      have c0 := GG2.a 0 (by decide); have c1 := GG2.a 1 (by decide); have c2 := GG2.a 2 (by decide); have c3 := GG2.a 3 (by decide); have c4 := GG2.a 4 (by decide)
      simp only [hws, List.getD_cons_zero, List.getD_cons_succ] at c0 c1 c2 c3 c4
      clear b GG2 B1
      go_wp2_with fail
      clear c0 c1 c2 c3 c4
      go_loopw [19] (fun s wr => ∃ k : Nat, k ≤ 5 ∧ s = .int .i64 (k : Int) ∧ Hid (hwI hws 0 hv = hwI (hws.drop k) (k : Int) hv) ∧ wr = w2) (fun s _ => 5 - (intOf s).toNat)
      case atStart => exact ⟨0, by decide, rfl, rfl, rfl⟩
      case round =>
        obtain ⟨k, hk, rfl, GG, rfl⟩ := hrel
        have hk5 : k = 0 ∨ k = 1 ∨ k = 2 ∨ k = 3 ∨ k = 4 ∨ k = 5 := by omega
        rcases hk5 with rfl | rfl | rfl | rfl | rfl | rfl
        · by_cases hx : s_h1 = hv
          · have F := Lib.hid (V.out.trans (GG.out.trans (show hwI (hws.drop 0) (0 : Int) hv = 1 from if_pos hx)))
            have IX := ix0
            subst hx
            clear GG hk
            go_wp2_with fail
            go_ret
            exact ⟨by rw [F.out]; rfl, B2.out⟩
          · have h1 : ([109, 111, 116, 111, 114, 119, 97, 121] == hv.toList) = false := by rw [show ([109, 111, 116, 111, 114, 119, 97, 121] : List UInt8) = s_h1.toList from by simp]; exact str_ne hx
            have G2 : Hid (hwI hws 0 hv = hwI (hws.drop 1) (1 : Int) hv) := GG.out.trans (show hwI (hws.drop 0) (0 : Int) hv = _ from if_neg hx)
            have IX := ix0
            clear GG hk hx
            go_wp2_with fail
            go_roundw
            case measure => simp [intOf]
            case rel => exact ⟨1, by decide, rfl, G2, by trivial⟩
        · by_cases hx : s_h2 = hv
          · have F := Lib.hid (V.out.trans (GG.out.trans (show hwI (hws.drop 1) (1 : Int) hv = 2 from if_pos hx)))
            have IX := ix1
            subst hx
            clear GG hk
            go_wp2_with fail
            go_ret
            exact ⟨by rw [F.out]; rfl, B2.out⟩
          · have h1 : ([112, 114, 105, 109, 97, 114, 121] == hv.toList) = false := by rw [show ([112, 114, 105, 109, 97, 114, 121] : List UInt8) = s_h2.toList from by simp]; exact str_ne hx
            have G2 : Hid (hwI hws 0 hv = hwI (hws.drop 2) (2 : Int) hv) := GG.out.trans (show hwI (hws.drop 1) (1 : Int) hv = _ from if_neg hx)
            have IX := ix1
            clear GG hk hx
            go_wp2_with fail
            go_roundw
            case measure => simp [intOf]
            case rel => exact ⟨2, by decide, rfl, G2, by trivial⟩
        · by_cases hx : s_h3 = hv
          · have F := Lib.hid (V.out.trans (GG.out.trans (show hwI (hws.drop 2) (2 : Int) hv = 3 from if_pos hx)))
            have IX := ix2
            subst hx
            clear GG hk
            go_wp2_with fail
            go_ret
            exact ⟨by rw [F.out]; rfl, B2.out⟩
          · have h1 : ([115, 101, 99, 111, 110, 100, 97, 114, 121] == hv.toList) = false := by rw [show ([115, 101, 99, 111, 110, 100, 97, 114, 121] : List UInt8) = s_h3.toList from by simp]; exact str_ne hx
            have G2 : Hid (hwI hws 0 hv = hwI (hws.drop 3) (3 : Int) hv) := GG.out.trans (show hwI (hws.drop 2) (2 : Int) hv = _ from if_neg hx)
            have IX := ix2
            clear GG hk hx
            go_wp2_with fail
            go_roundw
            case measure => simp [intOf]
            case rel => exact ⟨3, by decide, rfl, G2, by trivial⟩
        · by_cases hx : s_h4 = hv
          · have F := Lib.hid (V.out.trans (GG.out.trans (show hwI (hws.drop 3) (3 : Int) hv = 4 from if_pos hx)))
            have IX := ix3
            subst hx
            clear GG hk
            go_wp2_with fail
            go_ret
            exact ⟨by rw [F.out]; rfl, B2.out⟩
          · have h1 : ([114, 101, 115, 105, 100, 101, 110, 116, 105, 97, 108] == hv.toList) = false := by rw [show ([114, 101, 115, 105, 100, 101, 110, 116, 105, 97, 108] : List UInt8) = s_h4.toList from by simp]; exact str_ne hx
            have G2 : Hid (hwI hws 0 hv = hwI (hws.drop 4) (4 : Int) hv) := GG.out.trans (show hwI (hws.drop 3) (3 : Int) hv = _ from if_neg hx)
            have IX := ix3
            clear GG hk hx
            go_wp2_with fail
            go_roundw
            case measure => simp [intOf]
            case rel => exact ⟨4, by decide, rfl, G2, by trivial⟩
        · by_cases hx : s_h5 = hv
          · have F := Lib.hid (V.out.trans (GG.out.trans (show hwI (hws.drop 4) (4 : Int) hv = 5 from if_pos hx)))
            have IX := ix4
            subst hx
            clear GG hk
            go_wp2_with fail
            go_ret
            exact ⟨by rw [F.out]; rfl, B2.out⟩
          · have h1 : ([116, 114, 97, 99, 107] == hv.toList) = false := by rw [show ([116, 114, 97, 99, 107] : List UInt8) = s_h5.toList from by simp]; exact str_ne hx
            have G2 : Hid (hwI hws 0 hv = hwI (hws.drop 5) (5 : Int) hv) := GG.out.trans (show hwI (hws.drop 4) (4 : Int) hv = _ from if_neg hx)
            have IX := ix4
            clear GG hk hx
            go_wp2_with fail
            go_roundw
            case measure => simp [intOf]
            case rel => exact ⟨5, by decide, rfl, G2, by trivial⟩
        · have F := Lib.hid (V.out.trans (GG.out.trans (show hwI (hws.drop 5) (5 : Int) hv = 0 from rfl)))
          clear GG hk
          go_wp2_with fail
          go_ret
          exact ⟨by rw [F.out]; rfl, B2.out⟩
end Go.Proofs.YtgfhanhonfpngaaDoor
