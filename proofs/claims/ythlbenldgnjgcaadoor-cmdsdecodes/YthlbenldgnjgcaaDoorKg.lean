/- cmds: the writer's points. -/
import Derived.Test.YthlbenldgnjgcaaDoorKf
namespace Go.Proofs.YthlbenldgnjgcaaDoor
open Go.ChangeShapes Go.WideShapes Go.ChangeAt Go.RowKit Go.Joins Go.Deep

def stp : List Pt → Pt → List Int
  | [], _ => []
  | p :: l, q => zz (p.1 - q.1) :: zz (p.2 - q.2) :: stp l p
def lastP : List Pt → Pt → Pt
  | [], q => q
  | p :: l, _ => lastP l p
theorem stp_len : ∀ (l : List Pt) (q : Pt), (stp l q).length = 2 * l.length
  | [], _ => rfl
  | p :: l, _ => by rw [stp, List.length_cons, List.length_cons, stp_len l p, List.length_cons]; omega
theorem stp_snoc : ∀ (l : List Pt) (p q : Pt), stp (l ++ [p]) q = stp l q ++ [zz (p.1 - (lastP l q).1), zz (p.2 - (lastP l q).2)]
  | [], _, _ => rfl
  | a :: l, p, q => by rw [List.cons_append, stp, stp, stp_snoc l p a, lastP]; rfl
theorem lastP_snoc : ∀ (l : List Pt) (p q : Pt), lastP (l ++ [p]) q = p
  | [], _, _ => rfl
  | a :: l, p, q => by rw [List.cons_append, lastP]; exact lastP_snoc l p a
theorem lastP_in : ∀ (l : List Pt) (q : Pt), (∀ p ∈ l, inE p) → inE q → inE (lastP l q)
  | [], _, _, h => h
  | a :: l, _, h, _ => lastP_in l a (fun p hp => h p (List.mem_cons_of_mem _ hp)) (h a (by simp))
theorem take_get {l : List Pt} {k : Nat} (h : k < l.length) : l.take (k + 1) = l.take k ++ [l.getD k (0, 0)] := by
  rw [List.take_add_one, List.getElem?_eq_getElem h, List.getD, List.getElem?_eq_getElem h]; rfl
theorem own_drew {w : World} {base e size : Nat} {v : Value} {n : Nat} {xs : List Value} (h : w.ownsRow base e size v n xs) : w.drew.ownsRow base e size v n xs := h
theorem two_newd (w : World) (x y : Value) (t : TypeId) : ∀ j u, [x, y][j]? = some u → (w.alloc (.cells #[x, y] t)).drew.cell? ((⟨w.heap.size, 0, none⟩ : Addr).add j) = some u := by
  intro j u hu
  have r := Row.new w t [x, y]
  have ea : (⟨w.heap.size, 0, none⟩ : Addr).add j = ⟨w.heap.size, 0 + j, none⟩ := Addr.add_lit _ _ _
  rw [ea, Nat.zero_add]
  exact (r.same (W := (w.alloc (.cells #[x, y] t)).drew) rfl).cell hu
theorem step_append_own {P : Program} {ops : Array Oper} {o : Oper} {a : Act} {w : World} {K : Act → World → Prop} {Q : Exit → Act → World → Prop} {E : Prop} (hgd : o.guard = none) (s x : Operand) (t : TypeId)
    (ho : o.op = .call { callee := .builtin .append, args := #[s, x], argTypes := #[t, t] })
    (base : Nat) (e : TypeId) (i : TypeInfo) (z : Value) (size bytes : Nat) (ht : P.underlying t = some (.slice e)) (hi : P.info? e = some i) (hz : i.zero = some z)
    (hsize : i.size = size) (hby : i.bytes = bytes) (hzs : z.cells.size = size) (hsz : 0 < size)
    (v : Value) (n : Nat) (xs : List Value) (hs : a.eval s = v) (hown : w.ownsRow base e size v n xs)
    (ad : Addr) (m c : Nat) (news : List Value) (hx : a.eval x = .slice (some ad) m c) (hl : news.length = m * size) (hnews : ∀ j u, news[j]? = some u → w.cell? (ad.add j) = some u) (h1 : ∀ u ∈ news, u.oneCell' = true)
    (h63 : n + m ≤ maxLen) (hbytes : (n + m) * bytes ≤ 140737488355328) (hbase : base ≤ w.heap.size)
    (h : ∀ v' w', w'.ownsRow base e size v' (n + m) (xs ++ news) → w.grownBy w' v.ownBlock → (v'.ownBlock = v.ownBlock ∨ v'.ownBlock = some w.heap.size) → K (a.put o.dst v') w') :
    if Region.wanted o (yielded ops a.tmps) = true then Oper.wp P o a w K Q else E := by
  have hw : Region.wanted o (yielded ops a.tmps) = true := by simp [Region.wanted, hgd]
  rw [if_pos hw]
  obtain ⟨v', w', hr, h2, h3, _, h5⟩ := run_append_own_at (P := P) w base t o.type e i z size bytes ht hi hz hsize hby hzs hsz v n xs hown ad m c news hl hnews h1 h63 hbytes hbase
  unfold Oper.wp
  simp [execOp, ho, resolve, invoke, builtin, hs, hx, hr, Result.andThen]
  exact h v' w' h2 h3 h5
theorem wst_at {base B : Nat} {w : World} {v : Value} {p : Pt} {O : List Int} (h : Wst base B w v p O) (x y : Int) : Wst base B ((w.setCell ⟨B, 1, none⟩ (.int .i64 x)).setCell ⟨B, 2, none⟩ (.int .i64 y)) v (x, y) O := by
  refine ⟨?_, ?_, h.ne, h.le⟩
  · have := (h.row.set (i := 1) (.int .i64 x)).set (i := 2) (.int .i64 y); simpa using this
  · exact h.own.same (fun g hg => by rw [Below.heap_setCell _ _ _ _ (h.ne g hg), Below.heap_setCell _ _ _ _ (h.ne g hg)])
set_option maxRecDepth 100000 in
set_option maxHeartbeats 8000000 in
theorem points_any {w0 w : World} {B : Nat} {v u : Value} {p : Pt} {O : List Int} {l : List Pt} (hP : PtsAt w0 u l) (b0 : Below w0.heap.size w0 w) (h : Wst w0.heap.size B w v p O) (hl : ∀ x ∈ l, inE x) (hp : inE p) (hO : O.length + 2 * l.length ≤ 1000000) :
    Calls Tryd.prog 18 #[qp B, u] w fun e w' => e = .returned (.tuple #[]) ∧ ∃ v', Wst w0.heap.size B w' v' (lastP l p) (O ++ stp l p) ∧ Below w0.heap.size w w' := by
  obtain ⟨i0, hi0, hz0, hz1, hz2⟩ := info_parts Tryd.info3
  have II := Lib.hid hi0; have Z0 := Lib.hid hz0; have Z1 := Lib.hid hz1; have Z2 := Lib.hid hz2
  clear hi0 hz0 hz1 hz2
  have PP := Lib.hid hP
  obtain ⟨a, cap, rfl, _⟩ := hP.form
  obtain ⟨n, hn⟩ : ∃ n, l.length = n := ⟨_, rfl⟩
  obtain ⟨base, hbase⟩ : ∃ base, w0.heap.size = base := ⟨_, rfl⟩
  rw [hn] at PP ⊢
  rw [hbase] at h b0 ⊢
  have HH := Lib.hid h; have HN := Lib.hid hn; have HB := Lib.hid hbase; have B0 := Lib.hid b0
  have HL := Lib.hid hl; have HP := Lib.hid hp; have HO := Lib.hid hO
  clear hP h hn hbase b0 hl hp hO
  go_enter Tryd.func18, Tryd.ntmps18
  go_wp2_with fail
  go_loopw [8] (fun s wr => ∃ (k : Nat) (v' : Value), k ≤ n ∧ s = .int .i64 (k : Int) ∧ Hid (Wst base B wr v' (lastP (l.take k) p) (O ++ stp (l.take k) p)) ∧ Hid (Below base w wr)) (fun s _ => n - (intOf s).toNat)
  case atStart => exact ⟨0, v, Nat.zero_le _, rfl, (show Wst base B w v p (O ++ []) by rw [List.append_nil]; exact HH.out), Below.refl _ _⟩
  case round =>
    obtain ⟨k, v', hk, rfl, WS, BW⟩ := hrel
    by_cases hkn : k < n
    · obtain ⟨bb, off, rfl, bl, o0, o1⟩ := (PP.out.below (by rw [HB.out]; exact B0.out.trans BW.out)).at_ (j := k) (by rw [HN.out]; exact hkn)
      have TG := Lib.hid (take_get (l := l) (k := k) (by rw [HN.out]; exact hkn))
      have INX : Hid (inE (l.getD k (0, 0))) := HL.out _ (getD_mem (by rw [HN.out]; exact hkn))
      obtain ⟨⟨x, y⟩, hz⟩ : ∃ z, l.getD k (0, 0) = z := ⟨_, rfl⟩
      rw [hz] at o0 o1 TG INX
      dsimp only at o0 o1
      have INP : Hid (inE (lastP (l.take k) p)) := lastP_in _ _ (fun q hq => HL.out q (List.mem_of_mem_take hq)) HP.out
      have SN := Lib.hid (stp_snoc (l.take k) (x, y) p)
      have LN := Lib.hid (lastP_snoc (l.take k) (x, y) p)
      rw [← TG.out] at SN LN
      have LO : Hid ((O ++ stp (l.take k) p).length + 2 ≤ 1000000) := by
        show _ ≤ _
        rw [List.length_append, stp_len, List.length_take]; have := HO.out; have := HN.out; omega
      obtain ⟨⟨pa, pb⟩, hpp⟩ : ∃ z, lastP (l.take k) p = z := ⟨_, rfl⟩
      rw [hpp] at WS INP SN
      obtain ⟨OO, hOO⟩ : ∃ z, O ++ stp (l.take k) p = z := ⟨_, rfl⟩
      rw [hOO] at WS LO
      have SN2 : Hid (O ++ stp (l.take (k + 1)) p = OO ++ [zz (x - pa), zz (y - pb)]) := by
        show _ = _
        rw [SN.out, ← List.append_assoc, hOO]
      obtain ⟨au, cu, hv⟩ := row_form WS.out.own
      obtain ⟨m, hm⟩ : ∃ m, OO.length = m := ⟨_, rfl⟩
      have OW : Hid (wr.ownsRow base 3 1 v' m (nums OO)) := by have := WS.out.own; unfold IOwn at this; rw [hm] at this; exact this
      rw [hm] at hv LO
      have HM := Lib.hid hm
      have ZA : Hid (zzOk (x - pa)) := by have h1 := INX.out; have h2 := INP.out; unfold inE at h1 h2; show zzOk _; unfold zzOk; simp at h1 h2; omega
      have ZB : Hid (zzOk (y - pb)) := by have h1 := INX.out; have h2 := INP.out; unfold inE at h1 h2; show zzOk _; unfold zzOk; simp at h1 h2; omega
      have e5 : IntKind.i64.wrap (x - pa) = x - pa := by rw [IntKind.wrap_i64]; have := ZA.out; unfold zzOk at this; omega
      have e6 : IntKind.i64.wrap (y - pb) = y - pb := by rw [IntKind.wrap_i64]; have := ZB.out; unfold zzOk at this; omega
      obtain ⟨k1, hk1⟩ : ∃ k1, k + 1 = k1 := ⟨_, rfl⟩
      rw [hk1] at SN2 LN
      have HK := Lib.hid hk1
      have k0 : (0 : Int) ≤ (k : Int) := by omega
      have kl : (k : Int) < (n : Int) := by omega
      have e1 : (k : Int) + 1 = (k1 : Int) := by omega
      have e2 : IntKind.i64.wrap (k1 : Int) = (k1 : Int) := by rw [IntKind.wrap_i64]; have := HO.out; have := HN.out; omega
      obtain ⟨xb, hxb⟩ : ∃ xb, wr.heap.size = xb := ⟨_, rfl⟩
      obtain ⟨W2, hW2⟩ : ∃ W2, wr.alloc (.cells #[.int .i64 x, .int .i64 y] 44) = W2 := ⟨_, rfl⟩
      have r2 : Row W2 xb 44 [.int .i64 x, .int .i64 y] := by rw [← hW2, ← hxb]; exact Row.new _ _ _
      have b2 : Below wr.heap.size wr W2 := by rw [← hW2]; exact (Below.refl _ _).alloc (Nat.le_refl _) _
      have x0 := r2.cell (i := 0) rfl; have x1 := r2.cell (i := 1) rfl
      subst hv
      have rB := (WS.out.row).below b2 WS.out.row.lt
      have c0 := rB.cell (i := 0) rfl; have c1 := rB.cell (i := 1) rfl; have c2 := rB.cell (i := 2) rfl
      have B2 := Lib.hid b2; have R2 := Lib.hid r2; have XB := Lib.hid hxb
      clear hz hk1 r2 b2 bl hm hOO hpp rB
      go_wp2_with fail
      --
      have S0 : Hid (∀ W, W = W2.drew → W.cell? ⟨B, 0, none⟩ = some (.slice au m cu) ∧ W.cell? ⟨B, 1, none⟩ = some (.int .i64 pa) ∧ W.cell? ⟨B, 2, none⟩ = some (.int .i64 pb) ∧ W.cell? ⟨xb, 0, none⟩ = some (.int .i64 x) ∧ W.cell? ⟨xb, 1, none⟩ = some (.int .i64 y)) := by
        intro W e0; subst e0
        exact ⟨c0, c1, c2, x0, x1⟩
      have S1 : Hid (∀ W (o : Obj), W = (W2.alloc o).drew → W.cell? ⟨B, 0, none⟩ = some (.slice au m cu) ∧ W.cell? ⟨B, 1, none⟩ = some (.int .i64 pa) ∧ W.cell? ⟨B, 2, none⟩ = some (.int .i64 pb) ∧ W.cell? ⟨xb, 0, none⟩ = some (.int .i64 x) ∧ W.cell? ⟨xb, 1, none⟩ = some (.int .i64 y)) := by
        intro W o e0; subst e0
        have b : Below W2.heap.size W2 (W2.alloc o).drew := ((Below.refl _ _).alloc (Nat.le_refl _) o).drew
        exact ⟨by rw [b.cell (cell_lt c0)]; exact c0, by rw [b.cell (cell_lt c1)]; exact c1, by rw [b.cell (cell_lt c2)]; exact c2, by rw [b.cell (cell_lt x0)]; exact x0, by rw [b.cell (cell_lt x1)]; exact x1⟩
      have OW2 : Hid (W2.ownsRow base 3 1 (.slice au m cu) m (nums OO)) := by rw [← hW2]; exact OW.out.alloc _
      refine wp_region_drop (fun W => W.cell? ⟨B, 0, none⟩ = some (.slice au m cu) ∧ W.cell? ⟨B, 1, none⟩ = some (.int .i64 pa) ∧ W.cell? ⟨B, 2, none⟩ = some (.int .i64 pb) ∧ W.cell? ⟨xb, 0, none⟩ = some (.int .i64 x) ∧ W.cell? ⟨xb, 1, none⟩ = some (.int .i64 y)) 24 (by kernel_rfl) (S0.out _ rfl) (fun hHeld => ?_)
      refine wpAnyD_pure (i := 0) (v := ?_) rfl (by kernel_rfl) (by kernel_rfl) (by kernel_rfl) (by rfl) (fun _ _ _ h => h) (Or.inl ⟨by rfl, ?_⟩) (by assumption) ?_
      rotate_left 1
      · (intro w; first | (go_simp; done) | (go_simp; with_reducible rfl))
      simp only [Act.put, List.getElem_toArray, List.getElem_cons_zero, List.setIfInBounds_toArray, List.set_cons_zero, List.set_cons_succ]
      refine wpAnyD_pure (i := 1) (v := ?_) rfl (by kernel_rfl) (by kernel_rfl) (by kernel_rfl) (by rfl) (fun _ _ _ h => h) (Or.inl ⟨by rfl, ?_⟩) (by assumption) ?_
      rotate_left 1
      · (intro w; first | (go_simp; done) | (go_simp; with_reducible rfl))
      simp only [Act.put, List.getElem_toArray, List.getElem_cons_zero, List.getElem_cons_succ, List.setIfInBounds_toArray, List.set_cons_zero, List.set_cons_succ]
      refine wpAnyD_pure (i := 2) (v := ?_) rfl (by kernel_rfl) (by kernel_rfl) (by kernel_rfl) (by rfl) (fun _ _ _ h => h) (Or.inl ⟨by rfl, ?_⟩) (by assumption) ?_
      rotate_left 1
      · (intro w; first | (go_simp; done) | (go_simp; with_reducible rfl))
      simp only [Act.put, List.getElem_toArray, List.getElem_cons_zero, List.getElem_cons_succ, List.setIfInBounds_toArray, List.set_cons_zero, List.set_cons_succ]
      refine wpAnyD_pure (i := 3) (v := ?_) rfl (by kernel_rfl) (by kernel_rfl) (by kernel_rfl) (by rfl) (fun _ _ _ h => h) (Or.inl ⟨by rfl, ?_⟩) (by assumption) ?_
      rotate_left 1
      · (intro w; first | (go_simp; done) | (go_simp; with_reducible rfl))
      simp only [Act.put, List.getElem_toArray, List.getElem_cons_zero, List.getElem_cons_succ, List.setIfInBounds_toArray, List.set_cons_zero, List.set_cons_succ]
      refine wpAnyD_take (i := 4) (v := ?_) rfl (by kernel_rfl) (by kernel_rfl) (by kernel_rfl) (by kernel_rfl) (fun _ _ _ h => h) (Or.inl ⟨by rfl, ?_⟩) (by assumption) ?_
      rotate_left 1
      · (intro w hSw; (try dsimp only at hSw); first | (go_simp; done) | (go_simp; with_reducible rfl))
      simp only [Act.put, List.getElem_toArray, List.getElem_cons_zero, List.getElem_cons_succ, List.setIfInBounds_toArray, List.set_cons_zero, List.set_cons_succ]
      refine wpAnyD_pure (i := 5) (v := ?_) rfl (by kernel_rfl) (by kernel_rfl) (by kernel_rfl) (by rfl) (fun _ _ _ h => h) (Or.inl ⟨by rfl, ?_⟩) (by assumption) ?_
      rotate_left 1
      · (intro w; first | (go_simp; done) | (go_simp; with_reducible rfl))
      simp only [Act.put, List.getElem_toArray, List.getElem_cons_zero, List.getElem_cons_succ, List.setIfInBounds_toArray, List.set_cons_zero, List.set_cons_succ]
      refine wpAnyD_take (i := 6) (v := ?_) rfl (by kernel_rfl) (by kernel_rfl) (by kernel_rfl) (by kernel_rfl) (fun _ _ _ h => h) (Or.inl ⟨by rfl, ?_⟩) (by assumption) ?_
      rotate_left 1
      · (intro w hSw; (try dsimp only at hSw); first | (go_simp; done) | (go_simp; with_reducible rfl))
      simp only [Act.put, List.getElem_toArray, List.getElem_cons_zero, List.getElem_cons_succ, List.setIfInBounds_toArray, List.set_cons_zero, List.set_cons_succ]
      refine wpAnyD_pure (i := 7) (v := ?_) rfl (by kernel_rfl) (by kernel_rfl) (by kernel_rfl) (by rfl) (fun _ _ _ h => h) (Or.inl ⟨by rfl, ?_⟩) (by assumption) ?_
      rotate_left 1
      · (intro w; first | (go_simp; done) | (go_simp; with_reducible rfl))
      simp only [Act.put, List.getElem_toArray, List.getElem_cons_zero, List.getElem_cons_succ, List.setIfInBounds_toArray, List.set_cons_zero, List.set_cons_succ]
      refine wpAnyD_pure (i := 8) (v := ?_) rfl (by kernel_rfl) (by kernel_rfl) (by kernel_rfl) (by rfl) (fun _ _ _ h => h) (Or.inl ⟨by rfl, ?_⟩) (by assumption) ?_
      rotate_left 1
      · (intro w; first | (go_simp; done) | (go_simp; with_reducible rfl))
      simp only [Act.put, List.getElem_toArray, List.getElem_cons_zero, List.getElem_cons_succ, List.setIfInBounds_toArray, List.set_cons_zero, List.set_cons_succ]
      refine wpAnyD_pure (i := 9) (v := ?_) rfl (by kernel_rfl) (by kernel_rfl) (by kernel_rfl) (by rfl) (fun _ _ _ h => h) (Or.inl ⟨by rfl, ?_⟩) (by assumption) ?_
      rotate_left 1
      · (intro w; first | (go_simp; done) | (go_simp; with_reducible rfl))
      simp only [Act.put, List.getElem_toArray, List.getElem_cons_zero, List.getElem_cons_succ, List.setIfInBounds_toArray, List.set_cons_zero, List.set_cons_succ]
      refine wpAnyD_pure (i := 10) (v := ?_) rfl (by kernel_rfl) (by kernel_rfl) (by kernel_rfl) (by rfl) (fun _ _ _ h => h) (Or.inl ⟨by rfl, ?_⟩) (by assumption) ?_
      rotate_left 1
      · (intro w; first | (go_simp; done) | (go_simp; with_reducible rfl))
      simp only [Act.put, List.getElem_toArray, List.getElem_cons_zero, List.getElem_cons_succ, List.setIfInBounds_toArray, List.set_cons_zero, List.set_cons_succ]
      refine wpAnyD_take (i := 11) (v := ?_) rfl (by kernel_rfl) (by kernel_rfl) (by kernel_rfl) (by kernel_rfl) (fun _ _ _ h => h) (Or.inl ⟨by rfl, ?_⟩) (by assumption) ?_
      rotate_left 1
      · (intro w hSw; (try dsimp only at hSw); first | (go_simp; done) | (go_simp; with_reducible rfl))
      simp only [Act.put, List.getElem_toArray, List.getElem_cons_zero, List.getElem_cons_succ, List.setIfInBounds_toArray, List.set_cons_zero, List.set_cons_succ]
      refine wpAnyD_pure (i := 12) (v := ?_) rfl (by kernel_rfl) (by kernel_rfl) (by kernel_rfl) (by rfl) (fun _ _ _ h => h) (Or.inl ⟨by rfl, ?_⟩) (by assumption) ?_
      rotate_left 1
      · (intro w; first | (go_simp; done) | (go_simp; with_reducible rfl))
      simp only [Act.put, List.getElem_toArray, List.getElem_cons_zero, List.getElem_cons_succ, List.setIfInBounds_toArray, List.set_cons_zero, List.set_cons_succ]
      refine wpAnyD_pure (i := 14) (v := ?_) rfl (by kernel_rfl) (by kernel_rfl) (by kernel_rfl) (by rfl) (fun _ _ _ h => h) (Or.inl ⟨by rfl, ?_⟩) (by assumption) ?_
      rotate_left 1
      · (intro w; first | (go_simp; done) | (go_simp; with_reducible rfl))
      simp only [Act.put, List.getElem_toArray, List.getElem_cons_zero, List.getElem_cons_succ, List.setIfInBounds_toArray, List.set_cons_zero, List.set_cons_succ]
      refine wpAnyD_take (i := 15) (v := ?_) rfl (by kernel_rfl) (by kernel_rfl) (by kernel_rfl) (by kernel_rfl) (fun _ _ _ h => h) (Or.inl ⟨by rfl, ?_⟩) (by assumption) ?_
      rotate_left 1
      · (intro w hSw; (try dsimp only at hSw); first | (go_simp; done) | (go_simp; with_reducible rfl))
      simp only [Act.put, List.getElem_toArray, List.getElem_cons_zero, List.getElem_cons_succ, List.setIfInBounds_toArray, List.set_cons_zero, List.set_cons_succ]
      refine wpAnyD_pure (i := 16) (v := ?_) rfl (by kernel_rfl) (by kernel_rfl) (by kernel_rfl) (by rfl) (fun _ _ _ h => h) (Or.inl ⟨by rfl, ?_⟩) (by assumption) ?_
      rotate_left 1
      · (intro w; first | (go_simp; done) | (go_simp; with_reducible rfl))
      simp only [Act.put, List.getElem_toArray, List.getElem_cons_zero, List.getElem_cons_succ, List.setIfInBounds_toArray, List.set_cons_zero, List.set_cons_succ]
      refine wpAnyD_pure (i := 17) (v := ?_) rfl (by kernel_rfl) (by kernel_rfl) (by kernel_rfl) (by rfl) (fun _ _ _ h => h) (Or.inl ⟨by rfl, ?_⟩) (by assumption) ?_
      rotate_left 1
      · (intro w; first | (go_simp; done) | (go_simp; with_reducible rfl))
      simp only [Act.put, List.getElem_toArray, List.getElem_cons_zero, List.getElem_cons_succ, List.setIfInBounds_toArray, List.set_cons_zero, List.set_cons_succ]
      refine wpAnyD_pure (i := 18) (v := ?_) rfl (by kernel_rfl) (by kernel_rfl) (by kernel_rfl) (by rfl) (fun _ _ _ h => h) (Or.inl ⟨by rfl, ?_⟩) (by assumption) ?_
      rotate_left 1
      · (intro w; first | (go_simp; done) | (go_simp; with_reducible rfl))
      simp only [Act.put, List.getElem_toArray, List.getElem_cons_zero, List.getElem_cons_succ, List.setIfInBounds_toArray, List.set_cons_zero, List.set_cons_succ]
      refine wpAnyD_pure (i := 19) (v := ?_) rfl (by kernel_rfl) (by kernel_rfl) (by kernel_rfl) (by rfl) (fun _ _ _ h => h) (Or.inl ⟨by rfl, ?_⟩) (by assumption) ?_
      rotate_left 1
      · (intro w; first | (go_simp; done) | (go_simp; with_reducible rfl))
      simp only [Act.put, List.getElem_toArray, List.getElem_cons_zero, List.getElem_cons_succ, List.setIfInBounds_toArray, List.set_cons_zero, List.set_cons_succ]
      refine wpAnyD_take (i := 20) (v := ?_) rfl (by kernel_rfl) (by kernel_rfl) (by kernel_rfl) (by kernel_rfl) (fun _ _ _ h => h) (Or.inl ⟨by rfl, ?_⟩) (by assumption) ?_
      rotate_left 1
      · (intro w hSw; (try dsimp only at hSw); first | (go_simp; done) | (go_simp; with_reducible rfl))
      simp only [Act.put, List.getElem_toArray, List.getElem_cons_zero, List.getElem_cons_succ, List.setIfInBounds_toArray, List.set_cons_zero, List.set_cons_succ]
      refine wpAnyD_pure (i := 21) (v := ?_) rfl (by kernel_rfl) (by kernel_rfl) (by kernel_rfl) (by rfl) (fun _ _ _ h => h) (Or.inl ⟨by rfl, ?_⟩) (by assumption) ?_
      rotate_left 1
      · (intro w; first | (go_simp; done) | (go_simp; with_reducible rfl))
      simp only [Act.put, List.getElem_toArray, List.getElem_cons_zero, List.getElem_cons_succ, List.setIfInBounds_toArray, List.set_cons_zero, List.set_cons_succ]
      --
      refine wpAnyD_one (i := 13) (by kernel_rfl) (by decide) rfl (fun K hK => ?_)
      go_simp
      go_wp2_with (go_at_call 24; (with_reducible refine (zig_any _ ZA.out _).mono ?_); rintro en w8 ⟨rfl, rfl⟩)
      refine hK.out _ _ (S0.out _ rfl) (fun _ => ?_)
      clear hK K
      refine wpAnyD_one (i := 22) (by kernel_rfl) (by decide) rfl (fun K hK => ?_)
      go_simp
      go_wp2_with (go_at_call 24; (with_reducible refine (zig_any _ ZB.out _).mono ?_); rintro en w8 ⟨rfl, rfl⟩)
      refine hK.out _ _ (S0.out _ rfl) (fun _ => ?_)
      clear hK K hHeld
      --
      refine wpAnyD_one (i := 23) (by kernel_rfl) (by decide) rfl (fun K hK => ?_)
      go_simp
      refine hK.out _ _ (S1.out _ _ rfl) (fun _ => ?_)
      clear hK K
      refine wpAnyD_drop (by kernel_rfl) rfl (fun K hK => ?_)
      refine step_append_own rfl _ _ 27 rfl base 3 i0 (.int .i64 0) 1 8 Tryd.underlying27 II.out Z0.out Z1.out Z2.out rfl (by decide) (.slice au m cu) m (nums OO) rfl ?_ ⟨W2.heap.size, 0, none⟩ 2 2 [.int .i64 (zz (x - pa)), .int .i64 (zz (y - pb))] rfl rfl (two_newd _ _ _ _) (by simp [Value.oneCell']) (by have := LO.out; unfold maxLen; omega) (by have := LO.out; omega) ?_ ?_
      · exact own_drew (OW2.out.alloc _)
      · have := B2.out.size; have := BW.out.size; have := WS.out.le; have := WS.out.row.lt; show _ ≤ ((W2.alloc _).heap.size); simp; omega
      intro v7 w7 ow gr loc
      --
      have F7 := Lib.hid (wst_app (w := wr) (W := (W2.alloc (.cells #[.int .i64 (zz (x - pa)), .int .i64 (zz (y - pb))] 3)).drew) (xs := [zz (x - pa), zz (y - pb)]) WS.out (((B2.out).alloc B2.out.size _).drew) HM.out rfl gr ow loc)
      have X7 : Hid (Row w7 xb 44 [.int .i64 x, .int .i64 y]) := by
        refine R2.out.same ?_
        rw [gr.block xb (by have := R2.out.lt; show _ < ((W2.alloc _).heap.size); simp; omega) (fun e => by have := (OW.out.lt xb e.symm).2; have := XB.out; omega)]
        exact (((Below.refl W2.heap.size W2).alloc (Nat.le_refl _) _).drew).block xb R2.out.lt
      obtain ⟨a7, c7, hv7⟩ := row_form ow
      subst hv7
      refine hK.out _ _ ?_
      clear hK K ow gr loc c0 c1 c2 x0 x1 hW2
      have d0 := F7.out.1.cell (i := 0) rfl; have fr0 := F7.out.1.fr (i := 0)
      refine wpAny_one (i := 25) (by kernel_rfl) rfl (fun K hK => ?_)
      go_simp
      refine hK.out _ _ ?_
      clear hK K
      refine wpAny_one (i := 26) (by kernel_rfl) rfl (fun K hK => ?_)
      go_simp
      refine hK.out _ _ ?_
      clear hK K
      refine wpAny_one (i := 27) (by kernel_rfl) rfl (fun K hK => ?_)
      go_simp
      refine hK.out _ _ ?_
      clear hK K d0 fr0
      refine wpAny_done (by kernel_rfl) ?_ _
      obtain ⟨W8, hW8⟩ : ∃ W8, w7.setCell ⟨B, 0, none⟩ (.slice a7 (m + 2) c7) = W8 := ⟨_, rfl⟩
      rw [hW8] at F7 ⊢
      have hxB : xb ≠ B := by have := WS.out.row.lt; have := XB.out; omega
      have X8 : Row W8 xb 44 [.int .i64 x, .int .i64 y] := by rw [← hW8]; exact X7.out.other hxB
      have g0 := X8.cell (i := 0) rfl; have g1 := X8.cell (i := 1) rfl
      have d1 := F7.out.2.1.row.cell (i := 1) rfl; have d2 := F7.out.2.1.row.cell (i := 2) rfl
      have fr1 := F7.out.2.1.row.fr (i := 1); have fr2 := F7.out.2.1.row.fr (i := 2)
      clear X8 hW8
      --
      go_wp2_with fail
      --
      go_roundw
      case measure => simp [intOf]; have := HK.out; omega
      case rel => exact ⟨k1, .slice a7 (m + 2) c7, by have := HK.out; omega, rfl, by rw [LN.out, SN2.out]; exact wst_at F7.out.2.1 x y, BW.out.trans (F7.out.2.2.setCell F7.out.2.1.le _ |>.setCell F7.out.2.1.le _)⟩
    · have kl : ¬ (k : Int) < (n : Int) := by omega
      have e : l.take k = l := List.take_of_length_le (by have := HN.out; omega)
      rw [e] at WS
      go_wp2_with fail
      go_end0
      exact ⟨rfl, ⟨_, WS.out⟩, BW.out⟩
end Go.Proofs.YthlbenldgnjgcaaDoor
