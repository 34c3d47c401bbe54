/-
  Package decimal: Round on both sides, and the law DecimalRounds.
-/
import Derived.Test.YtjidjcnjgjmeoaaDoorDecFD
import Derived.Test.YtjidjcnjgjmeoaaDoorDigQ
import Derived.Test.YtjidjcnjgjmeoaaDoorDecK
import Derived.Deep.RegionHeld3
namespace Go.Proofs.YtjidjcnjgjmeoaaDoor.Dec
open Go.RowKit
set_option linter.unusedVariables false
set_option linter.unusedSimpArgs false
open Go.Proofs.YtjidjcnjgjmeoaaDoor.Dig

theorem one_ok : okD false 1 0 := .inr ⟨by decide, by decide, by decide, by decide, by decide⟩
theorem S_one : S 1 = ⟨#[49]⟩ := rfl
set_option maxHeartbeats 1000000 in
theorem rfrom_one (w : World) : Calls Tryd.prog 28 #[.int .i64 1] w fun e w' => e = .returned (.agg #[.bool false, .string ⟨#[49]⟩, .int .i64 0]) ∧ Below w.heap.size w w' := by
  have HA : Hid (∀ w, Calls Tryd.prog 47 #[.int .i64 1] w fun e w' => e = .returned (.string ⟨#[49]⟩) ∧ Below w.heap.size w w') := Lib.hid (fun w => rfromInt_any 1 w (by omega))
  have HM : Hid (∀ w, Calls Tryd.prog 27 #[.bool false, .string ⟨#[49]⟩, .int .i64 0] w fun e w' => e = .returned (.tuple #[.agg #[.bool false, .string ⟨#[49]⟩, .int .i64 0], .int .i64 0]) ∧ Below w.heap.size w w') := Lib.hid (fun w => by
    have h := norm_any false (S 1) 1 0 w (Num_S _) (by decide) (by omega)
    have e := nrm_parts (nrm_ok one_ok)
    refine h.mono fun r w' ⟨he, hb⟩ => ⟨he.trans e, hb⟩)
  have X := DC.new w false ⟨#[]⟩ 0
  have bl : Below w.heap.size w (w.alloc (.cells #[.bool false, .string ⟨#[]⟩, .int .i64 0] 23)) := (Below.refl _ _).alloc (Nat.le_refl _) _
  go_enter Tryd.func28, Tryd.ntmps28
  go_wp2_with (first | (go_at_call 47; (with_reducible refine (HA.out _).mono ?_); rintro e w1 ⟨rfl, hx⟩; have X := X.below hx X.lt; have bl := bl.trans (hx.mono bl.size); clear hx) | (go_at_call 27; (with_reducible refine (HM.out _).mono ?_); rintro e w3 ⟨rfl, hy⟩; have Y := X.below hy X.lt; obtain ⟨x0, x1, x2⟩ := Y.cells; have y0 := Y.fz 0; have y1 := Y.fz 1; have y2 := Y.fz 2; have lt := Y.lt; have bl := bl.trans (hy.mono bl.size); clear hy))
  have Z : DC ((((w3.setCell ⟨w.heap.size, 0, none⟩ (.bool false)).setCell ⟨w.heap.size, 1, none⟩ (.string ⟨#[49]⟩)).setCell ⟨w.heap.size, 2, none⟩ (.int .i64 0)).alloc (.cells #[.bool false, .string ⟨#[49]⟩, .int .i64 0] 23)) w.heap.size false ⟨#[49]⟩ 0 :=
    DC.alloc ((((World.rowIs.set Y 0 _).set 1 _).set 2 _).congr fun i hi => by
      rcases (show i = 0 ∨ i = 1 ∨ i = 2 by omega) with rfl | rfl | rfl <;> rfl) _
  obtain ⟨z0, z1, z2⟩ := Z.cells
  exact bodyPost_ret (v := .agg #[.bool false, .string ⟨#[49]⟩, .int .i64 0]) (by simp [results, Tryd.results28, go_sem, z0, z1, z2]) rfl ⟨rfl, (((bl.setCell (by simp) _).setCell (by simp) _).setCell (by simp) _).alloc (by simp; exact bl.size) _⟩
/-- A decimal, and some result, in blocks of their own. -/
structure T5 (w W : World) (g : Bool) (s : ByteArray) (x : Int) : Prop where
  a : DC W w.heap.size g s x
  c : ∃ g s x, DC W (w.heap.size + 1) g s x
  bel : Below w.heap.size w W
section
variable {w W W' : World} {g : Bool} {s : ByteArray} {x : Int}
theorem T5.d (h : T5 w W g s x) : T5 w W.drew g s x := ⟨h.a.dr, by obtain ⟨_, _, _, hc⟩ := h.c; exact ⟨_, _, _, hc.dr⟩, h.bel.drew⟩
theorem T5.step (hb : Below W.heap.size W W') (h : T5 w W g s x) : T5 w W' g s x :=
  ⟨h.a.below hb h.a.lt, by obtain ⟨_, _, _, hc⟩ := h.c; exact ⟨_, _, _, hc.below hb hc.lt⟩, h.bel.trans (hb.mono h.bel.size)⟩
theorem T5.put (h : T5 w W g s x) (g' : Bool) (s' : ByteArray) (x' : Int) : T5 w (((W.setCell ⟨w.heap.size + 1, 0, none⟩ (.bool g')).setCell ⟨w.heap.size + 1, 1, none⟩ (.string s')).setCell ⟨w.heap.size + 1, 2, none⟩ (.int .i64 x')) g s x := by
  have blk : ∀ k, k ≠ w.heap.size + 1 → (((W.setCell ⟨w.heap.size + 1, 0, none⟩ (.bool g')).setCell ⟨w.heap.size + 1, 1, none⟩ (.string s')).setCell ⟨w.heap.size + 1, 2, none⟩ (.int .i64 x')).heap[k]? = W.heap[k]? := fun k hk => by
    rw [Below.heap_setCell _ _ _ _ hk, Below.heap_setCell _ _ _ _ hk, Below.heap_setCell _ _ _ _ hk]
  obtain ⟨g0, s0, z0, hc⟩ := h.c
  refine ⟨World.rowIs.of_block h.a (blk _ (by omega)), ⟨g', s', x', ?_⟩, ((h.bel.setCell (by simp) _).setCell (by simp) _).setCell (by simp) _⟩
  exact (((World.rowIs.set hc 0 _).set 1 _).set 2 _).congr fun i hi => by
    rcases (show i = 0 ∨ i = 1 ∨ i = 2 by omega) with rfl | rfl | rfl <;> rfl
theorem T5.all (h : T5 w W g s x) : T5 w W g s x ∧ W.cell? ⟨w.heap.size, 0, none⟩ = some (.bool g) ∧ W.cell? ⟨w.heap.size, 1, none⟩ = some (.string s) ∧ W.cell? ⟨w.heap.size, 2, none⟩ = some (.int .i64 x) :=
  ⟨h, h.a.cells.1, h.a.cells.2.1, h.a.cells.2.2⟩
end
set_option maxRecDepth 100000 in
set_option maxHeartbeats 8000000 in
theorem round_any (g : Bool) (n : Nat) (x p m : Int) (w : World) (h : okD g n x) : Calls Tryd.prog 7 #[.agg #[.bool g, .string (S n), .int .i64 x], .int .i64 p, .int .i64 m] w fun e w' => e = retR (quR g n x false 1 0 p m) ∧ Below w.heap.size w w' := by
  have HQ := Lib.hid (fun w => qu_any g n x false 1 0 p m w h one_ok)
  rw [S_one] at HQ
  unfold retR at HQ ⊢
  obtain ⟨ra, rn, rc, rd, hR⟩ : ∃ a b c d, quR g n x false 1 0 p m = (a, b, c, d) := ⟨_, _, _, _, rfl⟩
  rw [hR] at HQ ⊢
  simp only at HQ ⊢
  obtain ⟨rb, hrb⟩ : ∃ b, S rn = b := ⟨_, rfl⟩
  rw [hrb] at HQ ⊢
  clear hR hrb h
  obtain ⟨A, C, bl⟩ := two_new w g (S n) x false ⟨#[]⟩ 0
  go_enter Tryd.func7, Tryd.ntmps7
  go_wp2_with (go_at_call 6; (with_reducible refine (HQ.out _).mono ?_); rintro e w1 ⟨rfl, hX⟩; have C := C.below hX C.lt; have bl := bl.trans (hX.mono bl.size); clear hX; obtain ⟨c0, c1, c2⟩ := C.cells; have y0 := C.fz 0; have y1 := C.fz 1; have y2 := C.fz 2)
  exact bodyPost_ret (v := .tuple #[.agg #[.bool ra, .string rb, .int .i64 rc], .int .i64 rd]) (by simp [results, Tryd.results7, go_sem, c0, c1, c2]) rfl ⟨rfl, ((bl.setCell (by simp) _).setCell (by simp) _).setCell (by simp) _⟩
set_option maxRecDepth 100000 in
set_option maxHeartbeats 8000000 in
theorem rround_any (g : Bool) (n : Nat) (x p m : Int) (w : World) (h : okD g n x) : Calls Tryd.prog 9 #[.agg #[.bool g, .string (S n), .int .i64 x], .int .i64 p, .int .i64 m] w fun e w' => e = retR (quR g n x false 1 0 p m) ∧ Below w.heap.size w w' := by
  have HQ := Lib.hid (fun w => rqu_any g n x false 1 0 p m w h one_ok)
  have HF := Lib.hid rfrom_one
  rw [S_one] at HQ
  unfold retR at HQ ⊢
  obtain ⟨ra, rn, rc, rd, hR⟩ : ∃ a b c d, quR g n x false 1 0 p m = (a, b, c, d) := ⟨_, _, _, _, rfl⟩
  rw [hR] at HQ ⊢
  simp only at HQ ⊢
  obtain ⟨rb, hrb⟩ : ∃ b, S rn = b := ⟨_, rfl⟩
  rw [hrb] at HQ ⊢
  clear hR hrb h
  obtain ⟨A, C, bl⟩ := two_new w g (S n) x false ⟨#[]⟩ 0
  have T : T5 w _ g (S n) x := ⟨A, ⟨_, _, _, C⟩, bl⟩
  obtain ⟨a0, a1, a2⟩ := A.cells
  clear A C bl
  go_enter Tryd.func9, Tryd.ntmps9
  go_wp2
  go_region_held3 (fun (W : World) => T5 w W g (S n) x ∧ W.cell? ⟨w.heap.size, 0, none⟩ = some (.bool g) ∧ W.cell? ⟨w.heap.size, 1, none⟩ = some (.string (S n)) ∧ W.cell? ⟨w.heap.size, 2, none⟩ = some (.int .i64 x)) ((first | (go_split_ands; exact T5.all (by assumption)) | (go_split_ands; exact T5.all (T5.d (by assumption))) | (go_split_ands; exact T5.all (T5.step hX (by assumption))) | (go_split_ands; exact T5.all (T5.put (by assumption) _ _ _)))) (first | (go_at_call 28; (with_reducible refine (HF.out _).mono ?_); rintro e wn ⟨rfl, hX⟩) | (go_at_call 8; (with_reducible refine (HQ.out _).mono ?_); rintro e wn ⟨rfl, hX⟩) | (go_split_ands; obtain ⟨g0, s0, z0, hD⟩ := T5.c (by assumption); obtain ⟨c0, c1, c2⟩ := hD.cells; have y0 := hD.fz 0; have y1 := hD.fz 1; have y2 := hD.fz 2; go_simp))
  rename_i hH
  have bl := hH.1.bel
  clear hH T
  go_wp2
  exact bodyPost_ret (v := .tuple #[.agg #[.bool ra, .string rb, .int .i64 rc], .int .i64 rd]) (by simp [results, Tryd.results9, go_sem, c0, c1, c2]) rfl ⟨rfl, bl⟩
/-- The two cells of an array of two ints. -/
def f2 (p m : Int) : Nat → Value
  | 0 => .int .i64 p
  | _ => .int .i64 m
def IC (w : World) (A : Nat) (p m : Int) : Prop := w.rowIs A 24 2 (f2 p m)
section
variable {w w' : World} {A : Nat} {p m : Int}
theorem IC.cells (h : IC w A p m) : w.cell? ⟨A, 0, none⟩ = some (.int .i64 p) ∧ w.cell? ⟨A, 1, none⟩ = some (.int .i64 m) :=
  ⟨World.rowIs.cell h (by decide), World.rowIs.cell h (by decide)⟩
theorem IC.lt (h : IC w A p m) : A < w.heap.size := World.rowIs.lt h
theorem IC.below {n : Nat} (h : IC w A p m) (hb : Below n w w') (hn : A < n) : IC w' A p m := World.rowIs.of_block h (hb.block A hn)
theorem IC.new (w : World) (p m : Int) : IC (w.alloc (.cells #[.int .i64 p, .int .i64 m] 24)) w.heap.size p m :=
  World.rowIs_alloc w _ 24 (f2 p m) (fun i hi => by
    have hi' : i < 2 := hi
    rcases (show i = 0 ∨ i = 1 by omega) with rfl | rfl <;> rfl)
theorem IC.alloc (h : IC w A p m) (o : Obj) : IC (w.alloc o) A p m := World.rowIs.alloc h o
end
theorem three_new (w : World) (g1 : Bool) (s1 : ByteArray) (x1 : Int) (g2 : Bool) (s2 : ByteArray) (x2 p m : Int) : ∃ W, W = ((w.alloc (.cells #[.bool g1, .string s1, .int .i64 x1] 23)).alloc (.cells #[.bool g2, .string s2, .int .i64 x2] 23)).alloc (.cells #[.int .i64 p, .int .i64 m] 24) ∧ DC W w.heap.size g1 s1 x1 ∧ DC W (w.heap.size + 1) g2 s2 x2 ∧ IC W (w.heap.size + 2) p m ∧ Below w.heap.size w W := by
  obtain ⟨A, B, bl⟩ := two_new w g1 s1 x1 g2 s2 x2
  refine ⟨_, rfl, A.alloc _, B.alloc _, ?_, bl.alloc bl.size _⟩
  have := IC.new ((w.alloc (.cells #[.bool g1, .string s1, .int .i64 x1] 23)).alloc (.cells #[.bool g2, .string s2, .int .i64 x2] 23)) p m
  simpa using this
set_option maxRecDepth 100000 in
set_option maxHeartbeats 8000000 in
theorem rounds_walk (g1 : Bool) (s1 : ByteArray) (x1 : Int) (g2 : Bool) (s2 : ByteArray) (x2 p m : Int) (w : World) (hs1 : s1.size ≤ maxLen) (hs2 : s2.size ≤ maxLen) (hx1 : -9223372036854775808 ≤ x1 ∧ x1 ≤ 9223372036854775807) (hx2 : -9223372036854775808 ≤ x2 ∧ x2 ≤ 9223372036854775807) : Calls Tryd.prog 3 #[.agg #[.bool g1, .string s1, .int .i64 x1], .agg #[.bool g2, .string s2, .int .i64 x2], .agg #[.int .i64 p, .int .i64 m]] w fun e w' => e = .returned (.bool true) ∧ Below w.heap.size w w' := by
  unfold maxLen at hs1 hs2
  have HL := Lib.hid lives_any
  have HV1 := Lib.hid (fun w => rdvalid_any g1 s1 x1 w (by omega) hx1)
  have HV2 := Lib.hid (fun w => rdvalid_any g2 s2 x2 w (by omega) hx2)
  obtain ⟨W0, rfl, A, B, I, bl⟩ := three_new w g1 s1 x1 g2 s2 x2 p m
  obtain ⟨i0, i1⟩ := I.cells
  obtain ⟨a0, a1, a2⟩ := A.cells
  obtain ⟨b0, b1, b2⟩ := B.cells
  cases hv1 : vB g1 s1 x1 with
  | false =>
    rw [hv1] at HV1
    clear hv1 HV2
    go_enter Tryd.func3, Tryd.ntmps3
    go_wp2_with (first | (go_at_call 4; ((with_reducible refine (HV1.out _).mono ?_); rintro e wk ⟨rfl, hb⟩; have A := (A.below hb A.lt); have B := (B.below hb B.lt); have I := (I.below hb I.lt); have bl := bl.trans (hb.mono bl.size); clear hb; obtain ⟨a0, a1, a2⟩ := A.cells; obtain ⟨b0, b1, b2⟩ := B.cells; obtain ⟨i0, i1⟩ := I.cells)) | (go_at_call 5; ((with_reducible refine (HL.out _).mono ?_); rintro e wk ⟨rfl, hb⟩; have bl := bl.trans (hb.mono bl.size); clear hb)))
    go_ret
    exact ⟨rfl, bl⟩
  | true =>
    rw [hv1] at HV1
    cases hv2 : vB g2 s2 x2 with
    | false =>
      rw [hv2] at HV2
      clear hv1 hv2
      go_enter Tryd.func3, Tryd.ntmps3
      go_wp2_with (first | (go_at_call 4; first | ((with_reducible refine (HV1.out _).mono ?_); rintro e wk ⟨rfl, hb⟩; have A := (A.below hb A.lt); have B := (B.below hb B.lt); have I := (I.below hb I.lt); have bl := bl.trans (hb.mono bl.size); clear hb; obtain ⟨a0, a1, a2⟩ := A.cells; obtain ⟨b0, b1, b2⟩ := B.cells; obtain ⟨i0, i1⟩ := I.cells) | ((with_reducible refine (HV2.out _).mono ?_); rintro e wk ⟨rfl, hb⟩; have A := (A.below hb A.lt); have B := (B.below hb B.lt); have I := (I.below hb I.lt); have bl := bl.trans (hb.mono bl.size); clear hb; obtain ⟨a0, a1, a2⟩ := A.cells; obtain ⟨b0, b1, b2⟩ := B.cells; obtain ⟨i0, i1⟩ := I.cells)) | (go_at_call 5; ((with_reducible refine (HL.out _).mono ?_); rintro e wk ⟨rfl, hb⟩; have bl := bl.trans (hb.mono bl.size); clear hb)))
      go_ret
      exact ⟨rfl, bl⟩
    | true =>
      rw [hv2] at HV2
      obtain ⟨n1, rfl, h1⟩ := vB_ok hv1
      obtain ⟨n2, rfl, h2⟩ := vB_ok hv2
      have HM := Lib.hid (fun w => qu_any g1 n1 x1 g2 n2 x2 p m w h1 h2)
      have HRM := Lib.hid (fun w => rqu_any g1 n1 x1 g2 n2 x2 p m w h1 h2)
      have HD := Lib.hid (fun w => round_any g1 n1 x1 p m w h1)
      have HRD := Lib.hid (fun w => rround_any g1 n1 x1 p m w h1)
      unfold retR at HM HRM HD HRD
      obtain ⟨pa, pn, pc, pe, hR⟩ : ∃ a b c d, quR g1 n1 x1 g2 n2 x2 p m = (a, b, c, d) := ⟨_, _, _, _, rfl⟩
      obtain ⟨qa, qn, qc, qe, hR2⟩ : ∃ a b c d, quR g1 n1 x1 false 1 0 p m = (a, b, c, d) := ⟨_, _, _, _, rfl⟩
      rw [hR] at HM HRM
      rw [hR2] at HD HRD
      simp only at HM HRM HD HRD
      obtain ⟨pb, hpb⟩ : ∃ b, S pn = b := ⟨_, rfl⟩
      obtain ⟨qb, hqb⟩ : ∃ b, S qn = b := ⟨_, rfl⟩
      rw [hpb] at HM HRM
      rw [hqb] at HD HRD
      clear hv1 hv2 h1 h2 hR hR2 hpb hqb
      go_enter Tryd.func3, Tryd.ntmps3
      go_wp2_with (first | (go_at_call 4; first | ((with_reducible refine (HV1.out _).mono ?_); rintro e wk ⟨rfl, hb⟩; have A := (A.below hb A.lt); have B := (B.below hb B.lt); have I := (I.below hb I.lt); have bl := bl.trans (hb.mono bl.size); clear hb; obtain ⟨a0, a1, a2⟩ := A.cells; obtain ⟨b0, b1, b2⟩ := B.cells; obtain ⟨i0, i1⟩ := I.cells) | ((with_reducible refine (HV2.out _).mono ?_); rintro e wk ⟨rfl, hb⟩; have A := (A.below hb A.lt); have B := (B.below hb B.lt); have I := (I.below hb I.lt); have bl := bl.trans (hb.mono bl.size); clear hb; obtain ⟨a0, a1, a2⟩ := A.cells; obtain ⟨b0, b1, b2⟩ := B.cells; obtain ⟨i0, i1⟩ := I.cells)) | (go_at_call 6; ((with_reducible refine (HM.out _).mono ?_); rintro e wp ⟨rfl, hb⟩; have A := (A.below hb A.lt).alloc (.cells #[.bool pa, .string pb, .int .i64 pc] 23); have B := (B.below hb B.lt).alloc (.cells #[.bool pa, .string pb, .int .i64 pc] 23); have I := (I.below hb I.lt).alloc (.cells #[.bool pa, .string pb, .int .i64 pc] 23); have Xp := DC.new wp pa pb pc; have bl := (bl.trans (hb.mono bl.size)).alloc (Nat.le_trans bl.size hb.size) (.cells #[.bool pa, .string pb, .int .i64 pc] 23); clear hb; obtain ⟨a0, a1, a2⟩ := A.cells; obtain ⟨b0, b1, b2⟩ := B.cells; obtain ⟨i0, i1⟩ := I.cells)) | (go_at_call 7; ((with_reducible refine (HD.out _).mono ?_); rintro e wq ⟨rfl, hb⟩; have A := (A.below hb A.lt).alloc (.cells #[.bool qa, .string qb, .int .i64 qc] 23); have B := (B.below hb B.lt).alloc (.cells #[.bool qa, .string qb, .int .i64 qc] 23); have I := (I.below hb I.lt).alloc (.cells #[.bool qa, .string qb, .int .i64 qc] 23); have Xp := (Xp.below hb Xp.lt).alloc (.cells #[.bool qa, .string qb, .int .i64 qc] 23); have Xq := DC.new wq qa qb qc; have bl := (bl.trans (hb.mono bl.size)).alloc (Nat.le_trans bl.size hb.size) (.cells #[.bool qa, .string qb, .int .i64 qc] 23); clear hb; obtain ⟨a0, a1, a2⟩ := A.cells; obtain ⟨b0, b1, b2⟩ := B.cells; obtain ⟨i0, i1⟩ := I.cells; obtain ⟨xp0, xp1, xp2⟩ := Xp.cells)) | (go_at_call 8; ((with_reducible refine (HRM.out _).mono ?_); rintro e wr ⟨rfl, hb⟩; have A := (A.below hb A.lt).alloc (.cells #[.bool pa, .string pb, .int .i64 pc] 23); have B := (B.below hb B.lt).alloc (.cells #[.bool pa, .string pb, .int .i64 pc] 23); have I := (I.below hb I.lt).alloc (.cells #[.bool pa, .string pb, .int .i64 pc] 23); have Xp := (Xp.below hb Xp.lt).alloc (.cells #[.bool pa, .string pb, .int .i64 pc] 23); have Xq := (Xq.below hb Xq.lt).alloc (.cells #[.bool pa, .string pb, .int .i64 pc] 23); have Xr := DC.new wr pa pb pc; have bl := (bl.trans (hb.mono bl.size)).alloc (Nat.le_trans bl.size hb.size) (.cells #[.bool pa, .string pb, .int .i64 pc] 23); clear hb; obtain ⟨a0, a1, a2⟩ := A.cells; obtain ⟨b0, b1, b2⟩ := B.cells; obtain ⟨i0, i1⟩ := I.cells; obtain ⟨xp0, xp1, xp2⟩ := Xp.cells; obtain ⟨xq0, xq1, xq2⟩ := Xq.cells)) | (go_at_call 9; ((with_reducible refine (HRD.out _).mono ?_); rintro e ws ⟨rfl, hb⟩; have A := (A.below hb A.lt).alloc (.cells #[.bool qa, .string qb, .int .i64 qc] 23); have B := (B.below hb B.lt).alloc (.cells #[.bool qa, .string qb, .int .i64 qc] 23); have I := (I.below hb I.lt).alloc (.cells #[.bool qa, .string qb, .int .i64 qc] 23); have Xp := (Xp.below hb Xp.lt).alloc (.cells #[.bool qa, .string qb, .int .i64 qc] 23); have Xq := (Xq.below hb Xq.lt).alloc (.cells #[.bool qa, .string qb, .int .i64 qc] 23); have Xr := (Xr.below hb Xr.lt).alloc (.cells #[.bool qa, .string qb, .int .i64 qc] 23); have Xs := DC.new ws qa qb qc; obtain ⟨xs0, xs1, xs2⟩ := Xs.cells; have bl := (bl.trans (hb.mono bl.size)).alloc (Nat.le_trans bl.size hb.size) (.cells #[.bool qa, .string qb, .int .i64 qc] 23); clear hb; obtain ⟨a0, a1, a2⟩ := A.cells; obtain ⟨b0, b1, b2⟩ := B.cells; obtain ⟨i0, i1⟩ := I.cells; obtain ⟨xp0, xp1, xp2⟩ := Xp.cells; obtain ⟨xq0, xq1, xq2⟩ := Xq.cells; obtain ⟨xr0, xr1, xr2⟩ := Xr.cells)) | (go_at_call 5; ((with_reducible refine (HL.out _).mono ?_); rintro e wk ⟨rfl, hb⟩; have bl := bl.trans (hb.mono bl.size); clear hb)))
      go_ret
      exact ⟨rfl, bl⟩
end Go.Proofs.YtjidjcnjgjmeoaaDoor.Dec
