/-
  The law's walk: DecimalSums.
-/
import Derived.Test.YtaldffdakfiecaaGreatDoorDecY
namespace Go.Proofs.YtaldffdakfiecaaGreatDoor.Dec
open Go.RowKit
set_option linter.unusedVariables false
set_option linter.unusedSimpArgs false
open Go.Proofs.YtaldffdakfiecaaGreatDoor.Dig

theorem adds_both (g1 : Bool) (n1 : Nat) (x1 : Int) (g2 : Bool) (n2 : Nat) (x2 : Int) (h1 : okD g1 n1 x1) (h2 : okD g2 n2 x2) : ∃ (a : Bool) (b : ByteArray) (c e : Int),
    (∀ w, Calls Tryz.prog 6 #[.agg #[.bool g1, .string (S n1), .int .i64 x1], .agg #[.bool g2, .string (S n2), .int .i64 x2]] w fun r w' => r = .returned (.tuple #[.agg #[.bool a, .string b, .int .i64 c], .int .i64 e]) ∧ Below w.heap.size w w') ∧
    ∀ w, Calls Tryz.prog 8 #[.agg #[.bool g1, .string (S n1), .int .i64 x1], .agg #[.bool g2, .string (S n2), .int .i64 x2]] w fun r w' => r = .returned (.tuple #[.agg #[.bool a, .string b, .int .i64 c], .int .i64 e]) ∧ Below w.heap.size w w' := by
  exact ⟨_, _, _, _, fun w => dadd_any g1 n1 x1 g2 n2 x2 w h1 h2, fun w => rdadd_any g1 n1 x1 g2 n2 x2 w h1 h2⟩
theorem subs_both (g1 : Bool) (n1 : Nat) (x1 : Int) (g2 : Bool) (n2 : Nat) (x2 : Int) (h1 : okD g1 n1 x1) (h2 : okD g2 n2 x2) : ∃ (a : Bool) (b : ByteArray) (c e : Int),
    (∀ w, Calls Tryz.prog 7 #[.agg #[.bool g1, .string (S n1), .int .i64 x1], .agg #[.bool g2, .string (S n2), .int .i64 x2]] w fun r w' => r = .returned (.tuple #[.agg #[.bool a, .string b, .int .i64 c], .int .i64 e]) ∧ Below w.heap.size w w') ∧
    ∀ w, Calls Tryz.prog 9 #[.agg #[.bool g1, .string (S n1), .int .i64 x1], .agg #[.bool g2, .string (S n2), .int .i64 x2]] w fun r w' => r = .returned (.tuple #[.agg #[.bool a, .string b, .int .i64 c], .int .i64 e]) ∧ Below w.heap.size w w' := by
  exact ⟨_, _, _, _, fun w => dsub_any g1 n1 x1 g2 n2 x2 w h1 h2, fun w => rdsub_any g1 n1 x1 g2 n2 x2 w h1 h2⟩
/-- Six decimals in blocks of their own. -/
structure D6 (w W : World) (a b : Nat) (g1 : Bool) (s1 : ByteArray) (x1 : Int) (g2 : Bool) (s2 : ByteArray) (x2 : Int) (p q r s : Nat) (pa : Bool) (pb : ByteArray) (pc : Int) (qa : Bool) (qb : ByteArray) (qc : Int) : Prop where
  a : DC W a g1 s1 x1
  b : DC W b g2 s2 x2
  p : DC W p pa pb pc
  q : DC W q qa qb qc
  r : DC W r pa pb pc
  s : DC W s qa qb qc
  bel : Below w.heap.size w W
section
variable {w W W' : World} {a b p q r s : Nat} {g1 g2 pa qa : Bool} {s1 s2 pb qb : ByteArray} {x1 x2 pc qc : Int}
theorem D6.d (h : D6 w W a b g1 s1 x1 g2 s2 x2 p q r s pa pb pc qa qb qc) : D6 w W.drew a b g1 s1 x1 g2 s2 x2 p q r s pa pb pc qa qb qc := ⟨h.a.dr, h.b.dr, h.p.dr, h.q.dr, h.r.dr, h.s.dr, h.bel.drew⟩
theorem D6.step (hb : Below W.heap.size W W') (h : D6 w W a b g1 s1 x1 g2 s2 x2 p q r s pa pb pc qa qb qc) : D6 w W' a b g1 s1 x1 g2 s2 x2 p q r s pa pb pc qa qb qc :=
  ⟨h.a.below hb h.a.lt, h.b.below hb h.b.lt, h.p.below hb h.p.lt, h.q.below hb h.q.lt, h.r.below hb h.r.lt, h.s.below hb h.s.lt, h.bel.trans (hb.mono h.bel.size)⟩
theorem D6.all (h : D6 w W a b g1 s1 x1 g2 s2 x2 p q r s pa pb pc qa qb qc) : D6 w W a b g1 s1 x1 g2 s2 x2 p q r s pa pb pc qa qb qc ∧ W.cell? ⟨a, 0, none⟩ = some (.bool g1) ∧ W.cell? ⟨a, 1, none⟩ = some (.string s1) ∧ W.cell? ⟨a, 2, none⟩ = some (.int .i64 x1) ∧ W.cell? ⟨b, 0, none⟩ = some (.bool g2) ∧ W.cell? ⟨b, 1, none⟩ = some (.string s2) ∧ W.cell? ⟨b, 2, none⟩ = some (.int .i64 x2) ∧ W.cell? ⟨p, 0, none⟩ = some (.bool pa) ∧ W.cell? ⟨p, 1, none⟩ = some (.string pb) ∧ W.cell? ⟨p, 2, none⟩ = some (.int .i64 pc) ∧ W.cell? ⟨q, 0, none⟩ = some (.bool qa) ∧ W.cell? ⟨q, 1, none⟩ = some (.string qb) ∧ W.cell? ⟨q, 2, none⟩ = some (.int .i64 qc) ∧ W.cell? ⟨r, 0, none⟩ = some (.bool pa) ∧ W.cell? ⟨r, 1, none⟩ = some (.string pb) ∧ W.cell? ⟨r, 2, none⟩ = some (.int .i64 pc) ∧ W.cell? ⟨s, 0, none⟩ = some (.bool qa) ∧ W.cell? ⟨s, 1, none⟩ = some (.string qb) ∧ W.cell? ⟨s, 2, none⟩ = some (.int .i64 qc) :=
  ⟨h, h.a.cells.1, h.a.cells.2.1, h.a.cells.2.2, h.b.cells.1, h.b.cells.2.1, h.b.cells.2.2, h.p.cells.1, h.p.cells.2.1, h.p.cells.2.2, h.q.cells.1, h.q.cells.2.1, h.q.cells.2.2, h.r.cells.1, h.r.cells.2.1, h.r.cells.2.2, h.s.cells.1, h.s.cells.2.1, h.s.cells.2.2⟩
end
set_option maxRecDepth 100000 in
set_option maxHeartbeats 8000000 in
theorem sums_walk (g1 : Bool) (s1 : ByteArray) (x1 : Int) (g2 : Bool) (s2 : ByteArray) (x2 : Int) (w : World) (hs1 : s1.size ≤ maxLen) (hs2 : s2.size ≤ maxLen) (hx1 : -9223372036854775808 ≤ x1 ∧ x1 ≤ 9223372036854775807) (hx2 : -9223372036854775808 ≤ x2 ∧ x2 ≤ 9223372036854775807) : Calls Tryz.prog 3 #[.agg #[.bool g1, .string s1, .int .i64 x1], .agg #[.bool g2, .string s2, .int .i64 x2]] w fun e w' => e = .returned (.bool true) ∧ Below w.heap.size w w' := by
  unfold maxLen at hs1 hs2
  have HL := Lib.hid lives_any
  have HV1 := Lib.hid (fun w => rdvalid_any g1 s1 x1 w (by omega) hx1)
  have HV2 := Lib.hid (fun w => rdvalid_any g2 s2 x2 w (by omega) hx2)
  obtain ⟨A, B, bl⟩ := two_new w g1 s1 x1 g2 s2 x2
  cases hv1 : vB g1 s1 x1 with
  | false =>
    rw [hv1] at HV1
    clear hv1 HV2
    go_enter Tryz.func3, Tryz.ntmps3
    go_wp2_with (first | (go_at_call 4; ((with_reducible refine (HV1.out _).mono ?_); rintro e wk ⟨rfl, hb⟩; have A := (A.below hb A.lt); have B := (B.below hb B.lt); have bl := bl.trans (hb.mono bl.size); clear hb; obtain ⟨a0, a1, a2⟩ := A.cells; obtain ⟨b0, b1, b2⟩ := B.cells)) | (go_at_call 5; ((with_reducible refine (HL.out _).mono ?_); rintro e wk ⟨rfl, hb⟩; have bl := bl.trans (hb.mono bl.size); clear hb)))
    go_ret
    exact ⟨rfl, bl⟩
  | true =>
    rw [hv1] at HV1
    cases hv2 : vB g2 s2 x2 with
    | false =>
      rw [hv2] at HV2
      clear hv1 hv2
      go_enter Tryz.func3, Tryz.ntmps3
      go_wp2_with (first | (go_at_call 4; first | ((with_reducible refine (HV1.out _).mono ?_); rintro e wk ⟨rfl, hb⟩; have A := (A.below hb A.lt); have B := (B.below hb B.lt); have bl := bl.trans (hb.mono bl.size); clear hb; obtain ⟨a0, a1, a2⟩ := A.cells; obtain ⟨b0, b1, b2⟩ := B.cells) | ((with_reducible refine (HV2.out _).mono ?_); rintro e wk ⟨rfl, hb⟩; have A := (A.below hb A.lt); have B := (B.below hb B.lt); have bl := bl.trans (hb.mono bl.size); clear hb; obtain ⟨a0, a1, a2⟩ := A.cells; obtain ⟨b0, b1, b2⟩ := B.cells)) | (go_at_call 5; ((with_reducible refine (HL.out _).mono ?_); rintro e wk ⟨rfl, hb⟩; have bl := bl.trans (hb.mono bl.size); clear hb)))
      go_ret
      exact ⟨rfl, bl⟩
    | true =>
      rw [hv2] at HV2
      obtain ⟨n1, rfl, h1⟩ := vB_ok hv1
      obtain ⟨n2, rfl, h2⟩ := vB_ok hv2
      obtain ⟨pa, pb, pc, pe, HM, HRM⟩ := adds_both g1 n1 x1 g2 n2 x2 h1 h2
      obtain ⟨qa, qb, qc, qe, HD, HRD⟩ := subs_both g1 n1 x1 g2 n2 x2 h1 h2
      have HM := Lib.hid HM
      have HRM := Lib.hid HRM
      have HD := Lib.hid HD
      have HRD := Lib.hid HRD
      have HC := Lib.hid (fun w => dcmp_any g1 n1 x1 g2 n2 x2 w h1 h2)
      have HRC := Lib.hid (fun w => rdcmp_any g1 n1 x1 g2 n2 x2 w h1 h2)
      generalize dcmp g1 n1 x1 g2 n2 x2 = cc at *
      clear hv1 hv2 h1 h2
      go_enter Tryz.func3, Tryz.ntmps3
      go_wp2_with (first | (go_at_call 4; first | ((with_reducible refine (HV1.out _).mono ?_); rintro e wk ⟨rfl, hb⟩; have A := (A.below hb A.lt); have B := (B.below hb B.lt); have bl := bl.trans (hb.mono bl.size); clear hb; obtain ⟨a0, a1, a2⟩ := A.cells; obtain ⟨b0, b1, b2⟩ := B.cells) | ((with_reducible refine (HV2.out _).mono ?_); rintro e wk ⟨rfl, hb⟩; have A := (A.below hb A.lt); have B := (B.below hb B.lt); have bl := bl.trans (hb.mono bl.size); clear hb; obtain ⟨a0, a1, a2⟩ := A.cells; obtain ⟨b0, b1, b2⟩ := B.cells)) | (go_at_call 6; ((with_reducible refine (HM.out _).mono ?_); rintro e wp ⟨rfl, hb⟩; have A := (A.below hb A.lt).alloc (.cells #[.bool pa, .string pb, .int .i64 pc] 23); have B := (B.below hb B.lt).alloc (.cells #[.bool pa, .string pb, .int .i64 pc] 23); have Xp := DC.new wp pa pb pc; have bl := (bl.trans (hb.mono bl.size)).alloc (Nat.le_trans bl.size hb.size) (.cells #[.bool pa, .string pb, .int .i64 pc] 23); clear hb; obtain ⟨a0, a1, a2⟩ := A.cells; obtain ⟨b0, b1, b2⟩ := B.cells)) | (go_at_call 7; ((with_reducible refine (HD.out _).mono ?_); rintro e wq ⟨rfl, hb⟩; have A := (A.below hb A.lt).alloc (.cells #[.bool qa, .string qb, .int .i64 qc] 23); have B := (B.below hb B.lt).alloc (.cells #[.bool qa, .string qb, .int .i64 qc] 23); have Xp := (Xp.below hb Xp.lt).alloc (.cells #[.bool qa, .string qb, .int .i64 qc] 23); have Xq := DC.new wq qa qb qc; have bl := (bl.trans (hb.mono bl.size)).alloc (Nat.le_trans bl.size hb.size) (.cells #[.bool qa, .string qb, .int .i64 qc] 23); clear hb; obtain ⟨a0, a1, a2⟩ := A.cells; obtain ⟨b0, b1, b2⟩ := B.cells; obtain ⟨xp0, xp1, xp2⟩ := Xp.cells)) | (go_at_call 8; ((with_reducible refine (HRM.out _).mono ?_); rintro e wr ⟨rfl, hb⟩; have A := (A.below hb A.lt).alloc (.cells #[.bool pa, .string pb, .int .i64 pc] 23); have B := (B.below hb B.lt).alloc (.cells #[.bool pa, .string pb, .int .i64 pc] 23); have Xp := (Xp.below hb Xp.lt).alloc (.cells #[.bool pa, .string pb, .int .i64 pc] 23); have Xq := (Xq.below hb Xq.lt).alloc (.cells #[.bool pa, .string pb, .int .i64 pc] 23); have Xr := DC.new wr pa pb pc; have bl := (bl.trans (hb.mono bl.size)).alloc (Nat.le_trans bl.size hb.size) (.cells #[.bool pa, .string pb, .int .i64 pc] 23); clear hb; obtain ⟨a0, a1, a2⟩ := A.cells; obtain ⟨b0, b1, b2⟩ := B.cells; obtain ⟨xp0, xp1, xp2⟩ := Xp.cells; obtain ⟨xq0, xq1, xq2⟩ := Xq.cells)) | (go_at_call 9; ((with_reducible refine (HRD.out _).mono ?_); rintro e ws ⟨rfl, hb⟩; have A := (A.below hb A.lt).alloc (.cells #[.bool qa, .string qb, .int .i64 qc] 23); have B := (B.below hb B.lt).alloc (.cells #[.bool qa, .string qb, .int .i64 qc] 23); have Xp := (Xp.below hb Xp.lt).alloc (.cells #[.bool qa, .string qb, .int .i64 qc] 23); have Xq := (Xq.below hb Xq.lt).alloc (.cells #[.bool qa, .string qb, .int .i64 qc] 23); have Xr := (Xr.below hb Xr.lt).alloc (.cells #[.bool qa, .string qb, .int .i64 qc] 23); have Xs := DC.new ws qa qb qc; have bl := (bl.trans (hb.mono bl.size)).alloc (Nat.le_trans bl.size hb.size) (.cells #[.bool qa, .string qb, .int .i64 qc] 23); clear hb; obtain ⟨a0, a1, a2⟩ := A.cells; obtain ⟨b0, b1, b2⟩ := B.cells; obtain ⟨xp0, xp1, xp2⟩ := Xp.cells; obtain ⟨xq0, xq1, xq2⟩ := Xq.cells; obtain ⟨xr0, xr1, xr2⟩ := Xr.cells)))
      have T6 : D6 w _ w.heap.size (w.heap.size + 1) g1 (S n1) x1 g2 (S n2) x2 wp.heap.size wq.heap.size wr.heap.size ws.heap.size pa pb pc qa qb qc := ⟨A, B, Xp, Xq, Xr, Xs, bl⟩
      clear HM HD HRM HRD
      go_region_held3 (fun (W : World) => D6 w W w.heap.size (w.heap.size + 1) g1 (S n1) x1 g2 (S n2) x2 wp.heap.size wq.heap.size wr.heap.size ws.heap.size pa pb pc qa qb qc ∧ W.cell? ⟨w.heap.size, 0, none⟩ = some (.bool g1) ∧ W.cell? ⟨w.heap.size, 1, none⟩ = some (.string (S n1)) ∧ W.cell? ⟨w.heap.size, 2, none⟩ = some (.int .i64 x1) ∧ W.cell? ⟨w.heap.size + 1, 0, none⟩ = some (.bool g2) ∧ W.cell? ⟨w.heap.size + 1, 1, none⟩ = some (.string (S n2)) ∧ W.cell? ⟨w.heap.size + 1, 2, none⟩ = some (.int .i64 x2) ∧ W.cell? ⟨wp.heap.size, 0, none⟩ = some (.bool pa) ∧ W.cell? ⟨wp.heap.size, 1, none⟩ = some (.string pb) ∧ W.cell? ⟨wp.heap.size, 2, none⟩ = some (.int .i64 pc) ∧ W.cell? ⟨wq.heap.size, 0, none⟩ = some (.bool qa) ∧ W.cell? ⟨wq.heap.size, 1, none⟩ = some (.string qb) ∧ W.cell? ⟨wq.heap.size, 2, none⟩ = some (.int .i64 qc) ∧ W.cell? ⟨wr.heap.size, 0, none⟩ = some (.bool pa) ∧ W.cell? ⟨wr.heap.size, 1, none⟩ = some (.string pb) ∧ W.cell? ⟨wr.heap.size, 2, none⟩ = some (.int .i64 pc) ∧ W.cell? ⟨ws.heap.size, 0, none⟩ = some (.bool qa) ∧ W.cell? ⟨ws.heap.size, 1, none⟩ = some (.string qb) ∧ W.cell? ⟨ws.heap.size, 2, none⟩ = some (.int .i64 qc)) ((first | (go_split_ands; exact D6.all (by assumption)) | (go_split_ands; exact D6.all (D6.d (by assumption))) | (go_split_ands; exact D6.all (D6.step hX (by assumption))))) (first | (go_at_call 10; (with_reducible refine (HC.out _).mono ?_); rintro e wn ⟨rfl, hX⟩) | (go_at_call 11; (with_reducible refine (HRC.out _).mono ?_); rintro e wn ⟨rfl, hX⟩) | (go_at_call 5; (with_reducible refine (HL.out _).mono ?_); rintro e wn ⟨rfl, hX⟩))
      rename_i hH
      have bl9 := hH.1.bel
      clear hH
      go_wp2
      go_ret
      exact ⟨rfl, bl9⟩
end Go.Proofs.YtaldffdakfiecaaGreatDoor.Dec
