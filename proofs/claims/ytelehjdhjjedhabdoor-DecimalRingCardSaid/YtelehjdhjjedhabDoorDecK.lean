/-
  The law's walk: DecimalProducts.
-/
import Derived.Test.YtelehjdhjjedhabDoorDecJ
namespace Go.Proofs.YtelehjdhjjedhabDoor.Dec
open Go.RowKit
set_option linter.unusedVariables false
set_option linter.unusedSimpArgs false
open Go.Proofs.YtelehjdhjjedhabDoor.Dig

theorem muls_both (g1 : Bool) (n1 : Nat) (x1 : Int) (g2 : Bool) (n2 : Nat) (x2 : Int) (h1 : okD g1 n1 x1) (h2 : okD g2 n2 x2) : ∃ (a : Bool) (b : ByteArray) (c e : Int),
    (∀ w, Calls Tryd.prog 10 #[.agg #[.bool g1, .string (S n1), .int .i64 x1], .agg #[.bool g2, .string (S n2), .int .i64 x2]] w fun r w' => r = .returned (.tuple #[.agg #[.bool a, .string b, .int .i64 c], .int .i64 e]) ∧ Below w.heap.size w w') ∧
    ∀ w, Calls Tryd.prog 12 #[.agg #[.bool g1, .string (S n1), .int .i64 x1], .agg #[.bool g2, .string (S n2), .int .i64 x2]] w fun r w' => r = .returned (.tuple #[.agg #[.bool a, .string b, .int .i64 c], .int .i64 e]) ∧ Below w.heap.size w w' := by
  exact ⟨_, _, _, _, fun w => dmul_any g1 n1 x1 g2 n2 x2 w h1 h2, fun w => rdmul_any g1 n1 x1 g2 n2 x2 w h1 h2⟩
theorem divs_both (g1 : Bool) (n1 : Nat) (x1 : Int) (g2 : Bool) (n2 : Nat) (x2 : Int) (h1 : okD g1 n1 x1) (h2 : okD g2 n2 x2) : ∃ (a : Bool) (b : ByteArray) (c e : Int),
    (∀ w, Calls Tryd.prog 11 #[.agg #[.bool g1, .string (S n1), .int .i64 x1], .agg #[.bool g2, .string (S n2), .int .i64 x2]] w fun r w' => r = .returned (.tuple #[.agg #[.bool a, .string b, .int .i64 c], .int .i64 e]) ∧ Below w.heap.size w w') ∧
    ∀ w, Calls Tryd.prog 13 #[.agg #[.bool g1, .string (S n1), .int .i64 x1], .agg #[.bool g2, .string (S n2), .int .i64 x2]] w fun r w' => r = .returned (.tuple #[.agg #[.bool a, .string b, .int .i64 c], .int .i64 e]) ∧ Below w.heap.size w w' := by
  rcases Nat.eq_zero_or_pos n2 with hn | hn
  · exact ⟨_, _, _, _, fun w => ddiv_zero g1 n1 x1 g2 n2 x2 w h1 h2 hn, fun w => rddiv_zero g1 n1 x1 g2 n2 x2 w h1 h2 hn⟩
  obtain ⟨k, hk⟩ : ∃ k : Nat, k = 400 := ⟨_, rfl⟩
  by_cases hr : n1 * 10 ^ k % n2 = 0
  · exact ⟨_, _, _, _, fun w => ddiv_yes g1 n1 x1 g2 n2 x2 w h1 h2 k hk hn hr, fun w => rddiv_yes g1 n1 x1 g2 n2 x2 w h1 h2 k hk hn hr⟩
  · exact ⟨_, _, _, _, fun w => ddiv_no g1 n1 x1 g2 n2 x2 w h1 h2 k hk hn hr, fun w => rddiv_no g1 n1 x1 g2 n2 x2 w h1 h2 k hk hn hr⟩
/-- Two decimals that came in, in blocks of their own. -/
theorem two_new (w : World) (g1 : Bool) (s1 : ByteArray) (x1 : Int) (g2 : Bool) (s2 : ByteArray) (x2 : Int) : DC ((w.alloc (.cells #[.bool g1, .string s1, .int .i64 x1] 23)).alloc (.cells #[.bool g2, .string s2, .int .i64 x2] 23)) w.heap.size g1 s1 x1 ∧ DC ((w.alloc (.cells #[.bool g1, .string s1, .int .i64 x1] 23)).alloc (.cells #[.bool g2, .string s2, .int .i64 x2] 23)) (w.heap.size + 1) g2 s2 x2 ∧ Below w.heap.size w ((w.alloc (.cells #[.bool g1, .string s1, .int .i64 x1] 23)).alloc (.cells #[.bool g2, .string s2, .int .i64 x2] 23)) := by
  refine ⟨(DC.new w g1 s1 x1).alloc _, ?_, ((Below.refl _ _).alloc (Nat.le_refl _) _).alloc (by simp) _⟩
  have := DC.new (w.alloc (.cells #[.bool g1, .string s1, .int .i64 x1] 23)) g2 s2 x2
  simpa using this
set_option maxRecDepth 100000 in
set_option maxHeartbeats 8000000 in
theorem products_walk (g1 : Bool) (s1 : ByteArray) (x1 : Int) (g2 : Bool) (s2 : ByteArray) (x2 : Int) (w : World) (hs1 : s1.size ≤ maxLen) (hs2 : s2.size ≤ maxLen) (hx1 : -9223372036854775808 ≤ x1 ∧ x1 ≤ 9223372036854775807) (hx2 : -9223372036854775808 ≤ x2 ∧ x2 ≤ 9223372036854775807) : Calls Tryd.prog 3 #[.agg #[.bool g1, .string s1, .int .i64 x1], .agg #[.bool g2, .string s2, .int .i64 x2]] w fun e w' => e = .returned (.bool true) ∧ Below w.heap.size w w' := by
  unfold maxLen at hs1 hs2
  have HL := Lib.hid lives_any
  have HV1 := Lib.hid (fun w => rdvalid_any g1 s1 x1 w (by omega) hx1)
  have HV2 := Lib.hid (fun w => rdvalid_any g2 s2 x2 w (by omega) hx2)
  obtain ⟨A, B, bl⟩ := two_new w g1 s1 x1 g2 s2 x2
  cases hv1 : vB g1 s1 x1 with
  | false =>
    rw [hv1] at HV1
    clear hv1 HV2
    go_enter Tryd.func3, Tryd.ntmps3
    go_wp2_with (first | (go_at_call 8; ((with_reducible refine (HV1.out _).mono ?_); rintro e wk ⟨rfl, hb⟩; have A := (A.below hb A.lt); have B := (B.below hb B.lt); have bl := bl.trans (hb.mono bl.size); clear hb; obtain ⟨a0, a1, a2⟩ := A.cells; obtain ⟨b0, b1, b2⟩ := B.cells)) | (go_at_call 9; ((with_reducible refine (HL.out _).mono ?_); rintro e wk ⟨rfl, hb⟩; have bl := bl.trans (hb.mono bl.size); clear hb)))
    go_ret
    exact ⟨rfl, bl⟩
  | true =>
    rw [hv1] at HV1
    cases hv2 : vB g2 s2 x2 with
    | false =>
      rw [hv2] at HV2
      clear hv1 hv2
      go_enter Tryd.func3, Tryd.ntmps3
      go_wp2_with (first | (go_at_call 8; first | ((with_reducible refine (HV1.out _).mono ?_); rintro e wk ⟨rfl, hb⟩; have A := (A.below hb A.lt); have B := (B.below hb B.lt); have bl := bl.trans (hb.mono bl.size); clear hb; obtain ⟨a0, a1, a2⟩ := A.cells; obtain ⟨b0, b1, b2⟩ := B.cells) | ((with_reducible refine (HV2.out _).mono ?_); rintro e wk ⟨rfl, hb⟩; have A := (A.below hb A.lt); have B := (B.below hb B.lt); have bl := bl.trans (hb.mono bl.size); clear hb; obtain ⟨a0, a1, a2⟩ := A.cells; obtain ⟨b0, b1, b2⟩ := B.cells)) | (go_at_call 9; ((with_reducible refine (HL.out _).mono ?_); rintro e wk ⟨rfl, hb⟩; have bl := bl.trans (hb.mono bl.size); clear hb)))
      go_ret
      exact ⟨rfl, bl⟩
    | true =>
      rw [hv2] at HV2
      obtain ⟨n1, rfl, h1⟩ := vB_ok hv1
      obtain ⟨n2, rfl, h2⟩ := vB_ok hv2
      obtain ⟨pa, pb, pc, pe, HM, HRM⟩ := muls_both g1 n1 x1 g2 n2 x2 h1 h2
      obtain ⟨qa, qb, qc, qe, HD, HRD⟩ := divs_both g1 n1 x1 g2 n2 x2 h1 h2
      have HM := Lib.hid HM
      have HRM := Lib.hid HRM
      have HD := Lib.hid HD
      have HRD := Lib.hid HRD
      clear hv1 hv2 h1 h2
      go_enter Tryd.func3, Tryd.ntmps3
      go_wp2_with (first | (go_at_call 8; first | ((with_reducible refine (HV1.out _).mono ?_); rintro e wk ⟨rfl, hb⟩; have A := (A.below hb A.lt); have B := (B.below hb B.lt); have bl := bl.trans (hb.mono bl.size); clear hb; obtain ⟨a0, a1, a2⟩ := A.cells; obtain ⟨b0, b1, b2⟩ := B.cells) | ((with_reducible refine (HV2.out _).mono ?_); rintro e wk ⟨rfl, hb⟩; have A := (A.below hb A.lt); have B := (B.below hb B.lt); have bl := bl.trans (hb.mono bl.size); clear hb; obtain ⟨a0, a1, a2⟩ := A.cells; obtain ⟨b0, b1, b2⟩ := B.cells)) | (go_at_call 10; ((with_reducible refine (HM.out _).mono ?_); rintro e wk ⟨rfl, hb⟩; have A := (A.below hb A.lt).alloc (.cells #[.bool pa, .string pb, .int .i64 pc] 23); have B := (B.below hb B.lt).alloc (.cells #[.bool pa, .string pb, .int .i64 pc] 23); have Xp := DC.new wk pa pb pc; have bl := (bl.trans (hb.mono bl.size)).alloc (Nat.le_trans bl.size hb.size) (.cells #[.bool pa, .string pb, .int .i64 pc] 23); clear hb; obtain ⟨a0, a1, a2⟩ := A.cells; obtain ⟨b0, b1, b2⟩ := B.cells)) | (go_at_call 11; ((with_reducible refine (HD.out _).mono ?_); rintro e wk ⟨rfl, hb⟩; have A := (A.below hb A.lt).alloc (.cells #[.bool qa, .string qb, .int .i64 qc] 23); have B := (B.below hb B.lt).alloc (.cells #[.bool qa, .string qb, .int .i64 qc] 23); have Xp := (Xp.below hb Xp.lt).alloc (.cells #[.bool qa, .string qb, .int .i64 qc] 23); have Xq := DC.new wk qa qb qc; have bl := (bl.trans (hb.mono bl.size)).alloc (Nat.le_trans bl.size hb.size) (.cells #[.bool qa, .string qb, .int .i64 qc] 23); clear hb; obtain ⟨a0, a1, a2⟩ := A.cells; obtain ⟨b0, b1, b2⟩ := B.cells; obtain ⟨xp0, xp1, xp2⟩ := Xp.cells)) | (go_at_call 12; ((with_reducible refine (HRM.out _).mono ?_); rintro e wk ⟨rfl, hb⟩; have A := (A.below hb A.lt).alloc (.cells #[.bool pa, .string pb, .int .i64 pc] 23); have B := (B.below hb B.lt).alloc (.cells #[.bool pa, .string pb, .int .i64 pc] 23); have Xp := (Xp.below hb Xp.lt).alloc (.cells #[.bool pa, .string pb, .int .i64 pc] 23); have Xq := (Xq.below hb Xq.lt).alloc (.cells #[.bool pa, .string pb, .int .i64 pc] 23); have Xr := DC.new wk pa pb pc; have bl := (bl.trans (hb.mono bl.size)).alloc (Nat.le_trans bl.size hb.size) (.cells #[.bool pa, .string pb, .int .i64 pc] 23); clear hb; obtain ⟨a0, a1, a2⟩ := A.cells; obtain ⟨b0, b1, b2⟩ := B.cells; obtain ⟨xp0, xp1, xp2⟩ := Xp.cells; obtain ⟨xq0, xq1, xq2⟩ := Xq.cells)) | (go_at_call 13; ((with_reducible refine (HRD.out _).mono ?_); rintro e wk ⟨rfl, hb⟩; have A := (A.below hb A.lt).alloc (.cells #[.bool qa, .string qb, .int .i64 qc] 23); have B := (B.below hb B.lt).alloc (.cells #[.bool qa, .string qb, .int .i64 qc] 23); have Xp := (Xp.below hb Xp.lt).alloc (.cells #[.bool qa, .string qb, .int .i64 qc] 23); have Xq := (Xq.below hb Xq.lt).alloc (.cells #[.bool qa, .string qb, .int .i64 qc] 23); have Xr := (Xr.below hb Xr.lt).alloc (.cells #[.bool qa, .string qb, .int .i64 qc] 23); have Xs := DC.new wk qa qb qc; have bl := (bl.trans (hb.mono bl.size)).alloc (Nat.le_trans bl.size hb.size) (.cells #[.bool qa, .string qb, .int .i64 qc] 23); clear hb; obtain ⟨a0, a1, a2⟩ := A.cells; obtain ⟨b0, b1, b2⟩ := B.cells; obtain ⟨xp0, xp1, xp2⟩ := Xp.cells; obtain ⟨xq0, xq1, xq2⟩ := Xq.cells; obtain ⟨xr0, xr1, xr2⟩ := Xr.cells)) | (go_at_call 9; ((with_reducible refine (HL.out _).mono ?_); rintro e wk ⟨rfl, hb⟩; have bl := bl.trans (hb.mono bl.size); clear hb)))
      go_ret
      exact ⟨rfl, bl⟩
end Go.Proofs.YtelehjdhjjedhabDoor.Dec
