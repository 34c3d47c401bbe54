/-
  Contracts of package decimal: sums; the chapter's example.
-/
import Derived.Test.YtjidjcnjgjmeoaaDoorDecD
import Derived.Test.YtjidjcnjgjmeoaaDoorDigL
namespace Go.Proofs.YtjidjcnjgjmeoaaDoor.Dec
open Go.RowKit
set_option linter.unusedVariables false
set_option linter.unusedSimpArgs false
open Go.Proofs.YtjidjcnjgjmeoaaDoor.Dig

/-- Two decimals and a result in blocks of their own. -/
structure T3 (w W : World) (g1 : Bool) (s1 : ByteArray) (x1 : Int) (g2 : Bool) (s2 : ByteArray) (x2 : Int) : Prop where
  a : DC W w.heap.size g1 s1 x1
  b : DC W (w.heap.size + 1) g2 s2 x2
  c : DC W (w.heap.size + 2) false ⟨#[]⟩ 0
  bel : Below w.heap.size w W
section
variable {w W W' : World} {g1 g2 : Bool} {s1 s2 : ByteArray} {x1 x2 : Int}
theorem T3.new (w : World) (g1 : Bool) (s1 : ByteArray) (x1 : Int) (g2 : Bool) (s2 : ByteArray) (x2 : Int) : T3 w (((w.alloc (.cells #[.bool g1, .string s1, .int .i64 x1] 23)).alloc (.cells #[.bool g2, .string s2, .int .i64 x2] 23)).alloc (.cells #[.bool false, .string ⟨#[]⟩, .int .i64 0] 23)) g1 s1 x1 g2 s2 x2 := by
  refine ⟨((DC.new w g1 s1 x1).alloc _).alloc _, ?_, ?_, (((Below.refl _ _).alloc (Nat.le_refl _) _).alloc (by simp) _).alloc (by simp; omega) _⟩
  · have := (DC.new (w.alloc (.cells #[.bool g1, .string s1, .int .i64 x1] 23)) g2 s2 x2).alloc (.cells #[.bool false, .string ⟨#[]⟩, .int .i64 0] 23)
    simpa using this
  · have := DC.new ((w.alloc (.cells #[.bool g1, .string s1, .int .i64 x1] 23)).alloc (.cells #[.bool g2, .string s2, .int .i64 x2] 23)) false ⟨#[]⟩ 0
    simpa using this
theorem T3.step (h : T3 w W g1 s1 x1 g2 s2 x2) (hb : Below W.heap.size W W') : T3 w W' g1 s1 x1 g2 s2 x2 :=
  ⟨h.a.below hb h.a.lt, h.b.below hb h.b.lt, h.c.below hb h.c.lt, h.bel.trans (hb.mono h.bel.size)⟩
end
theorem sh_ok {n k : Nat} (h : (S n).size + k ≤ 600) : shN n (k : Int) = n * 10 ^ k ∧ shE n (k : Int) = 0 := by
  unfold shN shE
  rw [if_neg (by omega), if_neg (by omega), if_neg (by omega)]
  exact ⟨by simp, rfl⟩
theorem sh_far {n k : Nat} (hn : 0 < n) (h : 600 < (S n).size + k) : shN n (k : Int) = 0 ∧ shE n (k : Int) = 2 := by
  unfold shN shE
  rw [if_neg (by omega), if_pos (by omega), if_pos (by omega)]
  exact ⟨rfl, rfl⟩
theorem shift_ok {n k : Nat} (z : Int) (hz : z = (k : Int)) (w : World) (h : (S n).size + k ≤ 600) : Calls Tryd.prog 17 #[.string (S n), .int .i64 z] w fun e w' => e = .returned (.tuple #[.string (S (n * 10 ^ k)), .int .i64 0]) ∧ Below w.heap.size w w' := by
  subst hz
  have := shift_any n k w (by omega) (by omega)
  rwa [(sh_ok h).1, (sh_ok h).2] at this
theorem shift_far {n k : Nat} (z : Int) (hz : z = (k : Int)) (w : World) (hn : 0 < n) (hs : (S n).size ≤ 600) (hk : k ≤ 100000) (h : 600 < (S n).size + k) : Calls Tryd.prog 17 #[.string (S n), .int .i64 z] w fun e w' => e = .returned (.tuple #[.string (S 0), .int .i64 2]) ∧ Below w.heap.size w w' := by
  subst hz
  have := shift_any n k w hs (by omega)
  rwa [(sh_far hn h).1, (sh_far hn h).2] at this
set_option maxRecDepth 100000 in
set_option maxHeartbeats 4000000 in
theorem add_same (g : Bool) (n1 n2 : Nat) (x : Int) (w : World) (h1 : okD g n1 x) (h2 : okD g n2 x) (p1 : 0 < n1) (p2 : 0 < n2) : Calls Tryd.prog 13 #[.agg #[.bool g, .string (S n1), .int .i64 x], .agg #[.bool g, .string (S n2), .int .i64 x]] w fun e w' => e = .returned (.tuple #[.agg #[.bool (nG g (n1 + n2) x), .string (S (nN (n1 + n2) x)), .int .i64 (nX (n1 + n2) x)], .int .i64 (nE (n1 + n2) x)]) ∧ Below w.heap.size w w' := by
  have hs : (S n1).size ≤ 120 ∧ -400 ≤ x ∧ x ≤ 400 := by
    rcases h1 with ⟨e, _⟩ | ⟨_, _, hl, q1, q2⟩
    · omega
    · exact ⟨by rw [S_size]; exact hl, q1, q2⟩
  have hs2 : (S n2).size ≤ 120 := by
    rcases h2 with ⟨e, _⟩ | ⟨_, _, hl, q1, q2⟩
    · omega
    · rw [S_size]; exact hl
  obtain ⟨hs1, hx1, hx2⟩ := hs
  have HV1 := Lib.hid (fun w => dvalid_ok w h1)
  have HV2 := Lib.hid (fun w => dvalid_ok w h2)
  have hsum : (S (n1 + n2)).size ≤ 121 := by
    rw [S_size] at *
    rw [num_len] at *
    have e : 10 ^ 121 = 10 ^ 120 * 10 := Nat.pow_succ 10 120
    omega
  have HS1 := Lib.hid (fun w => shift_ok (n := n1) (k := 0) 0 rfl w (by omega))
  have HS2 := Lib.hid (fun w => shift_ok (n := n2) (k := 0) 0 rfl w (by omega))
  rw [Nat.pow_zero, Nat.mul_one] at HS1 HS2
  have HA := Lib.hid (fun w => add_any n1 n2 w (by omega) (by omega))
  have hl1 : limS (n1 + n2) = n1 + n2 := by unfold limS; rw [if_pos (by rw [← S_size]; omega)]
  have hl2 : limE (n1 + n2) = 0 := by unfold limE; rw [if_pos (by rw [← S_size]; omega)]
  rw [hl1, hl2] at HA
  have HM := Lib.hid (fun w => make_any g (S (n1 + n2)) (n1 + n2) x w (Num_S _) (by omega) (by omega))
  obtain ⟨ra, ha⟩ : ∃ a, nG g (n1 + n2) x = a := ⟨_, rfl⟩
  obtain ⟨rb, hb⟩ : ∃ b, S (nN (n1 + n2) x) = b := ⟨_, rfl⟩
  obtain ⟨rc, hc⟩ : ∃ c, nX (n1 + n2) x = c := ⟨_, rfl⟩
  obtain ⟨rd, hd⟩ : ∃ d, nE (n1 + n2) x = d := ⟨_, rfl⟩
  rw [ha, hb, hc, hd] at HM ⊢
  have HT := Lib.hid (T3.new w g (S n1) x g (S n2) x)
  have e1 := tl_ne (S_pos p1)
  have e2 := tl_ne' (S_pos p1)
  have e3 := tl_ne (S_pos p2)
  have e4 := tl_ne' (S_pos p2)
  clear ha hb hc hd h1 h2 hl1 hl2
  have T := HT.out
  go_enter Tryd.func13, Tryd.ntmps13
  go_wp2_with (first | (go_at_call 15; first | ((with_reducible refine (HV1.out _).mono ?_); rintro e w1 ⟨rfl, hX⟩; have T := T.step hX; clear hX; obtain ⟨a0, a1, a2⟩ := T.a.cells; obtain ⟨b0, b1, b2⟩ := T.b.cells; obtain ⟨c0, c1, c2⟩ := T.c.cells; have y0 := T.c.fz 0; have y1 := T.c.fz 1; have y2 := T.c.fz 2) | ((with_reducible refine (HV2.out _).mono ?_); rintro e w1 ⟨rfl, hX⟩; have T := T.step hX; clear hX; obtain ⟨a0, a1, a2⟩ := T.a.cells; obtain ⟨b0, b1, b2⟩ := T.b.cells; obtain ⟨c0, c1, c2⟩ := T.c.cells; have y0 := T.c.fz 0; have y1 := T.c.fz 1; have y2 := T.c.fz 2)) | (go_at_call 17; first | ((with_reducible refine (HS1.out _).mono ?_); rintro e w1 ⟨rfl, hX⟩; have T := T.step hX; clear hX; obtain ⟨a0, a1, a2⟩ := T.a.cells; obtain ⟨b0, b1, b2⟩ := T.b.cells; obtain ⟨c0, c1, c2⟩ := T.c.cells; have y0 := T.c.fz 0; have y1 := T.c.fz 1; have y2 := T.c.fz 2) | ((with_reducible refine (HS2.out _).mono ?_); rintro e w1 ⟨rfl, hX⟩; have T := T.step hX; clear hX; obtain ⟨a0, a1, a2⟩ := T.a.cells; obtain ⟨b0, b1, b2⟩ := T.b.cells; obtain ⟨c0, c1, c2⟩ := T.c.cells; have y0 := T.c.fz 0; have y1 := T.c.fz 1; have y2 := T.c.fz 2)) | (go_at_call 20; (with_reducible refine (HA.out _).mono ?_); rintro e w1 ⟨rfl, hX⟩; have T := T.step hX; clear hX; obtain ⟨a0, a1, a2⟩ := T.a.cells; obtain ⟨b0, b1, b2⟩ := T.b.cells; obtain ⟨c0, c1, c2⟩ := T.c.cells; have y0 := T.c.fz 0; have y1 := T.c.fz 1; have y2 := T.c.fz 2) | (go_at_call 21; (with_reducible refine (HM.out _).mono ?_); rintro e w1 ⟨rfl, hX⟩; have T := T.step hX; clear hX; obtain ⟨a0, a1, a2⟩ := T.a.cells; obtain ⟨b0, b1, b2⟩ := T.b.cells; obtain ⟨c0, c1, c2⟩ := T.c.cells; have y0 := T.c.fz 0; have y1 := T.c.fz 1; have y2 := T.c.fz 2))
  exact bodyPost_ret (v := .tuple #[.agg #[.bool ra, .string rb, .int .i64 rc], .int .i64 rd]) (by simp [results, Tryd.results13, go_sem, c0, c1, c2]) rfl ⟨rfl, ((T.bel.setCell (by simp; try omega) _).setCell (by simp; try omega) _).setCell (by simp; try omega) _⟩
theorem abs_three (w : World) : Calls Tryd.prog 35 #[.string (S 3), .int .i64 (-1)] w fun e w' => e = .returned (.string ⟨#[48, 46, 51]⟩) ∧ Below w.heap.size w w' := by
  have HR : Hid (∀ w, Calls Tryd.prog 38 #[.string ⟨#[48]⟩, .int .i64 0] w fun e w' => e = .returned (.string (noughts 0)) ∧ Below w.heap.size w w') := Lib.hid (fun w => repeat_any 0 w (by omega))
  have hs : (S 3).size = 1 := rfl
  have hz : (noughts 0).size = 0 := rfl
  have HE : Hid ((⟨#[48, 46]⟩ : ByteArray) ++ noughts 0 ++ S 3 = ⟨#[48, 46, 51]⟩) := Lib.hid (ba_ext (by rw [Joins.data_append, Joins.data_append]; rfl))
  obtain ⟨s, hS⟩ : ∃ s, S 3 = s := ⟨_, rfl⟩
  obtain ⟨z, hZ⟩ : ∃ z, noughts 0 = z := ⟨_, rfl⟩
  rw [hS] at hs HE ⊢
  rw [hZ] at hz HE HR
  clear hS hZ
  have h2 : (⟨#[48, 46]⟩ : ByteArray).size = 2 := rfl
  go_enter Tryd.func35, Tryd.ntmps35
  go_wp2_with (go_at_call 38; (with_reducible refine (HR.out _).mono ?_); rintro e w1 ⟨rfl, hb⟩)
  go_ret
  exact ⟨ret_str HE.out, hb⟩
theorem ok_three : okD false 3 (-1) := .inr ⟨by omega, zr_no (by omega), by have : (num 3).length ≤ 1 := num_len.2 (by omega); omega, by omega, by omega⟩
theorem text_three (w : World) : Calls Tryd.prog 14 #[.agg #[.bool false, .string (S 3), .int .i64 (-1)]] w fun e w' => e = .returned (.string ⟨#[48, 46, 51]⟩) ∧ Below w.heap.size w w' := by
  have HV := Lib.hid (fun w => dvalid_ok w ok_three)
  have HA := Lib.hid abs_three
  have HC := Lib.hid (DC.new w false (S 3) (-1))
  have b0 : Below w.heap.size w (w.alloc (.cells #[.bool false, .string (S 3), .int .i64 (-1)] 23)) := (Below.refl _ _).alloc (Nat.le_refl _) _
  have e1 := tl_ne (S_pos (n := 3) (by omega))
  have e2 := tl_ne' (S_pos (n := 3) (by omega))
  obtain ⟨s, hS⟩ : ∃ s, S 3 = s := ⟨_, rfl⟩
  rw [hS] at HV HA HC b0 e1 e2 ⊢
  clear hS
  go_enter Tryd.func14, Tryd.ntmps14
  go_wp2_with (first | (go_at_call 15; (with_reducible refine (HV.out _).mono ?_); rintro e w1 ⟨rfl, hb⟩; have X := HC.out.below hb HC.out.lt; obtain ⟨x0, x1, x2⟩ := X.cells; have b1 := b0.trans (hb.mono b0.size); clear hb) | (go_at_call 35; (with_reducible refine (HA.out _).mono ?_); rintro e w2 ⟨rfl, hb⟩; have X := X.below hb X.lt; obtain ⟨x0, x1, x2⟩ := X.cells; have b2 := b1.trans (hb.mono b1.size); clear hb))
  go_ret
  exact ⟨rfl, b2⟩
theorem lives_add (w : World) : Calls Tryd.prog 13 #[.agg #[.bool false, .string (S 1), .int .i64 (-1)], .agg #[.bool false, .string (S 2), .int .i64 (-1)]] w fun e w' => e = .returned (.tuple #[.agg #[.bool false, .string (S 3), .int .i64 (-1)], .int .i64 0]) ∧ Below w.heap.size w w' := by
  have o : ∀ d, 0 < d → d < 10 → okD false d (-1) := fun d h0 h => .inr ⟨h0, zr_no (by omega), by have : (num d).length ≤ 1 := num_len.2 (by omega); omega, by omega, by omega⟩
  have h := add_same false 1 2 (-1) w (o 1 (by omega) (by omega)) (o 2 (by omega) (by omega)) (by omega) (by omega)
  exact h.mono fun e w' ⟨he, hb⟩ => ⟨he.trans (nrm_parts (nrm_ok ok_three)), hb⟩
theorem parse_one (w : World) : Calls Tryd.prog 12 #[.string ⟨#[48, 46, 49]⟩] w fun e w' => e = .returned (.tuple #[.agg #[.bool false, .string (S 1), .int .i64 (-1)], .int .i64 0]) ∧ Below w.heap.size w w' := parse_lit 1 (by omega) (by omega) w
theorem parse_two (w : World) : Calls Tryd.prog 12 #[.string ⟨#[48, 46, 50]⟩] w fun e w' => e = .returned (.tuple #[.agg #[.bool false, .string (S 2), .int .i64 (-1)], .int .i64 0]) ∧ Below w.heap.size w w' := parse_lit 2 (by omega) (by omega) w
set_option maxRecDepth 100000 in
set_option maxHeartbeats 4000000 in
theorem lives_any (w : World) : Calls Tryd.prog 5 #[] w fun e w' => e = .returned (.bool true) ∧ Below w.heap.size w w' := by
  have H1 := Lib.hid parse_one
  have H2 := Lib.hid parse_two
  have HA := Lib.hid lives_add
  have HT := Lib.hid text_three
  have HL : Hid (S 3 = ⟨#[51]⟩) := rfl
  have hq : ((S 3).toList == [51]) = true := by rw [HL.out, ByteArray.toList_eq]; rfl
  obtain ⟨s1, hS1⟩ : ∃ s, S 1 = s := ⟨_, rfl⟩
  obtain ⟨s2, hS2⟩ : ∃ s, S 2 = s := ⟨_, rfl⟩
  obtain ⟨s3, hS3⟩ : ∃ s, S 3 = s := ⟨_, rfl⟩
  rw [hS1] at H1 HA
  rw [hS2] at H2 HA
  rw [hS3] at HA HT hq
  clear hS1 hS2 hS3 HL
  have HB := fun (w : World) => DC.new w false s3 (-1)
  have b0 := Below.refl w.heap.size w
  go_enter Tryd.func5, Tryd.ntmps5
  go_wp2_with (first
    | (go_at_call 12; first | ((with_reducible refine (H1.out _).mono ?_); rintro e w1 ⟨rfl, hb⟩; have b1 := (b0.trans (hb.mono b0.size)).alloc (Nat.le_trans b0.size hb.size) (.cells #[.bool false, .string s1, .int .i64 (-1)] 23); have D1 := DC.new w1 false s1 (-1); clear hb) | ((with_reducible refine (H2.out _).mono ?_); rintro e w2 ⟨rfl, hb⟩; have D1' := (D1.below hb D1.lt).alloc (.cells #[.bool false, .string s2, .int .i64 (-1)] 23); have b2 := (b1.trans (hb.mono b1.size)).alloc (Nat.le_trans b1.size hb.size) (.cells #[.bool false, .string s2, .int .i64 (-1)] 23); clear hb; obtain ⟨p0, p1, p2⟩ := (D1.below (Below.refl _ _) D1.lt).cells; obtain ⟨q0, q1, q2⟩ := D1'.cells))
    | (go_at_call 13; go_loud ((with_reducible refine (HA.out _).mono ?_); rintro e w3 ⟨rfl, hb⟩; have D3 := DC.new w3 false s3 (-1); have b3 := (b2.trans (hb.mono b2.size)).alloc (Nat.le_trans b2.size hb.size) (.cells #[.bool false, .string s3, .int .i64 (-1)] 23); clear hb))
    | (go_at_call 14; go_loud ((with_reducible refine (HT.out _).mono ?_); rintro e w4 ⟨rfl, hb⟩; have D4 := D3.below hb D3.lt; obtain ⟨r0, r1, r2⟩ := D4.cells; have b4 := b3.trans (hb.mono b3.size); clear hb)))
  go_ret
  exact ⟨rfl, b4⟩
end Go.Proofs.YtjidjcnjgjmeoaaDoor.Dec
