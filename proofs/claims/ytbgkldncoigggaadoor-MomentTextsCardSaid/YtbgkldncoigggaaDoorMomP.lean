/-
  Package moment: the statements' own liveness; the walks of MomentZones, MomentShifts, MomentBetween.
-/
import Derived.Test.YtbgkldncoigggaaDoorMomO
import Derived.Test.YtbgkldncoigggaaDoorMomF
import Derived.Test.YtbgkldncoigggaaDoorMomT
namespace Go.Proofs.YtbgkldncoigggaaDoor.Mom
open Go.RowKit
set_option linter.unusedVariables false
set_option linter.unusedSimpArgs false
open Go.Proofs.YtbgkldncoigggaaDoor.Cal

theorem text_ex (w : World) (ht : Tb w) : Calls Tryd.prog 13 #[.agg #[.int .i64 4, .int .i64 738944, .int .i64 37800500000000, .int .i64 120]] w fun e w' => e = .returned (.string ⟨#[50, 48, 50, 52, 45, 48, 50, 45, 50, 57, 84, 49, 48, 58, 51, 48, 58, 48, 48, 46, 53, 43, 48, 50, 58, 48, 48]⟩) ∧ Below w.heap.size w w' := by
  have h := text_4 2024 2 29 37800500000000 738944 120 w (by decide) (by decide) (by decide) ht
  have e : txS 4 2024 2 29 37800500000000 120 = ⟨#[50, 48, 50, 52, 45, 48, 50, 45, 50, 57, 84, 49, 48, 58, 51, 48, 58, 48, 48, 46, 53, 43, 48, 50, 58, 48, 48]⟩ := by kernel_rfl
  rw [e] at h
  exact h
set_option maxRecDepth 100000 in
set_option maxHeartbeats 4000000 in
theorem awake_any (w : World) (ht : Tb w) : Calls Tryd.prog 15 #[] w fun e w' => e = .returned (.bool true) ∧ Below w.heap.size w w' := by
  have HP := Lib.hid parse_ex
  have HV : Hid (∀ w, Calls Tryd.prog 11 #[.agg #[.int .i64 4, .int .i64 738944, .int .i64 37800500000000, .int .i64 120]] w fun e w' => e = .returned (.bool true) ∧ Below w.heap.size w w') := Lib.hid (fun w => by
    have := valid_any 4 738944 37800500000000 120 w
    rwa [show vT 4 738944 37800500000000 120 = true by decide] at this)
  have HT := Lib.hid (fun (w' : World) (hb : Below w.heap.size w w') => text_ex w' (ht.next hb))
  clear ht
  go_enter Tryd.func15, Tryd.ntmps15
  go_wp2_with (first | (go_at_call 16; go_loud ((with_reducible refine (HP.out _).mono ?_); rintro e w1 ⟨rfl, hX⟩; have T := (TB.new w 4 738944 37800500000000 120).below hX (by simp); have B1 : Below w.heap.size w w1 := ((Below.refl _ _).alloc (Nat.le_refl _) _).trans (hX.mono (by simp)); have hlt := T.lt; obtain ⟨a0, a1, a2, a3⟩ := T.cells; clear hX)) | (go_at_call 11; go_loud ((with_reducible refine (HV.out _).mono ?_); rintro e w2 ⟨rfl, hX⟩; have U := (TB.new w1 4 738944 37800500000000 120).below hX (by simp); have T2 := (T.alloc (.cells #[.int .i64 4, .int .i64 738944, .int .i64 37800500000000, .int .i64 120] 23)).below hX (by simp; omega); have B2 : Below w.heap.size w w2 := (B1.alloc (by omega) _).trans (hX.mono (by simp; omega)); clear a0 a1 a2 a3; obtain ⟨a0, a1, a2, a3⟩ := T2.cells; obtain ⟨b0, b1, b2, b3⟩ := U.cells; clear hX)) | (go_at_call 13; go_loud ((with_reducible refine (HT.out _ B2).mono ?_); rintro e w3 ⟨rfl, hX⟩; have U3 := U.below hX U.lt; have T3 := T2.below hX T2.lt; have B3 := B2.trans (hX.mono B2.size); clear a0 a1 a2 a3 b0 b1 b2 b3; obtain ⟨a0, a1, a2, a3⟩ := T3.cells; obtain ⟨b0, b1, b2, b3⟩ := U3.cells; clear hX)))
  go_ret
  exact ⟨rfl, B3⟩
set_option maxRecDepth 100000 in
set_option maxHeartbeats 4000000 in
theorem zones_walk (k d n o off : Int) (w : World) (ht : Tb w) : Calls Tryd.prog 5 #[.agg #[.int .i64 k, .int .i64 d, .int .i64 n, .int .i64 o], .int .i64 off] w fun e w' => e = .returned (.bool true) ∧ Below w.heap.size w w' := by
  have HAW := Lib.hid (fun (w' : World) (hb : Below w.heap.size w w') => awake_any w' (ht.next hb))
  have H1 := Lib.hid (fun w => utct_any k d n o w)
  have H2 := Lib.hid (fun w => rutct_any k d n o w)
  have H3 := Lib.hid (fun w => zone_any k d n o off w)
  have H4 := Lib.hid (fun w => rzone_any k d n o off w)
  obtain ⟨pa, pb, pc, pd, pe, hRp⟩ : ∃ ga gb gc gd ge, zR k d n o 0 = (ga, gb, gc, gd, ge) := ⟨_, _, _, _, _, rfl⟩
  rw [hRp] at H1 H2
  unfold tR at H1 H2
  simp only at H1 H2
  clear hRp
  obtain ⟨qa, qb, qc, qd, qe, hRq⟩ : ∃ ga gb gc gd ge, zR k d n o off = (ga, gb, gc, gd, ge) := ⟨_, _, _, _, _, rfl⟩
  rw [hRq] at H3 H4
  unfold tR at H3 H4
  simp only at H3 H4
  clear hRq
  clear ht
  have A := TB.new w k d n o
  have bl : Below w.heap.size w (w.alloc (.cells #[.int .i64 k, .int .i64 d, .int .i64 n, .int .i64 o] 23)) := (Below.refl _ _).alloc (Nat.le_refl _) _
  go_enter Tryd.func5, Tryd.ntmps5
  go_wp2_with (first | (go_at_call 18; go_loud ((with_reducible refine (H1.out _).mono ?_); rintro e WK ⟨rfl, hb⟩; have A := (A.below hb A.lt).alloc (.cells #[.int .i64 pa, .int .i64 pb, .int .i64 pc, .int .i64 pd] 23); have Xp := TB.new WK pa pb pc pd; have bl := (bl.trans (hb.mono bl.size)).alloc (Nat.le_trans bl.size hb.size) (.cells #[.int .i64 pa, .int .i64 pb, .int .i64 pc, .int .i64 pd] 23); clear hb; obtain ⟨a0, a1, a2, a3⟩ := A.cells)) | (go_at_call 19; go_loud ((with_reducible refine (H2.out _).mono ?_); rintro e WK ⟨rfl, hb⟩; have A := (A.below hb A.lt).alloc (.cells #[.int .i64 pa, .int .i64 pb, .int .i64 pc, .int .i64 pd] 23); have Xp := (Xp.below hb Xp.lt).alloc (.cells #[.int .i64 pa, .int .i64 pb, .int .i64 pc, .int .i64 pd] 23); have Xr := TB.new WK pa pb pc pd; have bl := (bl.trans (hb.mono bl.size)).alloc (Nat.le_trans bl.size hb.size) (.cells #[.int .i64 pa, .int .i64 pb, .int .i64 pc, .int .i64 pd] 23); clear hb; obtain ⟨a0, a1, a2, a3⟩ := A.cells; obtain ⟨xp0, xp1, xp2, xp3⟩ := Xp.cells)) | (go_at_call 20; go_loud ((with_reducible refine (H3.out _).mono ?_); rintro e WK ⟨rfl, hb⟩; have A := (A.below hb A.lt).alloc (.cells #[.int .i64 qa, .int .i64 qb, .int .i64 qc, .int .i64 qd] 23); have Xp := (Xp.below hb Xp.lt).alloc (.cells #[.int .i64 qa, .int .i64 qb, .int .i64 qc, .int .i64 qd] 23); have Xr := (Xr.below hb Xr.lt).alloc (.cells #[.int .i64 qa, .int .i64 qb, .int .i64 qc, .int .i64 qd] 23); have Xq := TB.new WK qa qb qc qd; have bl := (bl.trans (hb.mono bl.size)).alloc (Nat.le_trans bl.size hb.size) (.cells #[.int .i64 qa, .int .i64 qb, .int .i64 qc, .int .i64 qd] 23); clear hb; obtain ⟨a0, a1, a2, a3⟩ := A.cells; obtain ⟨xp0, xp1, xp2, xp3⟩ := Xp.cells; obtain ⟨xr0, xr1, xr2, xr3⟩ := Xr.cells)) | (go_at_call 21; go_loud ((with_reducible refine (H4.out _).mono ?_); rintro e WK ⟨rfl, hb⟩; have A := (A.below hb A.lt).alloc (.cells #[.int .i64 qa, .int .i64 qb, .int .i64 qc, .int .i64 qd] 23); have Xp := (Xp.below hb Xp.lt).alloc (.cells #[.int .i64 qa, .int .i64 qb, .int .i64 qc, .int .i64 qd] 23); have Xr := (Xr.below hb Xr.lt).alloc (.cells #[.int .i64 qa, .int .i64 qb, .int .i64 qc, .int .i64 qd] 23); have Xq := (Xq.below hb Xq.lt).alloc (.cells #[.int .i64 qa, .int .i64 qb, .int .i64 qc, .int .i64 qd] 23); have Xs := TB.new WK qa qb qc qd; have bl := (bl.trans (hb.mono bl.size)).alloc (Nat.le_trans bl.size hb.size) (.cells #[.int .i64 qa, .int .i64 qb, .int .i64 qc, .int .i64 qd] 23); clear hb; obtain ⟨a0, a1, a2, a3⟩ := A.cells; obtain ⟨xp0, xp1, xp2, xp3⟩ := Xp.cells; obtain ⟨xr0, xr1, xr2, xr3⟩ := Xr.cells; obtain ⟨xq0, xq1, xq2, xq3⟩ := Xq.cells)) | (go_at_call 15; go_loud ((with_reducible refine (HAW.out _ bl).mono ?_); rintro e WK ⟨rfl, hb⟩; have bl := bl.trans (hb.mono bl.size); clear hb)))
  go_ret
  exact ⟨rfl, bl⟩
set_option maxRecDepth 100000 in
set_option maxHeartbeats 4000000 in
theorem shifts_walk (k d n o days nanos : Int) (w : World) (ht : Tb w) (hdy : -9223372036854775808 ≤ days ∧ days ≤ 9223372036854775807) (hna : -9223372036854775808 ≤ nanos ∧ nanos ≤ 9223372036854775807) : Calls Tryd.prog 6 #[.agg #[.int .i64 k, .int .i64 d, .int .i64 n, .int .i64 o], .int .i64 days, .int .i64 nanos] w fun e w' => e = .returned (.bool true) ∧ Below w.heap.size w w' := by
  have HAW := Lib.hid (fun (w' : World) (hb : Below w.heap.size w w') => awake_any w' (ht.next hb))
  have H1 := Lib.hid (fun w => shift_any k d n o days nanos w hdy hna)
  have H2 := Lib.hid (fun w => rshift_any k d n o days nanos w hdy hna)
  obtain ⟨pa, pb, pc, pd, pe, hRp⟩ : ∃ ga gb gc gd ge, sR k d n o days nanos = (ga, gb, gc, gd, ge) := ⟨_, _, _, _, _, rfl⟩
  rw [hRp] at H1 H2
  unfold tR at H1 H2
  simp only at H1 H2
  clear hRp
  clear ht
  have A := TB.new w k d n o
  have bl : Below w.heap.size w (w.alloc (.cells #[.int .i64 k, .int .i64 d, .int .i64 n, .int .i64 o] 23)) := (Below.refl _ _).alloc (Nat.le_refl _) _
  go_enter Tryd.func6, Tryd.ntmps6
  go_wp2_with (first | (go_at_call 22; go_loud ((with_reducible refine (H1.out _).mono ?_); rintro e WK ⟨rfl, hb⟩; have A := (A.below hb A.lt).alloc (.cells #[.int .i64 pa, .int .i64 pb, .int .i64 pc, .int .i64 pd] 23); have Xp := TB.new WK pa pb pc pd; have bl := (bl.trans (hb.mono bl.size)).alloc (Nat.le_trans bl.size hb.size) (.cells #[.int .i64 pa, .int .i64 pb, .int .i64 pc, .int .i64 pd] 23); clear hb; obtain ⟨a0, a1, a2, a3⟩ := A.cells)) | (go_at_call 23; go_loud ((with_reducible refine (H2.out _).mono ?_); rintro e WK ⟨rfl, hb⟩; have A := (A.below hb A.lt).alloc (.cells #[.int .i64 pa, .int .i64 pb, .int .i64 pc, .int .i64 pd] 23); have Xp := (Xp.below hb Xp.lt).alloc (.cells #[.int .i64 pa, .int .i64 pb, .int .i64 pc, .int .i64 pd] 23); have Xr := TB.new WK pa pb pc pd; have bl := (bl.trans (hb.mono bl.size)).alloc (Nat.le_trans bl.size hb.size) (.cells #[.int .i64 pa, .int .i64 pb, .int .i64 pc, .int .i64 pd] 23); clear hb; obtain ⟨a0, a1, a2, a3⟩ := A.cells; obtain ⟨xp0, xp1, xp2, xp3⟩ := Xp.cells)) | (go_at_call 15; go_loud ((with_reducible refine (HAW.out _ bl).mono ?_); rintro e WK ⟨rfl, hb⟩; have bl := bl.trans (hb.mono bl.size); clear hb)))
  go_ret
  exact ⟨rfl, bl⟩
set_option maxRecDepth 100000 in
set_option maxHeartbeats 4000000 in
theorem betweens_walk (k1 d1 n1 o1 k2 d2 n2 o2 : Int) (w : World) (ht : Tb w) : Calls Tryd.prog 7 #[.agg #[.int .i64 k1, .int .i64 d1, .int .i64 n1, .int .i64 o1], .agg #[.int .i64 k2, .int .i64 d2, .int .i64 n2, .int .i64 o2]] w fun e w' => e = .returned (.bool true) ∧ Below w.heap.size w w' := by
  have HAW := Lib.hid (fun (w' : World) (hb : Below w.heap.size w w') => awake_any w' (ht.next hb))
  have H1 := Lib.hid (fun w => between_any k1 d1 n1 o1 k2 d2 n2 o2 w)
  have H2 := Lib.hid (fun w => rbetween_any k1 d1 n1 o1 k2 d2 n2 o2 w)
  obtain ⟨pa, pb, pc, hR⟩ : ∃ ga gb gc, bR k1 d1 n1 o1 k2 d2 n2 o2 = (ga, gb, gc) := ⟨_, _, _, rfl⟩
  rw [hR] at H1 H2
  unfold iR at H1 H2
  simp only at H1 H2
  clear hR ht
  have T := TT.new w k1 d1 n1 o1 k2 d2 n2 o2
  have A := T.a
  have B := T.b
  have bl := T.bel
  clear T
  go_enter Tryd.func7, Tryd.ntmps7
  go_wp2_with (first | (go_at_call 24; go_loud ((with_reducible refine (H1.out _).mono ?_); rintro e WK ⟨rfl, hb⟩; have A := (A.below hb A.lt); have B := (B.below hb B.lt); have bl := bl.trans (hb.mono bl.size); clear hb; obtain ⟨a0, a1, a2, a3⟩ := A.cells; obtain ⟨b0, b1, b2, b3⟩ := B.cells)) | (go_at_call 25; go_loud ((with_reducible refine (H2.out _).mono ?_); rintro e WK ⟨rfl, hb⟩; have A := (A.below hb A.lt); have B := (B.below hb B.lt); have bl := bl.trans (hb.mono bl.size); clear hb; obtain ⟨a0, a1, a2, a3⟩ := A.cells; obtain ⟨b0, b1, b2, b3⟩ := B.cells)) | (go_at_call 15; go_loud ((with_reducible refine (HAW.out _ bl).mono ?_); rintro e WK ⟨rfl, hb⟩; have bl := bl.trans (hb.mono bl.size); clear hb)))
  go_ret
  exact ⟨rfl, bl⟩
end Go.Proofs.YtbgkldncoigggaaDoor.Mom
