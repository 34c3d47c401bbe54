/-
  Package moment and its reference: shifted times.
-/
import Derived.Test.YtbgkldncoigggaaDoorMomC
namespace Go.Proofs.YtbgkldncoigggaaDoor.Mom
open Go.RowKit
set_option linter.unusedVariables false
set_option linter.unusedSimpArgs false

/-- The time some days and nanoseconds later. -/
def sD (d n days nanos : Int) : Int := d + days + (n + nanos) / 86400000000000
def sN (n nanos : Int) : Int := (n + nanos) % 86400000000000
def sR (k d n o days nanos : Int) : Int × Int × Int × Int × Int := if vP k d n o then (if (k = 1 ∧ nanos ≠ 0) ∨ (k = 2 ∧ days ≠ 0) then (0, 0, 0, 0, 6) else if days < -14608232 ∨ 14608232 < days then (0, 0, 0, 0, 2) else if k = 2 ∧ sD d n days nanos ≠ 0 then (0, 0, 0, 0, 2) else dR k (sD d n days nanos) (sN n nanos) o) else (0, 0, 0, 0, 1)
theorem T2.put {w W : World} {k d n o : Int} (h : T2 w W k d n o) (d' n' : Int) : T2 w ((W.setCell ⟨w.heap.size, 1, none⟩ (.int .i64 d')).setCell ⟨w.heap.size, 2, none⟩ (.int .i64 n')) k d' n' o := by
  have blk : ∀ j, j ≠ w.heap.size → ((W.setCell ⟨w.heap.size, 1, none⟩ (.int .i64 d')).setCell ⟨w.heap.size, 2, none⟩ (.int .i64 n')).heap[j]? = W.heap[j]? := fun j hj => by
    rw [Below.heap_setCell _ _ _ _ hj, Below.heap_setCell _ _ _ _ hj]
  refine ⟨?_, World.rowIs.of_block h.c (blk _ (by omega)), (h.bel.setCell (by simp) _).setCell (by simp) _⟩
  exact ((World.rowIs.set h.a 1 _).set 2 _).congr fun i hi => by
    rcases (show i = 0 ∨ i = 1 ∨ i = 2 ∨ i = 3 by omega) with rfl | rfl | rfl | rfl <;> rfl
set_option maxRecDepth 100000 in
set_option maxHeartbeats 4000000 in
theorem shift_any (k d n o days nanos : Int) (w : World) (hdy : -9223372036854775808 ≤ days ∧ days ≤ 9223372036854775807) (hna : -9223372036854775808 ≤ nanos ∧ nanos ≤ 9223372036854775807) : Calls Tryd.prog 22 #[.agg #[.int .i64 k, .int .i64 d, .int .i64 n, .int .i64 o], .int .i64 days, .int .i64 nanos] w fun e w' => e = tR (sR k d n o days nanos) ∧ Below w.heap.size w w' := by
  have T := T2.new w k d n o
  have HV := Lib.hid (fun w => valid_any k d n o w)
  by_cases hv : vP k d n o
  · rw [← vT_yes hv] at HV
    obtain ⟨d1, d2, n1, n2, o1, o2⟩ := nP_of hv
    have d3 : 0 ≤ d ∧ d ≤ 3652058 := by unfold vP at hv; omega
    have hk : k = 1 ∨ k = 2 ∨ k = 3 ∨ k = 4 := by unfold vP at hv; omega
    rcases hk with rfl | rfl | rfl | rfl
    · by_cases hx : nanos = 0
      · have hxb : (nanos != 0) = false := by simpa using hx
        have HX0 := Lib.hid hx
        clear hx
        rcases (show days < -14608232 ∨ 14608232 < days ∨ (-14608232 ≤ days ∧ days ≤ 14608232) by omega) with h | h | ⟨h1, h2⟩
        · skip
          have HR : Hid (sR 1 d n o days nanos = (0, 0, 0, 0, 2)) := Lib.hid (by unfold sR; rw [if_pos hv, if_neg (by have := HX0.out; omega), if_pos (by omega)])
          rw [HR.out]
          unfold tR
          clear hv
          go_enter Tryd.func22, Tryd.ntmps22
          go_wp2_with (first | (go_at_call 11; (with_reducible refine (HV.out _).mono ?_); rintro e w1 ⟨rfl, hX⟩; have T := T.step hX; clear hX; obtain ⟨a0, a1, a2, a3⟩ := T.a.cells; obtain ⟨c0, c1, c2, c3⟩ := T.c.cells; have y0 := T.c.fz 0; have y1 := T.c.fz 1; have y2 := T.c.fz 2; have y3 := T.c.fz 3; have x1 := T.a.fz 1; have x2 := T.a.fz 2))
          exact bodyPost_ret (v := .tuple #[.agg #[.int .i64 0, .int .i64 0, .int .i64 0, .int .i64 0], .int .i64 2]) (by simp [results, Tryd.results22, go_sem, c0, c1, c2, c3]) rfl ⟨rfl, (((T.bel.setCell (by simp; try omega) _).setCell (by simp; try omega) _).setCell (by simp; try omega) _).setCell (by simp; try omega) _⟩
        · have h0 : -14608232 ≤ days := by omega
          have HR : Hid (sR 1 d n o days nanos = (0, 0, 0, 0, 2)) := Lib.hid (by unfold sR; rw [if_pos hv, if_neg (by have := HX0.out; omega), if_pos (by omega)])
          rw [HR.out]
          unfold tR
          clear hv
          go_enter Tryd.func22, Tryd.ntmps22
          go_wp2_with (first | (go_at_call 11; (with_reducible refine (HV.out _).mono ?_); rintro e w1 ⟨rfl, hX⟩; have T := T.step hX; clear hX; obtain ⟨a0, a1, a2, a3⟩ := T.a.cells; obtain ⟨c0, c1, c2, c3⟩ := T.c.cells; have y0 := T.c.fz 0; have y1 := T.c.fz 1; have y2 := T.c.fz 2; have y3 := T.c.fz 3; have x1 := T.a.fz 1; have x2 := T.a.fz 2))
          exact bodyPost_ret (v := .tuple #[.agg #[.int .i64 0, .int .i64 0, .int .i64 0, .int .i64 0], .int .i64 2]) (by simp [results, Tryd.results22, go_sem, c0, c1, c2, c3]) rfl ⟨rfl, (((T.bel.setCell (by simp; try omega) _).setCell (by simp; try omega) _).setCell (by simp; try omega) _).setCell (by simp; try omega) _⟩
        · skip
          have HC1 := Lib.hid (fun w => carry_any 0 nanos w (by omega) hna)
          have q1 : -106753 ≤ nanos / 86400000000000 := by omega
          have q2 : nanos / 86400000000000 ≤ 106753 := by omega
          have r1 : 0 ≤ nanos % 86400000000000 := by omega
          have r2 : nanos % 86400000000000 ≤ 86399999999999 := by omega
          have HC2 := Lib.hid (fun w => carry_any (d + days + nanos / 86400000000000) (n + nanos % 86400000000000) w (by omega) (by omega))
          have e1 : d + days + nanos / 86400000000000 + (n + nanos % 86400000000000) / 86400000000000 = sD d n days nanos := by unfold sD; omega
          have e2 : (n + nanos % 86400000000000) % 86400000000000 = sN n nanos := by unfold sN; omega
          rw [Int.zero_add] at HC1
          rw [e1, e2] at HC2
          have HSR : Hid (sR 1 d n o days nanos = if (1 : Int) = 2 ∧ sD d n days nanos ≠ 0 then (0, 0, 0, 0, 2) else dR 1 (sD d n days nanos) (sN n nanos) o) := Lib.hid (by unfold sR; rw [if_pos hv, if_neg (by have := HX0.out; omega), if_neg (by omega)])
          clear e1 e2 hv
          generalize sD d n days nanos = D at *
          generalize sN n nanos = N at *
          generalize nanos / 86400000000000 = q at *
          generalize nanos % 86400000000000 = r at *
          have HDD := Lib.hid (fun w => dated_any 1 D N o w)
          obtain ⟨ra, rb, rc, rd, re, hR⟩ : ∃ ga gb gc gd ge, dR 1 D N o = (ga, gb, gc, gd, ge) := ⟨_, _, _, _, _, rfl⟩
          have HR : Hid (sR 1 d n o days nanos = (ra, rb, rc, rd, re)) := Lib.hid (by rw [HSR.out, if_neg (by omega), hR])
          rw [hR] at HDD
          rw [HR.out]
          unfold tR at HDD ⊢
          simp only at HDD ⊢
          clear hR
          go_enter Tryd.func22, Tryd.ntmps22
          go_wp2_with (first | (go_at_call 11; (with_reducible refine (HV.out _).mono ?_); rintro e w1 ⟨rfl, hX⟩; have T := T.step hX; clear hX; obtain ⟨a0, a1, a2, a3⟩ := T.a.cells; obtain ⟨c0, c1, c2, c3⟩ := T.c.cells; have y0 := T.c.fz 0; have y1 := T.c.fz 1; have y2 := T.c.fz 2; have y3 := T.c.fz 3; have x1 := T.a.fz 1; have x2 := T.a.fz 2) | (go_at_call 45; first | ((with_reducible refine (HC1.out _).mono ?_); rintro e w1 ⟨rfl, rfl⟩) | ((with_reducible refine (HC2.out _).mono ?_); rintro e w1 ⟨rfl, rfl⟩)) | (go_at_call 28; (with_reducible refine (hasDay_yes _ _ _ _ _ (by decide)).mono ?_); rintro e w1 ⟨rfl, hX⟩; have T := (T.put _ _).step hX; clear hX; obtain ⟨a0, a1, a2, a3⟩ := T.a.cells; obtain ⟨c0, c1, c2, c3⟩ := T.c.cells; have y0 := T.c.fz 0; have y1 := T.c.fz 1; have y2 := T.c.fz 2; have y3 := T.c.fz 3; have x1 := T.a.fz 1; have x2 := T.a.fz 2) | (go_at_call 46; (with_reducible refine (HDD.out _).mono ?_); rintro e w1 ⟨rfl, hX⟩; have T := T.step hX; clear hX; obtain ⟨a0, a1, a2, a3⟩ := T.a.cells; obtain ⟨c0, c1, c2, c3⟩ := T.c.cells; have y0 := T.c.fz 0; have y1 := T.c.fz 1; have y2 := T.c.fz 2; have y3 := T.c.fz 3))
          exact bodyPost_ret (v := .tuple #[.agg #[.int .i64 ra, .int .i64 rb, .int .i64 rc, .int .i64 rd], .int .i64 re]) (by simp [results, Tryd.results22, go_sem, c0, c1, c2, c3]) rfl ⟨rfl, (((T.bel.setCell (by simp; try omega) _).setCell (by simp; try omega) _).setCell (by simp; try omega) _).setCell (by simp; try omega) _⟩
      · have hxb : (nanos != 0) = true := by simpa using hx
        have HR : Hid (sR 1 d n o days nanos = (0, 0, 0, 0, 6)) := Lib.hid (by unfold sR; rw [if_pos hv, if_pos (by omega)])
        rw [HR.out]
        unfold tR
        clear hv
        go_enter Tryd.func22, Tryd.ntmps22
        go_wp2_with (first | (go_at_call 11; (with_reducible refine (HV.out _).mono ?_); rintro e w1 ⟨rfl, hX⟩; have T := T.step hX; clear hX; obtain ⟨a0, a1, a2, a3⟩ := T.a.cells; obtain ⟨c0, c1, c2, c3⟩ := T.c.cells; have y0 := T.c.fz 0; have y1 := T.c.fz 1; have y2 := T.c.fz 2; have y3 := T.c.fz 3; have x1 := T.a.fz 1; have x2 := T.a.fz 2))
        exact bodyPost_ret (v := .tuple #[.agg #[.int .i64 0, .int .i64 0, .int .i64 0, .int .i64 0], .int .i64 6]) (by simp [results, Tryd.results22, go_sem, c0, c1, c2, c3]) rfl ⟨rfl, (((T.bel.setCell (by simp; try omega) _).setCell (by simp; try omega) _).setCell (by simp; try omega) _).setCell (by simp; try omega) _⟩
    · by_cases hx : days = 0
      · have hxb : (days != 0) = false := by simpa using hx
        have HX0 := Lib.hid hx
        clear hx
        have h1 : -14608232 ≤ days := by have := HX0.out; omega
        have h2 : days ≤ 14608232 := by have := HX0.out; omega
        have HC1 := Lib.hid (fun w => carry_any 0 nanos w (by omega) hna)
        have q1 : -106753 ≤ nanos / 86400000000000 := by omega
        have q2 : nanos / 86400000000000 ≤ 106753 := by omega
        have r1 : 0 ≤ nanos % 86400000000000 := by omega
        have r2 : nanos % 86400000000000 ≤ 86399999999999 := by omega
        have HC2 := Lib.hid (fun w => carry_any (d + days + nanos / 86400000000000) (n + nanos % 86400000000000) w (by omega) (by omega))
        have e1 : d + days + nanos / 86400000000000 + (n + nanos % 86400000000000) / 86400000000000 = sD d n days nanos := by unfold sD; omega
        have e2 : (n + nanos % 86400000000000) % 86400000000000 = sN n nanos := by unfold sN; omega
        rw [Int.zero_add] at HC1
        rw [e1, e2] at HC2
        have HSR : Hid (sR 2 d n o days nanos = if (2 : Int) = 2 ∧ sD d n days nanos ≠ 0 then (0, 0, 0, 0, 2) else dR 2 (sD d n days nanos) (sN n nanos) o) := Lib.hid (by unfold sR; rw [if_pos hv, if_neg (by have := HX0.out; omega), if_neg (by omega)])
        clear e1 e2 hv
        generalize sD d n days nanos = D at *
        generalize sN n nanos = N at *
        generalize nanos / 86400000000000 = q at *
        generalize nanos % 86400000000000 = r at *
        by_cases hD0 : D = 0
        · have hDb : (D != 0) = false := by simpa using hD0
          have HD0 := Lib.hid hD0
          clear hD0
          have HDD := Lib.hid (fun w => dated_any 2 D N o w)
          obtain ⟨ra, rb, rc, rd, re, hR⟩ : ∃ ga gb gc gd ge, dR 2 D N o = (ga, gb, gc, gd, ge) := ⟨_, _, _, _, _, rfl⟩
          have HR : Hid (sR 2 d n o days nanos = (ra, rb, rc, rd, re)) := Lib.hid (by rw [HSR.out, if_neg (by have := HD0.out; omega), hR])
          rw [hR] at HDD
          rw [HR.out]
          unfold tR at HDD ⊢
          simp only at HDD ⊢
          clear hR
          go_enter Tryd.func22, Tryd.ntmps22
          go_wp2_with (first | (go_at_call 11; (with_reducible refine (HV.out _).mono ?_); rintro e w1 ⟨rfl, hX⟩; have T := T.step hX; clear hX; obtain ⟨a0, a1, a2, a3⟩ := T.a.cells; obtain ⟨c0, c1, c2, c3⟩ := T.c.cells; have y0 := T.c.fz 0; have y1 := T.c.fz 1; have y2 := T.c.fz 2; have y3 := T.c.fz 3; have x1 := T.a.fz 1; have x2 := T.a.fz 2) | (go_at_call 45; first | ((with_reducible refine (HC1.out _).mono ?_); rintro e w1 ⟨rfl, rfl⟩) | ((with_reducible refine (HC2.out _).mono ?_); rintro e w1 ⟨rfl, rfl⟩)) | (go_at_call 28; (with_reducible refine (hasDay_no _ _ _ _).mono ?_); rintro e w1 ⟨rfl, hX⟩; have T := (T.put _ _).step hX; clear hX; obtain ⟨a0, a1, a2, a3⟩ := T.a.cells; obtain ⟨c0, c1, c2, c3⟩ := T.c.cells; have y0 := T.c.fz 0; have y1 := T.c.fz 1; have y2 := T.c.fz 2; have y3 := T.c.fz 3; have x1 := T.a.fz 1; have x2 := T.a.fz 2) | (go_at_call 46; (with_reducible refine (HDD.out _).mono ?_); rintro e w1 ⟨rfl, hX⟩; have T := T.step hX; clear hX; obtain ⟨a0, a1, a2, a3⟩ := T.a.cells; obtain ⟨c0, c1, c2, c3⟩ := T.c.cells; have y0 := T.c.fz 0; have y1 := T.c.fz 1; have y2 := T.c.fz 2; have y3 := T.c.fz 3))
          exact bodyPost_ret (v := .tuple #[.agg #[.int .i64 ra, .int .i64 rb, .int .i64 rc, .int .i64 rd], .int .i64 re]) (by simp [results, Tryd.results22, go_sem, c0, c1, c2, c3]) rfl ⟨rfl, (((T.bel.setCell (by simp; try omega) _).setCell (by simp; try omega) _).setCell (by simp; try omega) _).setCell (by simp; try omega) _⟩
        · have hDb : (D != 0) = true := by simpa using hD0
          have HD0 := Lib.hid hD0
          clear hD0
          have HR : Hid (sR 2 d n o days nanos = (0, 0, 0, 0, 2)) := Lib.hid (by rw [HSR.out, if_pos ⟨rfl, HD0.out⟩])
          rw [HR.out]
          unfold tR
          go_enter Tryd.func22, Tryd.ntmps22
          go_wp2_with (first | (go_at_call 11; (with_reducible refine (HV.out _).mono ?_); rintro e w1 ⟨rfl, hX⟩; have T := T.step hX; clear hX; obtain ⟨a0, a1, a2, a3⟩ := T.a.cells; obtain ⟨c0, c1, c2, c3⟩ := T.c.cells; have y0 := T.c.fz 0; have y1 := T.c.fz 1; have y2 := T.c.fz 2; have y3 := T.c.fz 3; have x1 := T.a.fz 1; have x2 := T.a.fz 2) | (go_at_call 45; first | ((with_reducible refine (HC1.out _).mono ?_); rintro e w1 ⟨rfl, rfl⟩) | ((with_reducible refine (HC2.out _).mono ?_); rintro e w1 ⟨rfl, rfl⟩)) | (go_at_call 28; (with_reducible refine (hasDay_no _ _ _ _).mono ?_); rintro e w1 ⟨rfl, hX⟩; have T := (T.put _ _).step hX; clear hX; obtain ⟨a0, a1, a2, a3⟩ := T.a.cells; obtain ⟨c0, c1, c2, c3⟩ := T.c.cells; have y0 := T.c.fz 0; have y1 := T.c.fz 1; have y2 := T.c.fz 2; have y3 := T.c.fz 3; have x1 := T.a.fz 1; have x2 := T.a.fz 2))
          exact bodyPost_ret (v := .tuple #[.agg #[.int .i64 0, .int .i64 0, .int .i64 0, .int .i64 0], .int .i64 2]) (by simp [results, Tryd.results22, go_sem, c0, c1, c2, c3]) rfl ⟨rfl, (((T.bel.setCell (by simp; try omega) _).setCell (by simp; try omega) _).setCell (by simp; try omega) _).setCell (by simp; try omega) _⟩
      · have hxb : (days != 0) = true := by simpa using hx
        have HR : Hid (sR 2 d n o days nanos = (0, 0, 0, 0, 6)) := Lib.hid (by unfold sR; rw [if_pos hv, if_pos (by omega)])
        rw [HR.out]
        unfold tR
        clear hv
        go_enter Tryd.func22, Tryd.ntmps22
        go_wp2_with (first | (go_at_call 11; (with_reducible refine (HV.out _).mono ?_); rintro e w1 ⟨rfl, hX⟩; have T := T.step hX; clear hX; obtain ⟨a0, a1, a2, a3⟩ := T.a.cells; obtain ⟨c0, c1, c2, c3⟩ := T.c.cells; have y0 := T.c.fz 0; have y1 := T.c.fz 1; have y2 := T.c.fz 2; have y3 := T.c.fz 3; have x1 := T.a.fz 1; have x2 := T.a.fz 2))
        exact bodyPost_ret (v := .tuple #[.agg #[.int .i64 0, .int .i64 0, .int .i64 0, .int .i64 0], .int .i64 6]) (by simp [results, Tryd.results22, go_sem, c0, c1, c2, c3]) rfl ⟨rfl, (((T.bel.setCell (by simp; try omega) _).setCell (by simp; try omega) _).setCell (by simp; try omega) _).setCell (by simp; try omega) _⟩
    · skip
      rcases (show days < -14608232 ∨ 14608232 < days ∨ (-14608232 ≤ days ∧ days ≤ 14608232) by omega) with h | h | ⟨h1, h2⟩
      · skip
        have HR : Hid (sR 3 d n o days nanos = (0, 0, 0, 0, 2)) := Lib.hid (by unfold sR; rw [if_pos hv, if_neg (by omega), if_pos (by omega)])
        rw [HR.out]
        unfold tR
        clear hv
        go_enter Tryd.func22, Tryd.ntmps22
        go_wp2_with (first | (go_at_call 11; (with_reducible refine (HV.out _).mono ?_); rintro e w1 ⟨rfl, hX⟩; have T := T.step hX; clear hX; obtain ⟨a0, a1, a2, a3⟩ := T.a.cells; obtain ⟨c0, c1, c2, c3⟩ := T.c.cells; have y0 := T.c.fz 0; have y1 := T.c.fz 1; have y2 := T.c.fz 2; have y3 := T.c.fz 3; have x1 := T.a.fz 1; have x2 := T.a.fz 2))
        exact bodyPost_ret (v := .tuple #[.agg #[.int .i64 0, .int .i64 0, .int .i64 0, .int .i64 0], .int .i64 2]) (by simp [results, Tryd.results22, go_sem, c0, c1, c2, c3]) rfl ⟨rfl, (((T.bel.setCell (by simp; try omega) _).setCell (by simp; try omega) _).setCell (by simp; try omega) _).setCell (by simp; try omega) _⟩
      · have h0 : -14608232 ≤ days := by omega
        have HR : Hid (sR 3 d n o days nanos = (0, 0, 0, 0, 2)) := Lib.hid (by unfold sR; rw [if_pos hv, if_neg (by omega), if_pos (by omega)])
        rw [HR.out]
        unfold tR
        clear hv
        go_enter Tryd.func22, Tryd.ntmps22
        go_wp2_with (first | (go_at_call 11; (with_reducible refine (HV.out _).mono ?_); rintro e w1 ⟨rfl, hX⟩; have T := T.step hX; clear hX; obtain ⟨a0, a1, a2, a3⟩ := T.a.cells; obtain ⟨c0, c1, c2, c3⟩ := T.c.cells; have y0 := T.c.fz 0; have y1 := T.c.fz 1; have y2 := T.c.fz 2; have y3 := T.c.fz 3; have x1 := T.a.fz 1; have x2 := T.a.fz 2))
        exact bodyPost_ret (v := .tuple #[.agg #[.int .i64 0, .int .i64 0, .int .i64 0, .int .i64 0], .int .i64 2]) (by simp [results, Tryd.results22, go_sem, c0, c1, c2, c3]) rfl ⟨rfl, (((T.bel.setCell (by simp; try omega) _).setCell (by simp; try omega) _).setCell (by simp; try omega) _).setCell (by simp; try omega) _⟩
      · skip
        have HC1 := Lib.hid (fun w => carry_any 0 nanos w (by omega) hna)
        have q1 : -106753 ≤ nanos / 86400000000000 := by omega
        have q2 : nanos / 86400000000000 ≤ 106753 := by omega
        have r1 : 0 ≤ nanos % 86400000000000 := by omega
        have r2 : nanos % 86400000000000 ≤ 86399999999999 := by omega
        have HC2 := Lib.hid (fun w => carry_any (d + days + nanos / 86400000000000) (n + nanos % 86400000000000) w (by omega) (by omega))
        have e1 : d + days + nanos / 86400000000000 + (n + nanos % 86400000000000) / 86400000000000 = sD d n days nanos := by unfold sD; omega
        have e2 : (n + nanos % 86400000000000) % 86400000000000 = sN n nanos := by unfold sN; omega
        rw [Int.zero_add] at HC1
        rw [e1, e2] at HC2
        have HSR : Hid (sR 3 d n o days nanos = if (3 : Int) = 2 ∧ sD d n days nanos ≠ 0 then (0, 0, 0, 0, 2) else dR 3 (sD d n days nanos) (sN n nanos) o) := Lib.hid (by unfold sR; rw [if_pos hv, if_neg (by omega), if_neg (by omega)])
        clear e1 e2 hv
        generalize sD d n days nanos = D at *
        generalize sN n nanos = N at *
        generalize nanos / 86400000000000 = q at *
        generalize nanos % 86400000000000 = r at *
        have HDD := Lib.hid (fun w => dated_any 3 D N o w)
        obtain ⟨ra, rb, rc, rd, re, hR⟩ : ∃ ga gb gc gd ge, dR 3 D N o = (ga, gb, gc, gd, ge) := ⟨_, _, _, _, _, rfl⟩
        have HR : Hid (sR 3 d n o days nanos = (ra, rb, rc, rd, re)) := Lib.hid (by rw [HSR.out, if_neg (by omega), hR])
        rw [hR] at HDD
        rw [HR.out]
        unfold tR at HDD ⊢
        simp only at HDD ⊢
        clear hR
        go_enter Tryd.func22, Tryd.ntmps22
        go_wp2_with (first | (go_at_call 11; (with_reducible refine (HV.out _).mono ?_); rintro e w1 ⟨rfl, hX⟩; have T := T.step hX; clear hX; obtain ⟨a0, a1, a2, a3⟩ := T.a.cells; obtain ⟨c0, c1, c2, c3⟩ := T.c.cells; have y0 := T.c.fz 0; have y1 := T.c.fz 1; have y2 := T.c.fz 2; have y3 := T.c.fz 3; have x1 := T.a.fz 1; have x2 := T.a.fz 2) | (go_at_call 45; first | ((with_reducible refine (HC1.out _).mono ?_); rintro e w1 ⟨rfl, rfl⟩) | ((with_reducible refine (HC2.out _).mono ?_); rintro e w1 ⟨rfl, rfl⟩)) | (go_at_call 28; (with_reducible refine (hasDay_yes _ _ _ _ _ (by decide)).mono ?_); rintro e w1 ⟨rfl, hX⟩; have T := (T.put _ _).step hX; clear hX; obtain ⟨a0, a1, a2, a3⟩ := T.a.cells; obtain ⟨c0, c1, c2, c3⟩ := T.c.cells; have y0 := T.c.fz 0; have y1 := T.c.fz 1; have y2 := T.c.fz 2; have y3 := T.c.fz 3; have x1 := T.a.fz 1; have x2 := T.a.fz 2) | (go_at_call 46; (with_reducible refine (HDD.out _).mono ?_); rintro e w1 ⟨rfl, hX⟩; have T := T.step hX; clear hX; obtain ⟨a0, a1, a2, a3⟩ := T.a.cells; obtain ⟨c0, c1, c2, c3⟩ := T.c.cells; have y0 := T.c.fz 0; have y1 := T.c.fz 1; have y2 := T.c.fz 2; have y3 := T.c.fz 3))
        exact bodyPost_ret (v := .tuple #[.agg #[.int .i64 ra, .int .i64 rb, .int .i64 rc, .int .i64 rd], .int .i64 re]) (by simp [results, Tryd.results22, go_sem, c0, c1, c2, c3]) rfl ⟨rfl, (((T.bel.setCell (by simp; try omega) _).setCell (by simp; try omega) _).setCell (by simp; try omega) _).setCell (by simp; try omega) _⟩
    · skip
      rcases (show days < -14608232 ∨ 14608232 < days ∨ (-14608232 ≤ days ∧ days ≤ 14608232) by omega) with h | h | ⟨h1, h2⟩
      · skip
        have HR : Hid (sR 4 d n o days nanos = (0, 0, 0, 0, 2)) := Lib.hid (by unfold sR; rw [if_pos hv, if_neg (by omega), if_pos (by omega)])
        rw [HR.out]
        unfold tR
        clear hv
        go_enter Tryd.func22, Tryd.ntmps22
        go_wp2_with (first | (go_at_call 11; (with_reducible refine (HV.out _).mono ?_); rintro e w1 ⟨rfl, hX⟩; have T := T.step hX; clear hX; obtain ⟨a0, a1, a2, a3⟩ := T.a.cells; obtain ⟨c0, c1, c2, c3⟩ := T.c.cells; have y0 := T.c.fz 0; have y1 := T.c.fz 1; have y2 := T.c.fz 2; have y3 := T.c.fz 3; have x1 := T.a.fz 1; have x2 := T.a.fz 2))
        exact bodyPost_ret (v := .tuple #[.agg #[.int .i64 0, .int .i64 0, .int .i64 0, .int .i64 0], .int .i64 2]) (by simp [results, Tryd.results22, go_sem, c0, c1, c2, c3]) rfl ⟨rfl, (((T.bel.setCell (by simp; try omega) _).setCell (by simp; try omega) _).setCell (by simp; try omega) _).setCell (by simp; try omega) _⟩
      · have h0 : -14608232 ≤ days := by omega
        have HR : Hid (sR 4 d n o days nanos = (0, 0, 0, 0, 2)) := Lib.hid (by unfold sR; rw [if_pos hv, if_neg (by omega), if_pos (by omega)])
        rw [HR.out]
        unfold tR
        clear hv
        go_enter Tryd.func22, Tryd.ntmps22
        go_wp2_with (first | (go_at_call 11; (with_reducible refine (HV.out _).mono ?_); rintro e w1 ⟨rfl, hX⟩; have T := T.step hX; clear hX; obtain ⟨a0, a1, a2, a3⟩ := T.a.cells; obtain ⟨c0, c1, c2, c3⟩ := T.c.cells; have y0 := T.c.fz 0; have y1 := T.c.fz 1; have y2 := T.c.fz 2; have y3 := T.c.fz 3; have x1 := T.a.fz 1; have x2 := T.a.fz 2))
        exact bodyPost_ret (v := .tuple #[.agg #[.int .i64 0, .int .i64 0, .int .i64 0, .int .i64 0], .int .i64 2]) (by simp [results, Tryd.results22, go_sem, c0, c1, c2, c3]) rfl ⟨rfl, (((T.bel.setCell (by simp; try omega) _).setCell (by simp; try omega) _).setCell (by simp; try omega) _).setCell (by simp; try omega) _⟩
      · skip
        have HC1 := Lib.hid (fun w => carry_any 0 nanos w (by omega) hna)
        have q1 : -106753 ≤ nanos / 86400000000000 := by omega
        have q2 : nanos / 86400000000000 ≤ 106753 := by omega
        have r1 : 0 ≤ nanos % 86400000000000 := by omega
        have r2 : nanos % 86400000000000 ≤ 86399999999999 := by omega
        have HC2 := Lib.hid (fun w => carry_any (d + days + nanos / 86400000000000) (n + nanos % 86400000000000) w (by omega) (by omega))
        have e1 : d + days + nanos / 86400000000000 + (n + nanos % 86400000000000) / 86400000000000 = sD d n days nanos := by unfold sD; omega
        have e2 : (n + nanos % 86400000000000) % 86400000000000 = sN n nanos := by unfold sN; omega
        rw [Int.zero_add] at HC1
        rw [e1, e2] at HC2
        have HSR : Hid (sR 4 d n o days nanos = if (4 : Int) = 2 ∧ sD d n days nanos ≠ 0 then (0, 0, 0, 0, 2) else dR 4 (sD d n days nanos) (sN n nanos) o) := Lib.hid (by unfold sR; rw [if_pos hv, if_neg (by omega), if_neg (by omega)])
        clear e1 e2 hv
        generalize sD d n days nanos = D at *
        generalize sN n nanos = N at *
        generalize nanos / 86400000000000 = q at *
        generalize nanos % 86400000000000 = r at *
        have HDD := Lib.hid (fun w => dated_any 4 D N o w)
        obtain ⟨ra, rb, rc, rd, re, hR⟩ : ∃ ga gb gc gd ge, dR 4 D N o = (ga, gb, gc, gd, ge) := ⟨_, _, _, _, _, rfl⟩
        have HR : Hid (sR 4 d n o days nanos = (ra, rb, rc, rd, re)) := Lib.hid (by rw [HSR.out, if_neg (by omega), hR])
        rw [hR] at HDD
        rw [HR.out]
        unfold tR at HDD ⊢
        simp only at HDD ⊢
        clear hR
        go_enter Tryd.func22, Tryd.ntmps22
        go_wp2_with (first | (go_at_call 11; (with_reducible refine (HV.out _).mono ?_); rintro e w1 ⟨rfl, hX⟩; have T := T.step hX; clear hX; obtain ⟨a0, a1, a2, a3⟩ := T.a.cells; obtain ⟨c0, c1, c2, c3⟩ := T.c.cells; have y0 := T.c.fz 0; have y1 := T.c.fz 1; have y2 := T.c.fz 2; have y3 := T.c.fz 3; have x1 := T.a.fz 1; have x2 := T.a.fz 2) | (go_at_call 45; first | ((with_reducible refine (HC1.out _).mono ?_); rintro e w1 ⟨rfl, rfl⟩) | ((with_reducible refine (HC2.out _).mono ?_); rintro e w1 ⟨rfl, rfl⟩)) | (go_at_call 28; (with_reducible refine (hasDay_yes _ _ _ _ _ (by decide)).mono ?_); rintro e w1 ⟨rfl, hX⟩; have T := (T.put _ _).step hX; clear hX; obtain ⟨a0, a1, a2, a3⟩ := T.a.cells; obtain ⟨c0, c1, c2, c3⟩ := T.c.cells; have y0 := T.c.fz 0; have y1 := T.c.fz 1; have y2 := T.c.fz 2; have y3 := T.c.fz 3; have x1 := T.a.fz 1; have x2 := T.a.fz 2) | (go_at_call 46; (with_reducible refine (HDD.out _).mono ?_); rintro e w1 ⟨rfl, hX⟩; have T := T.step hX; clear hX; obtain ⟨a0, a1, a2, a3⟩ := T.a.cells; obtain ⟨c0, c1, c2, c3⟩ := T.c.cells; have y0 := T.c.fz 0; have y1 := T.c.fz 1; have y2 := T.c.fz 2; have y3 := T.c.fz 3))
        exact bodyPost_ret (v := .tuple #[.agg #[.int .i64 ra, .int .i64 rb, .int .i64 rc, .int .i64 rd], .int .i64 re]) (by simp [results, Tryd.results22, go_sem, c0, c1, c2, c3]) rfl ⟨rfl, (((T.bel.setCell (by simp; try omega) _).setCell (by simp; try omega) _).setCell (by simp; try omega) _).setCell (by simp; try omega) _⟩
  · rw [← vT_no hv] at HV
    have HR : Hid (sR k d n o days nanos = (0, 0, 0, 0, 1)) := Lib.hid (by unfold sR; rw [if_neg hv])
    rw [HR.out]
    unfold tR
    clear hv
    go_enter Tryd.func22, Tryd.ntmps22
    go_wp2_with (go_at_call 11; (with_reducible refine (HV.out _).mono ?_); rintro e w1 ⟨rfl, hX⟩; have T := T.step hX; clear hX; obtain ⟨a0, a1, a2, a3⟩ := T.a.cells; obtain ⟨c0, c1, c2, c3⟩ := T.c.cells; have y0 := T.c.fz 0; have y1 := T.c.fz 1; have y2 := T.c.fz 2; have y3 := T.c.fz 3; have x1 := T.a.fz 1; have x2 := T.a.fz 2)
    exact bodyPost_ret (v := .tuple #[.agg #[.int .i64 0, .int .i64 0, .int .i64 0, .int .i64 0], .int .i64 1]) (by simp [results, Tryd.results22, go_sem, c0, c1, c2, c3]) rfl ⟨rfl, (((T.bel.setCell (by simp; try omega) _).setCell (by simp; try omega) _).setCell (by simp; try omega) _).setCell (by simp; try omega) _⟩
end Go.Proofs.YtbgkldncoigggaaDoor.Mom
