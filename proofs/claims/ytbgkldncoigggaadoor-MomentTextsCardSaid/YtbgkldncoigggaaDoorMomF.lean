/-
  The reference of moment: shifted times.
-/
import Derived.Test.YtbgkldncoigggaaDoorMomE
namespace Go.Proofs.YtbgkldncoigggaaDoor.Mom
open Go.RowKit
set_option linter.unusedVariables false
set_option linter.unusedSimpArgs false

set_option maxRecDepth 100000 in
set_option maxHeartbeats 4000000 in
theorem rshift_neg1 (d n o days nanos : Int) (w : World) (hdy : -9223372036854775808 ≤ days ∧ days ≤ 9223372036854775807) (hna : -9223372036854775808 ≤ nanos ∧ nanos ≤ 9223372036854775807) (hv : vP 1 d n o) (hs : nanos < 0) : Calls Tryd.prog 23 #[.agg #[.int .i64 1, .int .i64 d, .int .i64 n, .int .i64 o], .int .i64 days, .int .i64 nanos] w fun e w' => e = tR (sR 1 d n o days nanos) ∧ Below w.heap.size w w' := by
  have T := T2.new w 1 d n o
  have HV := Lib.hid (fun w => rvalid_any 1 d n o w)
  rw [← vT_yes hv] at HV
  have HVP := Lib.hid hv
  obtain ⟨d1, d2, n1, n2, o1, o2⟩ := nP_of hv
  have d3 : 0 ≤ d ∧ d ≤ 3652058 := by unfold vP at hv; omega
  have HNA := Lib.hid hna
  obtain ⟨hq, hr⟩ := tdiv_neg' hs
  have q1 : -106753 ≤ nanos.tdiv 86400000000000 := by omega
  have q2 : nanos.tdiv 86400000000000 ≤ 106753 := by omega
  have r1 : -86400000000000 ≤ nanos.tmod 86400000000000 := by omega
  have r2 : nanos.tmod 86400000000000 ≤ 86399999999999 := by omega
  have HS := Lib.hid (fun w => rsplit_any (nanos.tdiv 86400000000000) (n + nanos.tmod 86400000000000) w (by omega) (by omega))
  have e1 : nanos.tdiv 86400000000000 + (n + nanos.tmod 86400000000000) / 86400000000000 = (n + nanos) / 86400000000000 := by omega
  have e2 : (n + nanos.tmod 86400000000000) % 86400000000000 = sN n nanos := by unfold sN; omega
  rw [e1, e2] at HS
  obtain ⟨X, hX⟩ : ∃ X, (n + nanos) / 86400000000000 = X := ⟨_, rfl⟩
  have HD : Hid (sD d n days nanos = X + (d + days)) := Lib.hid (by unfold sD; omega)
  have x1' : -106760 ≤ X := by omega
  have x2' : X ≤ 106760 := by omega
  rw [hX] at HS
  obtain ⟨N, hN⟩ : ∃ N, sN n nanos = N := ⟨_, rfl⟩
  rw [hN] at HS
  have HN := Lib.hid hN
  clear e1 e2 hX hN hv hq hr
  · by_cases hx : nanos = 0
    · have hxb : (nanos != 0) = false := by simpa using hx
      have HX0 := Lib.hid hx
      clear hx
      rcases (show days < -7304116 ∨ 7304116 < days ∨ (-7304116 ≤ days ∧ days ≤ 7304116) by omega) with h | h | ⟨h1, h2⟩
      · skip
        have HR := Lib.hid (sR_2 (k := 1) (d := d) (n := n) (o := o) (days := days) (nanos := nanos) HVP.out HNA.out (by have := HX0.out; omega) (by omega))
        rw [HR.out]
        unfold tR
        go_enter Tryd.func23, Tryd.ntmps23
        go_wp2_with (first | (go_at_call 12; (with_reducible refine (HV.out _).mono ?_); rintro e w1 ⟨rfl, hX⟩; have T := T.step hX; clear hX; obtain ⟨a0, a1, a2, a3⟩ := T.a.cells; obtain ⟨c0, c1, c2, c3⟩ := T.c.cells; have y0 := T.c.fz 0; have y1 := T.c.fz 1; have y2 := T.c.fz 2; have y3 := T.c.fz 3; have x1 := T.a.fz 1; have x2 := T.a.fz 2) | (go_at_call 48; (with_reducible refine (HS.out _).mono ?_); rintro e w1 ⟨rfl, rfl⟩))
        exact bodyPost_ret (v := .tuple #[.agg #[.int .i64 0, .int .i64 0, .int .i64 0, .int .i64 0], .int .i64 2]) (by simp [results, Tryd.results23, go_sem, c0, c1, c2, c3]) rfl ⟨rfl, (((T.bel.setCell (by simp; try omega) _).setCell (by simp; try omega) _).setCell (by simp; try omega) _).setCell (by simp; try omega) _⟩
      · have h0 : -7304116 ≤ days := by omega
        have HR := Lib.hid (sR_2 (k := 1) (d := d) (n := n) (o := o) (days := days) (nanos := nanos) HVP.out HNA.out (by have := HX0.out; omega) (by omega))
        rw [HR.out]
        unfold tR
        go_enter Tryd.func23, Tryd.ntmps23
        go_wp2_with (first | (go_at_call 12; (with_reducible refine (HV.out _).mono ?_); rintro e w1 ⟨rfl, hX⟩; have T := T.step hX; clear hX; obtain ⟨a0, a1, a2, a3⟩ := T.a.cells; obtain ⟨c0, c1, c2, c3⟩ := T.c.cells; have y0 := T.c.fz 0; have y1 := T.c.fz 1; have y2 := T.c.fz 2; have y3 := T.c.fz 3; have x1 := T.a.fz 1; have x2 := T.a.fz 2) | (go_at_call 48; (with_reducible refine (HS.out _).mono ?_); rintro e w1 ⟨rfl, rfl⟩))
        exact bodyPost_ret (v := .tuple #[.agg #[.int .i64 0, .int .i64 0, .int .i64 0, .int .i64 0], .int .i64 2]) (by simp [results, Tryd.results23, go_sem, c0, c1, c2, c3]) rfl ⟨rfl, (((T.bel.setCell (by simp; try omega) _).setCell (by simp; try omega) _).setCell (by simp; try omega) _).setCell (by simp; try omega) _⟩
      · skip
        obtain ⟨D, hD⟩ : ∃ D, X + (d + days) = D := ⟨_, rfl⟩
        have HDX : Hid (sD d n days nanos = D) := Lib.hid (HD.out.trans hD)
        have HDE := Lib.hid hD
        clear hD
        rcases (show X + (d + days) < 0 ∨ 3652058 < X + (d + days) ∨ (0 ≤ X + (d + days) ∧ X + (d + days) ≤ 3652058) by omega) with hz | hz | ⟨hz, hz2⟩
        · skip
          have HR := Lib.hid (sR_2 (k := 1) (d := d) (n := n) (o := o) (days := days) (nanos := nanos) HVP.out HNA.out (by have := HX0.out; omega) (by rw [HD.out]; omega))
          rw [HR.out]
          unfold tR
          go_enter Tryd.func23, Tryd.ntmps23
          go_wp2_with (first | (go_at_call 12; (with_reducible refine (HV.out _).mono ?_); rintro e w1 ⟨rfl, hX⟩; have T := T.step hX; clear hX; obtain ⟨a0, a1, a2, a3⟩ := T.a.cells; obtain ⟨c0, c1, c2, c3⟩ := T.c.cells; have y0 := T.c.fz 0; have y1 := T.c.fz 1; have y2 := T.c.fz 2; have y3 := T.c.fz 3; have x1 := T.a.fz 1; have x2 := T.a.fz 2) | (go_at_call 48; (with_reducible refine (HS.out _).mono ?_); rintro e w1 ⟨rfl, rfl⟩))
          exact bodyPost_ret (v := .tuple #[.agg #[.int .i64 0, .int .i64 0, .int .i64 0, .int .i64 0], .int .i64 2]) (by simp [results, Tryd.results23, go_sem, c0, c1, c2, c3]) rfl ⟨rfl, (((T.bel.setCell (by simp; try omega) _).setCell (by simp; try omega) _).setCell (by simp; try omega) _).setCell (by simp; try omega) _⟩
        · have hz0 : 0 ≤ X + (d + days) := by omega
          have HR := Lib.hid (sR_2 (k := 1) (d := d) (n := n) (o := o) (days := days) (nanos := nanos) HVP.out HNA.out (by have := HX0.out; omega) (by rw [HD.out]; omega))
          rw [HR.out]
          unfold tR
          go_enter Tryd.func23, Tryd.ntmps23
          go_wp2_with (first | (go_at_call 12; (with_reducible refine (HV.out _).mono ?_); rintro e w1 ⟨rfl, hX⟩; have T := T.step hX; clear hX; obtain ⟨a0, a1, a2, a3⟩ := T.a.cells; obtain ⟨c0, c1, c2, c3⟩ := T.c.cells; have y0 := T.c.fz 0; have y1 := T.c.fz 1; have y2 := T.c.fz 2; have y3 := T.c.fz 3; have x1 := T.a.fz 1; have x2 := T.a.fz 2) | (go_at_call 48; (with_reducible refine (HS.out _).mono ?_); rintro e w1 ⟨rfl, rfl⟩))
          exact bodyPost_ret (v := .tuple #[.agg #[.int .i64 0, .int .i64 0, .int .i64 0, .int .i64 0], .int .i64 2]) (by simp [results, Tryd.results23, go_sem, c0, c1, c2, c3]) rfl ⟨rfl, (((T.bel.setCell (by simp; try omega) _).setCell (by simp; try omega) _).setCell (by simp; try omega) _).setCell (by simp; try omega) _⟩
        · skip
          have HR := Lib.hid ((sR_0 (k := 1) (d := d) (n := n) (o := o) (days := days) (nanos := nanos) HVP.out (by have := HX0.out; omega) ⟨by omega, by omega⟩ (by rw [HD.out]; omega) (by omega)).trans (by rw [HD.out, HN.out]))
          rw [HR.out]
          unfold tR
          go_enter Tryd.func23, Tryd.ntmps23
          go_wp2_with (first | (go_at_call 12; (with_reducible refine (HV.out _).mono ?_); rintro e w1 ⟨rfl, hX⟩; have T := T.step hX; clear hX; obtain ⟨a0, a1, a2, a3⟩ := T.a.cells; obtain ⟨c0, c1, c2, c3⟩ := T.c.cells; have y0 := T.c.fz 0; have y1 := T.c.fz 1; have y2 := T.c.fz 2; have y3 := T.c.fz 3; have x1 := T.a.fz 1; have x2 := T.a.fz 2) | (go_at_call 48; (with_reducible refine (HS.out _).mono ?_); rintro e w1 ⟨rfl, rfl⟩))
          exact bodyPost_ret (v := .tuple #[.agg #[.int .i64 1, .int .i64 (X + (d + days)), .int .i64 N, .int .i64 o], .int .i64 0]) (by simp [results, Tryd.results23, go_sem, c0, c1, c2, c3]) rfl ⟨rfl, ((((T.put _ _).bel.setCell (by simp; try omega) _).setCell (by simp; try omega) _).setCell (by simp; try omega) _).setCell (by simp; try omega) _⟩
    · have hxb : (nanos != 0) = true := by simpa using hx
      have HR := Lib.hid (sR_6 (k := 1) (d := d) (n := n) (o := o) (days := days) (nanos := nanos) HVP.out (by omega))
      rw [HR.out]
      unfold tR
      go_enter Tryd.func23, Tryd.ntmps23
      go_wp2_with (first | (go_at_call 12; (with_reducible refine (HV.out _).mono ?_); rintro e w1 ⟨rfl, hX⟩; have T := T.step hX; clear hX; obtain ⟨a0, a1, a2, a3⟩ := T.a.cells; obtain ⟨c0, c1, c2, c3⟩ := T.c.cells; have y0 := T.c.fz 0; have y1 := T.c.fz 1; have y2 := T.c.fz 2; have y3 := T.c.fz 3; have x1 := T.a.fz 1; have x2 := T.a.fz 2))
      exact bodyPost_ret (v := .tuple #[.agg #[.int .i64 0, .int .i64 0, .int .i64 0, .int .i64 0], .int .i64 6]) (by simp [results, Tryd.results23, go_sem, c0, c1, c2, c3]) rfl ⟨rfl, (((T.bel.setCell (by simp; try omega) _).setCell (by simp; try omega) _).setCell (by simp; try omega) _).setCell (by simp; try omega) _⟩
set_option maxRecDepth 100000 in
set_option maxHeartbeats 4000000 in
theorem rshift_neg2 (d n o days nanos : Int) (w : World) (hdy : -9223372036854775808 ≤ days ∧ days ≤ 9223372036854775807) (hna : -9223372036854775808 ≤ nanos ∧ nanos ≤ 9223372036854775807) (hv : vP 2 d n o) (hs : nanos < 0) : Calls Tryd.prog 23 #[.agg #[.int .i64 2, .int .i64 d, .int .i64 n, .int .i64 o], .int .i64 days, .int .i64 nanos] w fun e w' => e = tR (sR 2 d n o days nanos) ∧ Below w.heap.size w w' := by
  have T := T2.new w 2 d n o
  have HV := Lib.hid (fun w => rvalid_any 2 d n o w)
  rw [← vT_yes hv] at HV
  have HVP := Lib.hid hv
  obtain ⟨d1, d2, n1, n2, o1, o2⟩ := nP_of hv
  have d3 : 0 ≤ d ∧ d ≤ 3652058 := by unfold vP at hv; omega
  have HNA := Lib.hid hna
  obtain ⟨hq, hr⟩ := tdiv_neg' hs
  have q1 : -106753 ≤ nanos.tdiv 86400000000000 := by omega
  have q2 : nanos.tdiv 86400000000000 ≤ 106753 := by omega
  have r1 : -86400000000000 ≤ nanos.tmod 86400000000000 := by omega
  have r2 : nanos.tmod 86400000000000 ≤ 86399999999999 := by omega
  have HS := Lib.hid (fun w => rsplit_any (nanos.tdiv 86400000000000) (n + nanos.tmod 86400000000000) w (by omega) (by omega))
  have e1 : nanos.tdiv 86400000000000 + (n + nanos.tmod 86400000000000) / 86400000000000 = (n + nanos) / 86400000000000 := by omega
  have e2 : (n + nanos.tmod 86400000000000) % 86400000000000 = sN n nanos := by unfold sN; omega
  rw [e1, e2] at HS
  obtain ⟨X, hX⟩ : ∃ X, (n + nanos) / 86400000000000 = X := ⟨_, rfl⟩
  have HD : Hid (sD d n days nanos = X + (d + days)) := Lib.hid (by unfold sD; omega)
  have x1' : -106760 ≤ X := by omega
  have x2' : X ≤ 106760 := by omega
  rw [hX] at HS
  obtain ⟨N, hN⟩ : ∃ N, sN n nanos = N := ⟨_, rfl⟩
  rw [hN] at HS
  have HN := Lib.hid hN
  clear e1 e2 hX hN hv hq hr
  · by_cases hx : days = 0
    · have hxb : (days != 0) = false := by simpa using hx
      have HX0 := Lib.hid hx
      clear hx
      have h1 : -7304116 ≤ days := by have := HX0.out; omega
      have h2 : days ≤ 7304116 := by have := HX0.out; omega
      obtain ⟨D, hD⟩ : ∃ D, X + (d + days) = D := ⟨_, rfl⟩
      have HDX : Hid (sD d n days nanos = D) := Lib.hid (HD.out.trans hD)
      have HDE := Lib.hid hD
      clear hD
      rcases (show X + (d + days) < 0 ∨ 3652058 < X + (d + days) ∨ (0 ≤ X + (d + days) ∧ X + (d + days) ≤ 3652058) by omega) with hz | hz | ⟨hz, hz2⟩
      · skip
        have HR := Lib.hid (sR_2 (k := 2) (d := d) (n := n) (o := o) (days := days) (nanos := nanos) HVP.out HNA.out (by have := HX0.out; omega) (by rw [HD.out]; omega))
        rw [HR.out]
        unfold tR
        go_enter Tryd.func23, Tryd.ntmps23
        go_wp2_with (first | (go_at_call 12; (with_reducible refine (HV.out _).mono ?_); rintro e w1 ⟨rfl, hX⟩; have T := T.step hX; clear hX; obtain ⟨a0, a1, a2, a3⟩ := T.a.cells; obtain ⟨c0, c1, c2, c3⟩ := T.c.cells; have y0 := T.c.fz 0; have y1 := T.c.fz 1; have y2 := T.c.fz 2; have y3 := T.c.fz 3; have x1 := T.a.fz 1; have x2 := T.a.fz 2) | (go_at_call 48; (with_reducible refine (HS.out _).mono ?_); rintro e w1 ⟨rfl, rfl⟩))
        exact bodyPost_ret (v := .tuple #[.agg #[.int .i64 0, .int .i64 0, .int .i64 0, .int .i64 0], .int .i64 2]) (by simp [results, Tryd.results23, go_sem, c0, c1, c2, c3]) rfl ⟨rfl, (((T.bel.setCell (by simp; try omega) _).setCell (by simp; try omega) _).setCell (by simp; try omega) _).setCell (by simp; try omega) _⟩
      · have hz0 : 0 ≤ X + (d + days) := by omega
        have HR := Lib.hid (sR_2 (k := 2) (d := d) (n := n) (o := o) (days := days) (nanos := nanos) HVP.out HNA.out (by have := HX0.out; omega) (by rw [HD.out]; omega))
        rw [HR.out]
        unfold tR
        go_enter Tryd.func23, Tryd.ntmps23
        go_wp2_with (first | (go_at_call 12; (with_reducible refine (HV.out _).mono ?_); rintro e w1 ⟨rfl, hX⟩; have T := T.step hX; clear hX; obtain ⟨a0, a1, a2, a3⟩ := T.a.cells; obtain ⟨c0, c1, c2, c3⟩ := T.c.cells; have y0 := T.c.fz 0; have y1 := T.c.fz 1; have y2 := T.c.fz 2; have y3 := T.c.fz 3; have x1 := T.a.fz 1; have x2 := T.a.fz 2) | (go_at_call 48; (with_reducible refine (HS.out _).mono ?_); rintro e w1 ⟨rfl, rfl⟩))
        exact bodyPost_ret (v := .tuple #[.agg #[.int .i64 0, .int .i64 0, .int .i64 0, .int .i64 0], .int .i64 2]) (by simp [results, Tryd.results23, go_sem, c0, c1, c2, c3]) rfl ⟨rfl, (((T.bel.setCell (by simp; try omega) _).setCell (by simp; try omega) _).setCell (by simp; try omega) _).setCell (by simp; try omega) _⟩
      · by_cases hD0 : X + (d + days) = 0
        · have hDb : (X + (d + days) != 0) = false := by simpa using hD0
          have HD0 := Lib.hid hD0
          clear hD0
          have HR := Lib.hid ((sR_0 (k := 2) (d := d) (n := n) (o := o) (days := days) (nanos := nanos) HVP.out (by have := HX0.out; omega) ⟨by omega, by omega⟩ (by rw [HD.out]; omega) (by rw [HD.out]; have := HD0.out; omega)).trans (by rw [HD.out, HN.out]))
          rw [HR.out]
          unfold tR
          go_enter Tryd.func23, Tryd.ntmps23
          go_wp2_with (first | (go_at_call 12; (with_reducible refine (HV.out _).mono ?_); rintro e w1 ⟨rfl, hX⟩; have T := T.step hX; clear hX; obtain ⟨a0, a1, a2, a3⟩ := T.a.cells; obtain ⟨c0, c1, c2, c3⟩ := T.c.cells; have y0 := T.c.fz 0; have y1 := T.c.fz 1; have y2 := T.c.fz 2; have y3 := T.c.fz 3; have x1 := T.a.fz 1; have x2 := T.a.fz 2) | (go_at_call 48; (with_reducible refine (HS.out _).mono ?_); rintro e w1 ⟨rfl, rfl⟩))
          exact bodyPost_ret (v := .tuple #[.agg #[.int .i64 2, .int .i64 (X + (d + days)), .int .i64 N, .int .i64 o], .int .i64 0]) (by simp [results, Tryd.results23, go_sem, c0, c1, c2, c3]) rfl ⟨rfl, ((((T.put _ _).bel.setCell (by simp; try omega) _).setCell (by simp; try omega) _).setCell (by simp; try omega) _).setCell (by simp; try omega) _⟩
        · have hDb : (X + (d + days) != 0) = true := by simpa using hD0
          have HD0 := Lib.hid hD0
          clear hD0
          have HR := Lib.hid (sR_2 (k := 2) (d := d) (n := n) (o := o) (days := days) (nanos := nanos) HVP.out HNA.out (by have := HX0.out; omega) (by rw [HD.out]; have := HD0.out; omega))
          rw [HR.out]
          unfold tR
          go_enter Tryd.func23, Tryd.ntmps23
          go_wp2_with (first | (go_at_call 12; (with_reducible refine (HV.out _).mono ?_); rintro e w1 ⟨rfl, hX⟩; have T := T.step hX; clear hX; obtain ⟨a0, a1, a2, a3⟩ := T.a.cells; obtain ⟨c0, c1, c2, c3⟩ := T.c.cells; have y0 := T.c.fz 0; have y1 := T.c.fz 1; have y2 := T.c.fz 2; have y3 := T.c.fz 3; have x1 := T.a.fz 1; have x2 := T.a.fz 2) | (go_at_call 48; (with_reducible refine (HS.out _).mono ?_); rintro e w1 ⟨rfl, rfl⟩))
          exact bodyPost_ret (v := .tuple #[.agg #[.int .i64 0, .int .i64 0, .int .i64 0, .int .i64 0], .int .i64 2]) (by simp [results, Tryd.results23, go_sem, c0, c1, c2, c3]) rfl ⟨rfl, (((T.bel.setCell (by simp; try omega) _).setCell (by simp; try omega) _).setCell (by simp; try omega) _).setCell (by simp; try omega) _⟩
    · have hxb : (days != 0) = true := by simpa using hx
      have HR := Lib.hid (sR_6 (k := 2) (d := d) (n := n) (o := o) (days := days) (nanos := nanos) HVP.out (by omega))
      rw [HR.out]
      unfold tR
      go_enter Tryd.func23, Tryd.ntmps23
      go_wp2_with (first | (go_at_call 12; (with_reducible refine (HV.out _).mono ?_); rintro e w1 ⟨rfl, hX⟩; have T := T.step hX; clear hX; obtain ⟨a0, a1, a2, a3⟩ := T.a.cells; obtain ⟨c0, c1, c2, c3⟩ := T.c.cells; have y0 := T.c.fz 0; have y1 := T.c.fz 1; have y2 := T.c.fz 2; have y3 := T.c.fz 3; have x1 := T.a.fz 1; have x2 := T.a.fz 2))
      exact bodyPost_ret (v := .tuple #[.agg #[.int .i64 0, .int .i64 0, .int .i64 0, .int .i64 0], .int .i64 6]) (by simp [results, Tryd.results23, go_sem, c0, c1, c2, c3]) rfl ⟨rfl, (((T.bel.setCell (by simp; try omega) _).setCell (by simp; try omega) _).setCell (by simp; try omega) _).setCell (by simp; try omega) _⟩
set_option maxRecDepth 100000 in
set_option maxHeartbeats 4000000 in
theorem rshift_neg3 (d n o days nanos : Int) (w : World) (hdy : -9223372036854775808 ≤ days ∧ days ≤ 9223372036854775807) (hna : -9223372036854775808 ≤ nanos ∧ nanos ≤ 9223372036854775807) (hv : vP 3 d n o) (hs : nanos < 0) : Calls Tryd.prog 23 #[.agg #[.int .i64 3, .int .i64 d, .int .i64 n, .int .i64 o], .int .i64 days, .int .i64 nanos] w fun e w' => e = tR (sR 3 d n o days nanos) ∧ Below w.heap.size w w' := by
  have T := T2.new w 3 d n o
  have HV := Lib.hid (fun w => rvalid_any 3 d n o w)
  rw [← vT_yes hv] at HV
  have HVP := Lib.hid hv
  obtain ⟨d1, d2, n1, n2, o1, o2⟩ := nP_of hv
  have d3 : 0 ≤ d ∧ d ≤ 3652058 := by unfold vP at hv; omega
  have HNA := Lib.hid hna
  obtain ⟨hq, hr⟩ := tdiv_neg' hs
  have q1 : -106753 ≤ nanos.tdiv 86400000000000 := by omega
  have q2 : nanos.tdiv 86400000000000 ≤ 106753 := by omega
  have r1 : -86400000000000 ≤ nanos.tmod 86400000000000 := by omega
  have r2 : nanos.tmod 86400000000000 ≤ 86399999999999 := by omega
  have HS := Lib.hid (fun w => rsplit_any (nanos.tdiv 86400000000000) (n + nanos.tmod 86400000000000) w (by omega) (by omega))
  have e1 : nanos.tdiv 86400000000000 + (n + nanos.tmod 86400000000000) / 86400000000000 = (n + nanos) / 86400000000000 := by omega
  have e2 : (n + nanos.tmod 86400000000000) % 86400000000000 = sN n nanos := by unfold sN; omega
  rw [e1, e2] at HS
  obtain ⟨X, hX⟩ : ∃ X, (n + nanos) / 86400000000000 = X := ⟨_, rfl⟩
  have HD : Hid (sD d n days nanos = X + (d + days)) := Lib.hid (by unfold sD; omega)
  have x1' : -106760 ≤ X := by omega
  have x2' : X ≤ 106760 := by omega
  rw [hX] at HS
  obtain ⟨N, hN⟩ : ∃ N, sN n nanos = N := ⟨_, rfl⟩
  rw [hN] at HS
  have HN := Lib.hid hN
  clear e1 e2 hX hN hv hq hr
  · skip
    rcases (show days < -7304116 ∨ 7304116 < days ∨ (-7304116 ≤ days ∧ days ≤ 7304116) by omega) with h | h | ⟨h1, h2⟩
    · skip
      have HR := Lib.hid (sR_2 (k := 3) (d := d) (n := n) (o := o) (days := days) (nanos := nanos) HVP.out HNA.out (by omega) (by omega))
      rw [HR.out]
      unfold tR
      go_enter Tryd.func23, Tryd.ntmps23
      go_wp2_with (first | (go_at_call 12; (with_reducible refine (HV.out _).mono ?_); rintro e w1 ⟨rfl, hX⟩; have T := T.step hX; clear hX; obtain ⟨a0, a1, a2, a3⟩ := T.a.cells; obtain ⟨c0, c1, c2, c3⟩ := T.c.cells; have y0 := T.c.fz 0; have y1 := T.c.fz 1; have y2 := T.c.fz 2; have y3 := T.c.fz 3; have x1 := T.a.fz 1; have x2 := T.a.fz 2) | (go_at_call 48; (with_reducible refine (HS.out _).mono ?_); rintro e w1 ⟨rfl, rfl⟩))
      exact bodyPost_ret (v := .tuple #[.agg #[.int .i64 0, .int .i64 0, .int .i64 0, .int .i64 0], .int .i64 2]) (by simp [results, Tryd.results23, go_sem, c0, c1, c2, c3]) rfl ⟨rfl, (((T.bel.setCell (by simp; try omega) _).setCell (by simp; try omega) _).setCell (by simp; try omega) _).setCell (by simp; try omega) _⟩
    · have h0 : -7304116 ≤ days := by omega
      have HR := Lib.hid (sR_2 (k := 3) (d := d) (n := n) (o := o) (days := days) (nanos := nanos) HVP.out HNA.out (by omega) (by omega))
      rw [HR.out]
      unfold tR
      go_enter Tryd.func23, Tryd.ntmps23
      go_wp2_with (first | (go_at_call 12; (with_reducible refine (HV.out _).mono ?_); rintro e w1 ⟨rfl, hX⟩; have T := T.step hX; clear hX; obtain ⟨a0, a1, a2, a3⟩ := T.a.cells; obtain ⟨c0, c1, c2, c3⟩ := T.c.cells; have y0 := T.c.fz 0; have y1 := T.c.fz 1; have y2 := T.c.fz 2; have y3 := T.c.fz 3; have x1 := T.a.fz 1; have x2 := T.a.fz 2) | (go_at_call 48; (with_reducible refine (HS.out _).mono ?_); rintro e w1 ⟨rfl, rfl⟩))
      exact bodyPost_ret (v := .tuple #[.agg #[.int .i64 0, .int .i64 0, .int .i64 0, .int .i64 0], .int .i64 2]) (by simp [results, Tryd.results23, go_sem, c0, c1, c2, c3]) rfl ⟨rfl, (((T.bel.setCell (by simp; try omega) _).setCell (by simp; try omega) _).setCell (by simp; try omega) _).setCell (by simp; try omega) _⟩
    · skip
      obtain ⟨D, hD⟩ : ∃ D, X + (d + days) = D := ⟨_, rfl⟩
      have HDX : Hid (sD d n days nanos = D) := Lib.hid (HD.out.trans hD)
      have HDE := Lib.hid hD
      clear hD
      rcases (show X + (d + days) < 0 ∨ 3652058 < X + (d + days) ∨ (0 ≤ X + (d + days) ∧ X + (d + days) ≤ 3652058) by omega) with hz | hz | ⟨hz, hz2⟩
      · skip
        have HR := Lib.hid (sR_2 (k := 3) (d := d) (n := n) (o := o) (days := days) (nanos := nanos) HVP.out HNA.out (by omega) (by rw [HD.out]; omega))
        rw [HR.out]
        unfold tR
        go_enter Tryd.func23, Tryd.ntmps23
        go_wp2_with (first | (go_at_call 12; (with_reducible refine (HV.out _).mono ?_); rintro e w1 ⟨rfl, hX⟩; have T := T.step hX; clear hX; obtain ⟨a0, a1, a2, a3⟩ := T.a.cells; obtain ⟨c0, c1, c2, c3⟩ := T.c.cells; have y0 := T.c.fz 0; have y1 := T.c.fz 1; have y2 := T.c.fz 2; have y3 := T.c.fz 3; have x1 := T.a.fz 1; have x2 := T.a.fz 2) | (go_at_call 48; (with_reducible refine (HS.out _).mono ?_); rintro e w1 ⟨rfl, rfl⟩))
        exact bodyPost_ret (v := .tuple #[.agg #[.int .i64 0, .int .i64 0, .int .i64 0, .int .i64 0], .int .i64 2]) (by simp [results, Tryd.results23, go_sem, c0, c1, c2, c3]) rfl ⟨rfl, (((T.bel.setCell (by simp; try omega) _).setCell (by simp; try omega) _).setCell (by simp; try omega) _).setCell (by simp; try omega) _⟩
      · have hz0 : 0 ≤ X + (d + days) := by omega
        have HR := Lib.hid (sR_2 (k := 3) (d := d) (n := n) (o := o) (days := days) (nanos := nanos) HVP.out HNA.out (by omega) (by rw [HD.out]; omega))
        rw [HR.out]
        unfold tR
        go_enter Tryd.func23, Tryd.ntmps23
        go_wp2_with (first | (go_at_call 12; (with_reducible refine (HV.out _).mono ?_); rintro e w1 ⟨rfl, hX⟩; have T := T.step hX; clear hX; obtain ⟨a0, a1, a2, a3⟩ := T.a.cells; obtain ⟨c0, c1, c2, c3⟩ := T.c.cells; have y0 := T.c.fz 0; have y1 := T.c.fz 1; have y2 := T.c.fz 2; have y3 := T.c.fz 3; have x1 := T.a.fz 1; have x2 := T.a.fz 2) | (go_at_call 48; (with_reducible refine (HS.out _).mono ?_); rintro e w1 ⟨rfl, rfl⟩))
        exact bodyPost_ret (v := .tuple #[.agg #[.int .i64 0, .int .i64 0, .int .i64 0, .int .i64 0], .int .i64 2]) (by simp [results, Tryd.results23, go_sem, c0, c1, c2, c3]) rfl ⟨rfl, (((T.bel.setCell (by simp; try omega) _).setCell (by simp; try omega) _).setCell (by simp; try omega) _).setCell (by simp; try omega) _⟩
      · skip
        have HR := Lib.hid ((sR_0 (k := 3) (d := d) (n := n) (o := o) (days := days) (nanos := nanos) HVP.out (by omega) ⟨by omega, by omega⟩ (by rw [HD.out]; omega) (by omega)).trans (by rw [HD.out, HN.out]))
        rw [HR.out]
        unfold tR
        go_enter Tryd.func23, Tryd.ntmps23
        go_wp2_with (first | (go_at_call 12; (with_reducible refine (HV.out _).mono ?_); rintro e w1 ⟨rfl, hX⟩; have T := T.step hX; clear hX; obtain ⟨a0, a1, a2, a3⟩ := T.a.cells; obtain ⟨c0, c1, c2, c3⟩ := T.c.cells; have y0 := T.c.fz 0; have y1 := T.c.fz 1; have y2 := T.c.fz 2; have y3 := T.c.fz 3; have x1 := T.a.fz 1; have x2 := T.a.fz 2) | (go_at_call 48; (with_reducible refine (HS.out _).mono ?_); rintro e w1 ⟨rfl, rfl⟩))
        exact bodyPost_ret (v := .tuple #[.agg #[.int .i64 3, .int .i64 (X + (d + days)), .int .i64 N, .int .i64 o], .int .i64 0]) (by simp [results, Tryd.results23, go_sem, c0, c1, c2, c3]) rfl ⟨rfl, ((((T.put _ _).bel.setCell (by simp; try omega) _).setCell (by simp; try omega) _).setCell (by simp; try omega) _).setCell (by simp; try omega) _⟩
set_option maxRecDepth 100000 in
set_option maxHeartbeats 4000000 in
theorem rshift_neg4 (d n o days nanos : Int) (w : World) (hdy : -9223372036854775808 ≤ days ∧ days ≤ 9223372036854775807) (hna : -9223372036854775808 ≤ nanos ∧ nanos ≤ 9223372036854775807) (hv : vP 4 d n o) (hs : nanos < 0) : Calls Tryd.prog 23 #[.agg #[.int .i64 4, .int .i64 d, .int .i64 n, .int .i64 o], .int .i64 days, .int .i64 nanos] w fun e w' => e = tR (sR 4 d n o days nanos) ∧ Below w.heap.size w w' := by
  have T := T2.new w 4 d n o
  have HV := Lib.hid (fun w => rvalid_any 4 d n o w)
  rw [← vT_yes hv] at HV
  have HVP := Lib.hid hv
  obtain ⟨d1, d2, n1, n2, o1, o2⟩ := nP_of hv
  have d3 : 0 ≤ d ∧ d ≤ 3652058 := by unfold vP at hv; omega
  have HNA := Lib.hid hna
  obtain ⟨hq, hr⟩ := tdiv_neg' hs
  have q1 : -106753 ≤ nanos.tdiv 86400000000000 := by omega
  have q2 : nanos.tdiv 86400000000000 ≤ 106753 := by omega
  have r1 : -86400000000000 ≤ nanos.tmod 86400000000000 := by omega
  have r2 : nanos.tmod 86400000000000 ≤ 86399999999999 := by omega
  have HS := Lib.hid (fun w => rsplit_any (nanos.tdiv 86400000000000) (n + nanos.tmod 86400000000000) w (by omega) (by omega))
  have e1 : nanos.tdiv 86400000000000 + (n + nanos.tmod 86400000000000) / 86400000000000 = (n + nanos) / 86400000000000 := by omega
  have e2 : (n + nanos.tmod 86400000000000) % 86400000000000 = sN n nanos := by unfold sN; omega
  rw [e1, e2] at HS
  obtain ⟨X, hX⟩ : ∃ X, (n + nanos) / 86400000000000 = X := ⟨_, rfl⟩
  have HD : Hid (sD d n days nanos = X + (d + days)) := Lib.hid (by unfold sD; omega)
  have x1' : -106760 ≤ X := by omega
  have x2' : X ≤ 106760 := by omega
  rw [hX] at HS
  obtain ⟨N, hN⟩ : ∃ N, sN n nanos = N := ⟨_, rfl⟩
  rw [hN] at HS
  have HN := Lib.hid hN
  clear e1 e2 hX hN hv hq hr
  · skip
    rcases (show days < -7304116 ∨ 7304116 < days ∨ (-7304116 ≤ days ∧ days ≤ 7304116) by omega) with h | h | ⟨h1, h2⟩
    · skip
      have HR := Lib.hid (sR_2 (k := 4) (d := d) (n := n) (o := o) (days := days) (nanos := nanos) HVP.out HNA.out (by omega) (by omega))
      rw [HR.out]
      unfold tR
      go_enter Tryd.func23, Tryd.ntmps23
      go_wp2_with (first | (go_at_call 12; (with_reducible refine (HV.out _).mono ?_); rintro e w1 ⟨rfl, hX⟩; have T := T.step hX; clear hX; obtain ⟨a0, a1, a2, a3⟩ := T.a.cells; obtain ⟨c0, c1, c2, c3⟩ := T.c.cells; have y0 := T.c.fz 0; have y1 := T.c.fz 1; have y2 := T.c.fz 2; have y3 := T.c.fz 3; have x1 := T.a.fz 1; have x2 := T.a.fz 2) | (go_at_call 48; (with_reducible refine (HS.out _).mono ?_); rintro e w1 ⟨rfl, rfl⟩))
      exact bodyPost_ret (v := .tuple #[.agg #[.int .i64 0, .int .i64 0, .int .i64 0, .int .i64 0], .int .i64 2]) (by simp [results, Tryd.results23, go_sem, c0, c1, c2, c3]) rfl ⟨rfl, (((T.bel.setCell (by simp; try omega) _).setCell (by simp; try omega) _).setCell (by simp; try omega) _).setCell (by simp; try omega) _⟩
    · have h0 : -7304116 ≤ days := by omega
      have HR := Lib.hid (sR_2 (k := 4) (d := d) (n := n) (o := o) (days := days) (nanos := nanos) HVP.out HNA.out (by omega) (by omega))
      rw [HR.out]
      unfold tR
      go_enter Tryd.func23, Tryd.ntmps23
      go_wp2_with (first | (go_at_call 12; (with_reducible refine (HV.out _).mono ?_); rintro e w1 ⟨rfl, hX⟩; have T := T.step hX; clear hX; obtain ⟨a0, a1, a2, a3⟩ := T.a.cells; obtain ⟨c0, c1, c2, c3⟩ := T.c.cells; have y0 := T.c.fz 0; have y1 := T.c.fz 1; have y2 := T.c.fz 2; have y3 := T.c.fz 3; have x1 := T.a.fz 1; have x2 := T.a.fz 2) | (go_at_call 48; (with_reducible refine (HS.out _).mono ?_); rintro e w1 ⟨rfl, rfl⟩))
      exact bodyPost_ret (v := .tuple #[.agg #[.int .i64 0, .int .i64 0, .int .i64 0, .int .i64 0], .int .i64 2]) (by simp [results, Tryd.results23, go_sem, c0, c1, c2, c3]) rfl ⟨rfl, (((T.bel.setCell (by simp; try omega) _).setCell (by simp; try omega) _).setCell (by simp; try omega) _).setCell (by simp; try omega) _⟩
    · skip
      obtain ⟨D, hD⟩ : ∃ D, X + (d + days) = D := ⟨_, rfl⟩
      have HDX : Hid (sD d n days nanos = D) := Lib.hid (HD.out.trans hD)
      have HDE := Lib.hid hD
      clear hD
      rcases (show X + (d + days) < 0 ∨ 3652058 < X + (d + days) ∨ (0 ≤ X + (d + days) ∧ X + (d + days) ≤ 3652058) by omega) with hz | hz | ⟨hz, hz2⟩
      · skip
        have HR := Lib.hid (sR_2 (k := 4) (d := d) (n := n) (o := o) (days := days) (nanos := nanos) HVP.out HNA.out (by omega) (by rw [HD.out]; omega))
        rw [HR.out]
        unfold tR
        go_enter Tryd.func23, Tryd.ntmps23
        go_wp2_with (first | (go_at_call 12; (with_reducible refine (HV.out _).mono ?_); rintro e w1 ⟨rfl, hX⟩; have T := T.step hX; clear hX; obtain ⟨a0, a1, a2, a3⟩ := T.a.cells; obtain ⟨c0, c1, c2, c3⟩ := T.c.cells; have y0 := T.c.fz 0; have y1 := T.c.fz 1; have y2 := T.c.fz 2; have y3 := T.c.fz 3; have x1 := T.a.fz 1; have x2 := T.a.fz 2) | (go_at_call 48; (with_reducible refine (HS.out _).mono ?_); rintro e w1 ⟨rfl, rfl⟩))
        exact bodyPost_ret (v := .tuple #[.agg #[.int .i64 0, .int .i64 0, .int .i64 0, .int .i64 0], .int .i64 2]) (by simp [results, Tryd.results23, go_sem, c0, c1, c2, c3]) rfl ⟨rfl, (((T.bel.setCell (by simp; try omega) _).setCell (by simp; try omega) _).setCell (by simp; try omega) _).setCell (by simp; try omega) _⟩
      · have hz0 : 0 ≤ X + (d + days) := by omega
        have HR := Lib.hid (sR_2 (k := 4) (d := d) (n := n) (o := o) (days := days) (nanos := nanos) HVP.out HNA.out (by omega) (by rw [HD.out]; omega))
        rw [HR.out]
        unfold tR
        go_enter Tryd.func23, Tryd.ntmps23
        go_wp2_with (first | (go_at_call 12; (with_reducible refine (HV.out _).mono ?_); rintro e w1 ⟨rfl, hX⟩; have T := T.step hX; clear hX; obtain ⟨a0, a1, a2, a3⟩ := T.a.cells; obtain ⟨c0, c1, c2, c3⟩ := T.c.cells; have y0 := T.c.fz 0; have y1 := T.c.fz 1; have y2 := T.c.fz 2; have y3 := T.c.fz 3; have x1 := T.a.fz 1; have x2 := T.a.fz 2) | (go_at_call 48; (with_reducible refine (HS.out _).mono ?_); rintro e w1 ⟨rfl, rfl⟩))
        exact bodyPost_ret (v := .tuple #[.agg #[.int .i64 0, .int .i64 0, .int .i64 0, .int .i64 0], .int .i64 2]) (by simp [results, Tryd.results23, go_sem, c0, c1, c2, c3]) rfl ⟨rfl, (((T.bel.setCell (by simp; try omega) _).setCell (by simp; try omega) _).setCell (by simp; try omega) _).setCell (by simp; try omega) _⟩
      · skip
        have HR := Lib.hid ((sR_0 (k := 4) (d := d) (n := n) (o := o) (days := days) (nanos := nanos) HVP.out (by omega) ⟨by omega, by omega⟩ (by rw [HD.out]; omega) (by omega)).trans (by rw [HD.out, HN.out]))
        rw [HR.out]
        unfold tR
        go_enter Tryd.func23, Tryd.ntmps23
        go_wp2_with (first | (go_at_call 12; (with_reducible refine (HV.out _).mono ?_); rintro e w1 ⟨rfl, hX⟩; have T := T.step hX; clear hX; obtain ⟨a0, a1, a2, a3⟩ := T.a.cells; obtain ⟨c0, c1, c2, c3⟩ := T.c.cells; have y0 := T.c.fz 0; have y1 := T.c.fz 1; have y2 := T.c.fz 2; have y3 := T.c.fz 3; have x1 := T.a.fz 1; have x2 := T.a.fz 2) | (go_at_call 48; (with_reducible refine (HS.out _).mono ?_); rintro e w1 ⟨rfl, rfl⟩))
        exact bodyPost_ret (v := .tuple #[.agg #[.int .i64 4, .int .i64 (X + (d + days)), .int .i64 N, .int .i64 o], .int .i64 0]) (by simp [results, Tryd.results23, go_sem, c0, c1, c2, c3]) rfl ⟨rfl, ((((T.put _ _).bel.setCell (by simp; try omega) _).setCell (by simp; try omega) _).setCell (by simp; try omega) _).setCell (by simp; try omega) _⟩
set_option maxRecDepth 100000 in
set_option maxHeartbeats 4000000 in
theorem rshift_any (k d n o days nanos : Int) (w : World) (hdy : -9223372036854775808 ≤ days ∧ days ≤ 9223372036854775807) (hna : -9223372036854775808 ≤ nanos ∧ nanos ≤ 9223372036854775807) : Calls Tryd.prog 23 #[.agg #[.int .i64 k, .int .i64 d, .int .i64 n, .int .i64 o], .int .i64 days, .int .i64 nanos] w fun e w' => e = tR (sR k d n o days nanos) ∧ Below w.heap.size w w' := by
  by_cases hv : vP k d n o
  · have hk : k = 1 ∨ k = 2 ∨ k = 3 ∨ k = 4 := by unfold vP at hv; omega
    by_cases hs : 0 ≤ nanos
    · rcases hk with rfl | rfl | rfl | rfl
      · exact rshift_pos1 d n o days nanos w hdy hna hv hs
      · exact rshift_pos2 d n o days nanos w hdy hna hv hs
      · exact rshift_pos3 d n o days nanos w hdy hna hv hs
      · exact rshift_pos4 d n o days nanos w hdy hna hv hs
    · rcases hk with rfl | rfl | rfl | rfl
      · exact rshift_neg1 d n o days nanos w hdy hna hv (by omega)
      · exact rshift_neg2 d n o days nanos w hdy hna hv (by omega)
      · exact rshift_neg3 d n o days nanos w hdy hna hv (by omega)
      · exact rshift_neg4 d n o days nanos w hdy hna hv (by omega)
  · have T := T2.new w k d n o
    have HV := Lib.hid (fun w => rvalid_any k d n o w)
    rw [← vT_no hv] at HV
    have HR : Hid (sR k d n o days nanos = (0, 0, 0, 0, 1)) := Lib.hid (by unfold sR; rw [if_neg hv])
    rw [HR.out]
    unfold tR
    clear hv
    go_enter Tryd.func23, Tryd.ntmps23
    go_wp2_with (go_at_call 12; (with_reducible refine (HV.out _).mono ?_); rintro e w1 ⟨rfl, hX⟩; have T := T.step hX; clear hX; obtain ⟨a0, a1, a2, a3⟩ := T.a.cells; obtain ⟨c0, c1, c2, c3⟩ := T.c.cells; have y0 := T.c.fz 0; have y1 := T.c.fz 1; have y2 := T.c.fz 2; have y3 := T.c.fz 3; have x1 := T.a.fz 1; have x2 := T.a.fz 2)
    exact bodyPost_ret (v := .tuple #[.agg #[.int .i64 0, .int .i64 0, .int .i64 0, .int .i64 0], .int .i64 1]) (by simp [results, Tryd.results23, go_sem, c0, c1, c2, c3]) rfl ⟨rfl, (((T.bel.setCell (by simp; try omega) _).setCell (by simp; try omega) _).setCell (by simp; try omega) _).setCell (by simp; try omega) _⟩
end Go.Proofs.YtbgkldncoigggaaDoor.Mom
