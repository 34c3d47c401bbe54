/-
  The law's walk: DecimalOrder.
-/
import Derived.Test.YtelehjdhjjedhabDoorDecP
namespace Go.Proofs.YtelehjdhjjedhabDoor.Dec
open Go.RowKit
set_option linter.unusedVariables false
set_option linter.unusedSimpArgs false
open Go.Proofs.YtelehjdhjjedhabDoor.Dig

theorem icmp_neg (a b : Int) : icmp b a = 0 - icmp a b := by unfold icmp; split <;> split <;> (try split) <;> omega
theorem icmp_le {a b : Int} : icmp a b ≤ 0 ↔ a ≤ b := by unfold icmp; split <;> (try split) <;> omega
theorem icmp_eq {a b : Int} : icmp a b = 0 ↔ a = b := by unfold icmp; split <;> (try split) <;> omega
theorem icmp_add (a b c : Int) : icmp (a + c) (b + c) = icmp a b := by unfold icmp; split <;> split <;> (try split) <;> (try split) <;> omega
set_option maxRecDepth 100000 in
set_option maxHeartbeats 8000000 in
theorem order_ok (g1 : Bool) (n1 : Nat) (x1 : Int) (g2 : Bool) (n2 : Nat) (x2 : Int) (g3 : Bool) (n3 : Nat) (x3 : Int) (w : World) (h1 : okD g1 n1 x1) (h2 : okD g2 n2 x2) (h3 : okD g3 n3 x3) : Calls Tryd.prog 7 #[.agg #[.bool g1, .string (S n1), .int .i64 x1, .bool g2, .string (S n2), .int .i64 x2, .bool g3, .string (S n3), .int .i64 x3]] w fun e w' => e = .returned (.bool true) ∧ Below w.heap.size w w' := by
  have HL := Lib.hid lives_any
  have HV1 := Lib.hid (fun w => rdvalid_ok w h1)
  have HV2 := Lib.hid (fun w => rdvalid_ok w h2)
  have HV3 := Lib.hid (fun w => rdvalid_ok w h3)
  have HC12 := Lib.hid (fun w => dcmp_any g1 n1 x1 g2 n2 x2 w h1 h2)
  have HC21 := Lib.hid (fun w => dcmp_any g2 n2 x2 g1 n1 x1 w h2 h1)
  have HC23 := Lib.hid (fun w => dcmp_any g2 n2 x2 g3 n3 x3 w h2 h3)
  have HC13 := Lib.hid (fun w => dcmp_any g1 n1 x1 g3 n3 x3 w h1 h3)
  rw [dcmp_V h1 h2] at HC12
  rw [dcmp_V h2 h1, icmp_neg] at HC21
  rw [dcmp_V h2 h3] at HC23
  rw [dcmp_V h1 h3] at HC13
  obtain ⟨pa, pn, px, pe, hp⟩ : ∃ a b c d, addR g1 n1 x1 g3 n3 x3 = (a, b, c, d) := ⟨_, _, _, _, rfl⟩
  obtain ⟨qa, qn, qx, qe, hq⟩ : ∃ a b c d, addR g2 n2 x2 g3 n3 x3 = (a, b, c, d) := ⟨_, _, _, _, rfl⟩
  have HA := Lib.hid (fun w => dadd_any g1 n1 x1 g3 n3 x3 w h1 h3)
  have HB := Lib.hid (fun w => dadd_any g2 n2 x2 g3 n3 x3 w h2 h3)
  have ka := addR_V h1 h3
  have kb := addR_V h2 h3
  rw [hp] at HA ka
  rw [hq] at HB kb
  unfold retR at HA HB
  simp only at HA HB ka kb
  have HC := Lib.hid (fun w => dcmp_any pa pn px qa qn qx w ka.1 kb.1)
  rw [dcmp_V ka.1 kb.1] at HC
  have hfin : pe = 0 → qe = 0 → icmp (V pa pn px) (V qa qn qx) = icmp (V g1 n1 x1) (V g2 n2 x2) := fun e f => by
    rw [ka.2 e, kb.2 f, icmp_add]
  have htr : icmp (V g1 n1 x1) (V g2 n2 x2) ≤ 0 → icmp (V g2 n2 x2) (V g3 n3 x3) ≤ 0 → icmp (V g1 n1 x1) (V g3 n3 x3) ≤ 0 := fun a b => by
    rw [icmp_le] at *; omega
  have hinj : icmp (V g1 n1 x1) (V g2 n2 x2) = 0 → g1 = g2 ∧ n1 = n2 ∧ x1 = x2 := fun e => V_inj h1 h2 (icmp_eq.1 e)
  have hinj2 : icmp (V g1 n1 x1) (V g2 n2 x2) ≠ 0 → ¬ (g1 = g2 ∧ S n1 = S n2 ∧ x1 = x2) := fun e q => by
    obtain ⟨rfl, q2, rfl⟩ := q
    have := S_inj.1 q2
    subst this
    exact e (icmp_eq.2 rfl)
  have hi3 := icmp_cases (V g1 n1 x1) (V g2 n2 x2)
  generalize icmp (V pa pn px) (V qa qn qx) = j at *
  generalize icmp (V g1 n1 x1) (V g2 n2 x2) = i at *
  generalize icmp (V g2 n2 x2) (V g3 n3 x3) = k at *
  generalize icmp (V g1 n1 x1) (V g3 n3 x3) = l at *
  have HF := Lib.hid hfin
  have HT := Lib.hid htr
  have HI := Lib.hid hinj
  have HJ := Lib.hid hinj2
  have HI3 := Lib.hid hi3
  clear hfin htr hinj hinj2 hi3 ka kb hp hq h1 h2 h3
  go_enter Tryd.func7, Tryd.ntmps7
  go_upto_region 1 with fail
  go_cut [3, 4, 5] (fun t3 t4 t5 wx => ∃ A B C : Nat, t3 = .pointer (some ⟨A, 0, none⟩) ∧ t4 = .pointer (some ⟨B, 0, none⟩) ∧ t5 = .pointer (some ⟨C, 0, none⟩) ∧ DC wx A g1 (S n1) x1 ∧ DC wx B g2 (S n2) x2 ∧ DC wx C g3 (S n3) x3 ∧ Below w.heap.size w wx)
  case first =>
    go_region_held3 (fun (W : World) => W.cell? ⟨w.heap.size, 0, none⟩ = some (.bool g1) ∧ W.cell? ⟨w.heap.size, 1, none⟩ = some (.string (S n1)) ∧ W.cell? ⟨w.heap.size, 2, none⟩ = some (.int .i64 x1) ∧ W.cell? ⟨w.heap.size, 3, none⟩ = some (.bool g2) ∧ W.cell? ⟨w.heap.size, 4, none⟩ = some (.string (S n2)) ∧ W.cell? ⟨w.heap.size, 5, none⟩ = some (.int .i64 x2) ∧ W.cell? ⟨w.heap.size, 6, none⟩ = some (.bool g3) ∧ W.cell? ⟨w.heap.size, 7, none⟩ = some (.string (S n3)) ∧ W.cell? ⟨w.heap.size, 8, none⟩ = some (.int .i64 x3)) (go_keep) (fail)
    all_goals
      go_wp2_with fail
      go_meet
      first | exact ⟨_, _, _, rfl, rfl, rfl, (three_new w (.cells #[.bool g1, .string (S n1), .int .i64 x1, .bool g2, .string (S n2), .int .i64 x2, .bool g3, .string (S n3), .int .i64 x3] 42) g1 (S n1) x1 g2 (S n2) x2 g3 (S n3) x3).1, (three_new w (.cells #[.bool g1, .string (S n1), .int .i64 x1, .bool g2, .string (S n2), .int .i64 x2, .bool g3, .string (S n3), .int .i64 x3] 42) g1 (S n1) x1 g2 (S n2) x2 g3 (S n3) x3).2.1, (three_new w (.cells #[.bool g1, .string (S n1), .int .i64 x1, .bool g2, .string (S n2), .int .i64 x2, .bool g3, .string (S n3), .int .i64 x3] 42) g1 (S n1) x1 g2 (S n2) x2 g3 (S n3) x3).2.2.1, (three_new w (.cells #[.bool g1, .string (S n1), .int .i64 x1, .bool g2, .string (S n2), .int .i64 x2, .bool g3, .string (S n3), .int .i64 x3] 42) g1 (S n1) x1 g2 (S n2) x2 g3 (S n3) x3).2.2.2⟩ | exact ⟨_, _, _, rfl, rfl, rfl, (three_new w (.cells #[.bool g1, .string (S n1), .int .i64 x1, .bool g2, .string (S n2), .int .i64 x2, .bool g3, .string (S n3), .int .i64 x3] 42) g1 (S n1) x1 g3 (S n3) x3 g2 (S n2) x2).1, (three_new w (.cells #[.bool g1, .string (S n1), .int .i64 x1, .bool g2, .string (S n2), .int .i64 x2, .bool g3, .string (S n3), .int .i64 x3] 42) g1 (S n1) x1 g3 (S n3) x3 g2 (S n2) x2).2.2.1, (three_new w (.cells #[.bool g1, .string (S n1), .int .i64 x1, .bool g2, .string (S n2), .int .i64 x2, .bool g3, .string (S n3), .int .i64 x3] 42) g1 (S n1) x1 g3 (S n3) x3 g2 (S n2) x2).2.1, (three_new w (.cells #[.bool g1, .string (S n1), .int .i64 x1, .bool g2, .string (S n2), .int .i64 x2, .bool g3, .string (S n3), .int .i64 x3] 42) g1 (S n1) x1 g3 (S n3) x3 g2 (S n2) x2).2.2.2⟩ | exact ⟨_, _, _, rfl, rfl, rfl, (three_new w (.cells #[.bool g1, .string (S n1), .int .i64 x1, .bool g2, .string (S n2), .int .i64 x2, .bool g3, .string (S n3), .int .i64 x3] 42) g2 (S n2) x2 g1 (S n1) x1 g3 (S n3) x3).2.1, (three_new w (.cells #[.bool g1, .string (S n1), .int .i64 x1, .bool g2, .string (S n2), .int .i64 x2, .bool g3, .string (S n3), .int .i64 x3] 42) g2 (S n2) x2 g1 (S n1) x1 g3 (S n3) x3).1, (three_new w (.cells #[.bool g1, .string (S n1), .int .i64 x1, .bool g2, .string (S n2), .int .i64 x2, .bool g3, .string (S n3), .int .i64 x3] 42) g2 (S n2) x2 g1 (S n1) x1 g3 (S n3) x3).2.2.1, (three_new w (.cells #[.bool g1, .string (S n1), .int .i64 x1, .bool g2, .string (S n2), .int .i64 x2, .bool g3, .string (S n3), .int .i64 x3] 42) g2 (S n2) x2 g1 (S n1) x1 g3 (S n3) x3).2.2.2⟩ | exact ⟨_, _, _, rfl, rfl, rfl, (three_new w (.cells #[.bool g1, .string (S n1), .int .i64 x1, .bool g2, .string (S n2), .int .i64 x2, .bool g3, .string (S n3), .int .i64 x3] 42) g2 (S n2) x2 g3 (S n3) x3 g1 (S n1) x1).2.2.1, (three_new w (.cells #[.bool g1, .string (S n1), .int .i64 x1, .bool g2, .string (S n2), .int .i64 x2, .bool g3, .string (S n3), .int .i64 x3] 42) g2 (S n2) x2 g3 (S n3) x3 g1 (S n1) x1).1, (three_new w (.cells #[.bool g1, .string (S n1), .int .i64 x1, .bool g2, .string (S n2), .int .i64 x2, .bool g3, .string (S n3), .int .i64 x3] 42) g2 (S n2) x2 g3 (S n3) x3 g1 (S n1) x1).2.1, (three_new w (.cells #[.bool g1, .string (S n1), .int .i64 x1, .bool g2, .string (S n2), .int .i64 x2, .bool g3, .string (S n3), .int .i64 x3] 42) g2 (S n2) x2 g3 (S n3) x3 g1 (S n1) x1).2.2.2⟩ | exact ⟨_, _, _, rfl, rfl, rfl, (three_new w (.cells #[.bool g1, .string (S n1), .int .i64 x1, .bool g2, .string (S n2), .int .i64 x2, .bool g3, .string (S n3), .int .i64 x3] 42) g3 (S n3) x3 g1 (S n1) x1 g2 (S n2) x2).2.1, (three_new w (.cells #[.bool g1, .string (S n1), .int .i64 x1, .bool g2, .string (S n2), .int .i64 x2, .bool g3, .string (S n3), .int .i64 x3] 42) g3 (S n3) x3 g1 (S n1) x1 g2 (S n2) x2).2.2.1, (three_new w (.cells #[.bool g1, .string (S n1), .int .i64 x1, .bool g2, .string (S n2), .int .i64 x2, .bool g3, .string (S n3), .int .i64 x3] 42) g3 (S n3) x3 g1 (S n1) x1 g2 (S n2) x2).1, (three_new w (.cells #[.bool g1, .string (S n1), .int .i64 x1, .bool g2, .string (S n2), .int .i64 x2, .bool g3, .string (S n3), .int .i64 x3] 42) g3 (S n3) x3 g1 (S n1) x1 g2 (S n2) x2).2.2.2⟩ | exact ⟨_, _, _, rfl, rfl, rfl, (three_new w (.cells #[.bool g1, .string (S n1), .int .i64 x1, .bool g2, .string (S n2), .int .i64 x2, .bool g3, .string (S n3), .int .i64 x3] 42) g3 (S n3) x3 g2 (S n2) x2 g1 (S n1) x1).2.2.1, (three_new w (.cells #[.bool g1, .string (S n1), .int .i64 x1, .bool g2, .string (S n2), .int .i64 x2, .bool g3, .string (S n3), .int .i64 x3] 42) g3 (S n3) x3 g2 (S n2) x2 g1 (S n1) x1).2.1, (three_new w (.cells #[.bool g1, .string (S n1), .int .i64 x1, .bool g2, .string (S n2), .int .i64 x2, .bool g3, .string (S n3), .int .i64 x3] 42) g3 (S n3) x3 g2 (S n2) x2 g1 (S n1) x1).1, (three_new w (.cells #[.bool g1, .string (S n1), .int .i64 x1, .bool g2, .string (S n2), .int .i64 x2, .bool g3, .string (S n3), .int .i64 x3] 42) g3 (S n3) x3 g2 (S n2) x2 g1 (S n1) x1).2.2.2⟩
  case rest =>
    obtain ⟨A0, B0, C0, rfl, rfl, rfl, P, Q, R, bl⟩ := hcut
    obtain ⟨p0, p1, p2⟩ := P.cells
    obtain ⟨q0, q1, q2⟩ := Q.cells
    obtain ⟨r0, r1, r2⟩ := R.cells
    go_upto_region 5 with (first | (go_at_call 8; first | ((with_reducible refine (HV1.out _).mono ?_); rintro e wk ⟨rfl, hb⟩; have P := (P.below hb P.lt); have Q := (Q.below hb Q.lt); have R := (R.below hb R.lt); have bl := bl.trans (hb.mono bl.size); clear hb; obtain ⟨p0, p1, p2⟩ := P.cells; obtain ⟨q0, q1, q2⟩ := Q.cells; obtain ⟨r0, r1, r2⟩ := R.cells) | ((with_reducible refine (HV2.out _).mono ?_); rintro e wk ⟨rfl, hb⟩; have P := (P.below hb P.lt); have Q := (Q.below hb Q.lt); have R := (R.below hb R.lt); have bl := bl.trans (hb.mono bl.size); clear hb; obtain ⟨p0, p1, p2⟩ := P.cells; obtain ⟨q0, q1, q2⟩ := Q.cells; obtain ⟨r0, r1, r2⟩ := R.cells) | ((with_reducible refine (HV3.out _).mono ?_); rintro e wk ⟨rfl, hb⟩; have P := (P.below hb P.lt); have Q := (Q.below hb Q.lt); have R := (R.below hb R.lt); have bl := bl.trans (hb.mono bl.size); clear hb; obtain ⟨p0, p1, p2⟩ := P.cells; obtain ⟨q0, q1, q2⟩ := Q.cells; obtain ⟨r0, r1, r2⟩ := R.cells)) | (go_at_call 24; first | ((with_reducible refine (HC12.out _).mono ?_); rintro e wk ⟨rfl, hb⟩; have P := (P.below hb P.lt); have Q := (Q.below hb Q.lt); have R := (R.below hb R.lt); have bl := bl.trans (hb.mono bl.size); clear hb; obtain ⟨p0, p1, p2⟩ := P.cells; obtain ⟨q0, q1, q2⟩ := Q.cells; obtain ⟨r0, r1, r2⟩ := R.cells) | ((with_reducible refine (HC21.out _).mono ?_); rintro e wk ⟨rfl, hb⟩; have P := (P.below hb P.lt); have Q := (Q.below hb Q.lt); have R := (R.below hb R.lt); have bl := bl.trans (hb.mono bl.size); clear hb; obtain ⟨p0, p1, p2⟩ := P.cells; obtain ⟨q0, q1, q2⟩ := Q.cells; obtain ⟨r0, r1, r2⟩ := R.cells) | ((with_reducible refine (HC23.out _).mono ?_); rintro e wk ⟨rfl, hb⟩; have P := (P.below hb P.lt); have Q := (Q.below hb Q.lt); have R := (R.below hb R.lt); have bl := bl.trans (hb.mono bl.size); clear hb; obtain ⟨p0, p1, p2⟩ := P.cells; obtain ⟨q0, q1, q2⟩ := Q.cells; obtain ⟨r0, r1, r2⟩ := R.cells) | ((with_reducible refine (HC13.out _).mono ?_); rintro e wk ⟨rfl, hb⟩; have P := (P.below hb P.lt); have Q := (Q.below hb Q.lt); have R := (R.below hb R.lt); have bl := bl.trans (hb.mono bl.size); clear hb; obtain ⟨p0, p1, p2⟩ := P.cells; obtain ⟨q0, q1, q2⟩ := Q.cells; obtain ⟨r0, r1, r2⟩ := R.cells)))
    go_cut [6, 63] (fun t6 t63 wx => t6 = .int .i64 i ∧ t63 = .bool false ∧ DC wx A0 g1 (S n1) x1 ∧ DC wx B0 g2 (S n2) x2 ∧ DC wx C0 g3 (S n3) x3 ∧ Below w.heap.size w wx)
    case first =>
      by_cases hi : i = 0
      · obtain ⟨rfl, rfl, rfl⟩ := HI.out hi
        subst hi
        by_cases hk : k ≤ 0
        · have hl := HT.out (by decide) hk
          go_wp2_with (first | (go_at_call 24; first | ((with_reducible refine (HC12.out _).mono ?_); rintro e wk ⟨rfl, hb⟩; have P := (P.below hb P.lt); have Q := (Q.below hb Q.lt); have R := (R.below hb R.lt); have bl := bl.trans (hb.mono bl.size); clear hb; obtain ⟨p0, p1, p2⟩ := P.cells; obtain ⟨q0, q1, q2⟩ := Q.cells; obtain ⟨r0, r1, r2⟩ := R.cells) | ((with_reducible refine (HC21.out _).mono ?_); rintro e wk ⟨rfl, hb⟩; have P := (P.below hb P.lt); have Q := (Q.below hb Q.lt); have R := (R.below hb R.lt); have bl := bl.trans (hb.mono bl.size); clear hb; obtain ⟨p0, p1, p2⟩ := P.cells; obtain ⟨q0, q1, q2⟩ := Q.cells; obtain ⟨r0, r1, r2⟩ := R.cells) | ((with_reducible refine (HC23.out _).mono ?_); rintro e wk ⟨rfl, hb⟩; have P := (P.below hb P.lt); have Q := (Q.below hb Q.lt); have R := (R.below hb R.lt); have bl := bl.trans (hb.mono bl.size); clear hb; obtain ⟨p0, p1, p2⟩ := P.cells; obtain ⟨q0, q1, q2⟩ := Q.cells; obtain ⟨r0, r1, r2⟩ := R.cells) | ((with_reducible refine (HC13.out _).mono ?_); rintro e wk ⟨rfl, hb⟩; have P := (P.below hb P.lt); have Q := (Q.below hb Q.lt); have R := (R.below hb R.lt); have bl := bl.trans (hb.mono bl.size); clear hb; obtain ⟨p0, p1, p2⟩ := P.cells; obtain ⟨q0, q1, q2⟩ := Q.cells; obtain ⟨r0, r1, r2⟩ := R.cells)))
          go_meet
          exact ⟨rfl, (by first | rfl | (simp; omega)), P, Q, R, bl⟩
        · go_wp2_with (first | (go_at_call 24; first | ((with_reducible refine (HC12.out _).mono ?_); rintro e wk ⟨rfl, hb⟩; have P := (P.below hb P.lt); have Q := (Q.below hb Q.lt); have R := (R.below hb R.lt); have bl := bl.trans (hb.mono bl.size); clear hb; obtain ⟨p0, p1, p2⟩ := P.cells; obtain ⟨q0, q1, q2⟩ := Q.cells; obtain ⟨r0, r1, r2⟩ := R.cells) | ((with_reducible refine (HC21.out _).mono ?_); rintro e wk ⟨rfl, hb⟩; have P := (P.below hb P.lt); have Q := (Q.below hb Q.lt); have R := (R.below hb R.lt); have bl := bl.trans (hb.mono bl.size); clear hb; obtain ⟨p0, p1, p2⟩ := P.cells; obtain ⟨q0, q1, q2⟩ := Q.cells; obtain ⟨r0, r1, r2⟩ := R.cells) | ((with_reducible refine (HC23.out _).mono ?_); rintro e wk ⟨rfl, hb⟩; have P := (P.below hb P.lt); have Q := (Q.below hb Q.lt); have R := (R.below hb R.lt); have bl := bl.trans (hb.mono bl.size); clear hb; obtain ⟨p0, p1, p2⟩ := P.cells; obtain ⟨q0, q1, q2⟩ := Q.cells; obtain ⟨r0, r1, r2⟩ := R.cells) | ((with_reducible refine (HC13.out _).mono ?_); rintro e wk ⟨rfl, hb⟩; have P := (P.below hb P.lt); have Q := (Q.below hb Q.lt); have R := (R.below hb R.lt); have bl := bl.trans (hb.mono bl.size); clear hb; obtain ⟨p0, p1, p2⟩ := P.cells; obtain ⟨q0, q1, q2⟩ := Q.cells; obtain ⟨r0, r1, r2⟩ := R.cells)))
          go_meet
          exact ⟨rfl, (by first | rfl | (simp; omega)), P, Q, R, bl⟩
      · have hne := HJ.out hi
        have hw : ¬ g1 = g2 ∨ (g1 = g2 ∧ ¬ (S n1).toList = (S n2).toList) ∨ (g1 = g2 ∧ S n1 = S n2 ∧ ¬ x1 = x2) := by
          by_cases a : g1 = g2
          · by_cases b : S n1 = S n2
            · exact .inr (.inr ⟨a, b, fun c => hne ⟨a, b, c⟩⟩)
            · refine .inr (.inl ⟨a, fun e => b (ba_ext ?_)⟩)
              rwa [ByteArray.toList_eq, ByteArray.toList_eq] at e
          · exact .inl a
        have hv : i = -1 ∨ i = 1 := by exact HI3.out.elim .inl (fun h => h.elim (fun h => absurd h hi) .inr)
        clear hne hi
        rcases hw with hg | ⟨rfl, hs⟩ | ⟨rfl, hs, hx⟩
        rotate_left 2
        · obtain rfl := S_inj.1 hs
          clear hs
          rcases hv with rfl | rfl
          · by_cases hk : k ≤ 0
            · have hl := HT.out (by decide) hk
              go_wp2_with (first | (go_at_call 24; first | ((with_reducible refine (HC12.out _).mono ?_); rintro e wk ⟨rfl, hb⟩; have P := (P.below hb P.lt); have Q := (Q.below hb Q.lt); have R := (R.below hb R.lt); have bl := bl.trans (hb.mono bl.size); clear hb; obtain ⟨p0, p1, p2⟩ := P.cells; obtain ⟨q0, q1, q2⟩ := Q.cells; obtain ⟨r0, r1, r2⟩ := R.cells) | ((with_reducible refine (HC21.out _).mono ?_); rintro e wk ⟨rfl, hb⟩; have P := (P.below hb P.lt); have Q := (Q.below hb Q.lt); have R := (R.below hb R.lt); have bl := bl.trans (hb.mono bl.size); clear hb; obtain ⟨p0, p1, p2⟩ := P.cells; obtain ⟨q0, q1, q2⟩ := Q.cells; obtain ⟨r0, r1, r2⟩ := R.cells) | ((with_reducible refine (HC23.out _).mono ?_); rintro e wk ⟨rfl, hb⟩; have P := (P.below hb P.lt); have Q := (Q.below hb Q.lt); have R := (R.below hb R.lt); have bl := bl.trans (hb.mono bl.size); clear hb; obtain ⟨p0, p1, p2⟩ := P.cells; obtain ⟨q0, q1, q2⟩ := Q.cells; obtain ⟨r0, r1, r2⟩ := R.cells) | ((with_reducible refine (HC13.out _).mono ?_); rintro e wk ⟨rfl, hb⟩; have P := (P.below hb P.lt); have Q := (Q.below hb Q.lt); have R := (R.below hb R.lt); have bl := bl.trans (hb.mono bl.size); clear hb; obtain ⟨p0, p1, p2⟩ := P.cells; obtain ⟨q0, q1, q2⟩ := Q.cells; obtain ⟨r0, r1, r2⟩ := R.cells)))
              go_meet
              exact ⟨rfl, (by first | rfl | (simp; omega)), P, Q, R, bl⟩
            · go_wp2_with (first | (go_at_call 24; first | ((with_reducible refine (HC12.out _).mono ?_); rintro e wk ⟨rfl, hb⟩; have P := (P.below hb P.lt); have Q := (Q.below hb Q.lt); have R := (R.below hb R.lt); have bl := bl.trans (hb.mono bl.size); clear hb; obtain ⟨p0, p1, p2⟩ := P.cells; obtain ⟨q0, q1, q2⟩ := Q.cells; obtain ⟨r0, r1, r2⟩ := R.cells) | ((with_reducible refine (HC21.out _).mono ?_); rintro e wk ⟨rfl, hb⟩; have P := (P.below hb P.lt); have Q := (Q.below hb Q.lt); have R := (R.below hb R.lt); have bl := bl.trans (hb.mono bl.size); clear hb; obtain ⟨p0, p1, p2⟩ := P.cells; obtain ⟨q0, q1, q2⟩ := Q.cells; obtain ⟨r0, r1, r2⟩ := R.cells) | ((with_reducible refine (HC23.out _).mono ?_); rintro e wk ⟨rfl, hb⟩; have P := (P.below hb P.lt); have Q := (Q.below hb Q.lt); have R := (R.below hb R.lt); have bl := bl.trans (hb.mono bl.size); clear hb; obtain ⟨p0, p1, p2⟩ := P.cells; obtain ⟨q0, q1, q2⟩ := Q.cells; obtain ⟨r0, r1, r2⟩ := R.cells) | ((with_reducible refine (HC13.out _).mono ?_); rintro e wk ⟨rfl, hb⟩; have P := (P.below hb P.lt); have Q := (Q.below hb Q.lt); have R := (R.below hb R.lt); have bl := bl.trans (hb.mono bl.size); clear hb; obtain ⟨p0, p1, p2⟩ := P.cells; obtain ⟨q0, q1, q2⟩ := Q.cells; obtain ⟨r0, r1, r2⟩ := R.cells)))
              go_meet
              exact ⟨rfl, (by first | rfl | (simp; omega)), P, Q, R, bl⟩
          · go_wp2_with (first | (go_at_call 24; first | ((with_reducible refine (HC12.out _).mono ?_); rintro e wk ⟨rfl, hb⟩; have P := (P.below hb P.lt); have Q := (Q.below hb Q.lt); have R := (R.below hb R.lt); have bl := bl.trans (hb.mono bl.size); clear hb; obtain ⟨p0, p1, p2⟩ := P.cells; obtain ⟨q0, q1, q2⟩ := Q.cells; obtain ⟨r0, r1, r2⟩ := R.cells) | ((with_reducible refine (HC21.out _).mono ?_); rintro e wk ⟨rfl, hb⟩; have P := (P.below hb P.lt); have Q := (Q.below hb Q.lt); have R := (R.below hb R.lt); have bl := bl.trans (hb.mono bl.size); clear hb; obtain ⟨p0, p1, p2⟩ := P.cells; obtain ⟨q0, q1, q2⟩ := Q.cells; obtain ⟨r0, r1, r2⟩ := R.cells) | ((with_reducible refine (HC23.out _).mono ?_); rintro e wk ⟨rfl, hb⟩; have P := (P.below hb P.lt); have Q := (Q.below hb Q.lt); have R := (R.below hb R.lt); have bl := bl.trans (hb.mono bl.size); clear hb; obtain ⟨p0, p1, p2⟩ := P.cells; obtain ⟨q0, q1, q2⟩ := Q.cells; obtain ⟨r0, r1, r2⟩ := R.cells) | ((with_reducible refine (HC13.out _).mono ?_); rintro e wk ⟨rfl, hb⟩; have P := (P.below hb P.lt); have Q := (Q.below hb Q.lt); have R := (R.below hb R.lt); have bl := bl.trans (hb.mono bl.size); clear hb; obtain ⟨p0, p1, p2⟩ := P.cells; obtain ⟨q0, q1, q2⟩ := Q.cells; obtain ⟨r0, r1, r2⟩ := R.cells)))
            go_meet
            exact ⟨rfl, (by first | rfl | (simp; omega)), P, Q, R, bl⟩
        all_goals
          rcases hv with rfl | rfl
          · by_cases hk : k ≤ 0
            · have hl := HT.out (by decide) hk
              go_wp2_with (first | (go_at_call 24; first | ((with_reducible refine (HC12.out _).mono ?_); rintro e wk ⟨rfl, hb⟩; have P := (P.below hb P.lt); have Q := (Q.below hb Q.lt); have R := (R.below hb R.lt); have bl := bl.trans (hb.mono bl.size); clear hb; obtain ⟨p0, p1, p2⟩ := P.cells; obtain ⟨q0, q1, q2⟩ := Q.cells; obtain ⟨r0, r1, r2⟩ := R.cells) | ((with_reducible refine (HC21.out _).mono ?_); rintro e wk ⟨rfl, hb⟩; have P := (P.below hb P.lt); have Q := (Q.below hb Q.lt); have R := (R.below hb R.lt); have bl := bl.trans (hb.mono bl.size); clear hb; obtain ⟨p0, p1, p2⟩ := P.cells; obtain ⟨q0, q1, q2⟩ := Q.cells; obtain ⟨r0, r1, r2⟩ := R.cells) | ((with_reducible refine (HC23.out _).mono ?_); rintro e wk ⟨rfl, hb⟩; have P := (P.below hb P.lt); have Q := (Q.below hb Q.lt); have R := (R.below hb R.lt); have bl := bl.trans (hb.mono bl.size); clear hb; obtain ⟨p0, p1, p2⟩ := P.cells; obtain ⟨q0, q1, q2⟩ := Q.cells; obtain ⟨r0, r1, r2⟩ := R.cells) | ((with_reducible refine (HC13.out _).mono ?_); rintro e wk ⟨rfl, hb⟩; have P := (P.below hb P.lt); have Q := (Q.below hb Q.lt); have R := (R.below hb R.lt); have bl := bl.trans (hb.mono bl.size); clear hb; obtain ⟨p0, p1, p2⟩ := P.cells; obtain ⟨q0, q1, q2⟩ := Q.cells; obtain ⟨r0, r1, r2⟩ := R.cells)))
              go_meet
              exact ⟨rfl, (by first | rfl | (simp; omega)), P, Q, R, bl⟩
            · go_wp2_with (first | (go_at_call 24; first | ((with_reducible refine (HC12.out _).mono ?_); rintro e wk ⟨rfl, hb⟩; have P := (P.below hb P.lt); have Q := (Q.below hb Q.lt); have R := (R.below hb R.lt); have bl := bl.trans (hb.mono bl.size); clear hb; obtain ⟨p0, p1, p2⟩ := P.cells; obtain ⟨q0, q1, q2⟩ := Q.cells; obtain ⟨r0, r1, r2⟩ := R.cells) | ((with_reducible refine (HC21.out _).mono ?_); rintro e wk ⟨rfl, hb⟩; have P := (P.below hb P.lt); have Q := (Q.below hb Q.lt); have R := (R.below hb R.lt); have bl := bl.trans (hb.mono bl.size); clear hb; obtain ⟨p0, p1, p2⟩ := P.cells; obtain ⟨q0, q1, q2⟩ := Q.cells; obtain ⟨r0, r1, r2⟩ := R.cells) | ((with_reducible refine (HC23.out _).mono ?_); rintro e wk ⟨rfl, hb⟩; have P := (P.below hb P.lt); have Q := (Q.below hb Q.lt); have R := (R.below hb R.lt); have bl := bl.trans (hb.mono bl.size); clear hb; obtain ⟨p0, p1, p2⟩ := P.cells; obtain ⟨q0, q1, q2⟩ := Q.cells; obtain ⟨r0, r1, r2⟩ := R.cells) | ((with_reducible refine (HC13.out _).mono ?_); rintro e wk ⟨rfl, hb⟩; have P := (P.below hb P.lt); have Q := (Q.below hb Q.lt); have R := (R.below hb R.lt); have bl := bl.trans (hb.mono bl.size); clear hb; obtain ⟨p0, p1, p2⟩ := P.cells; obtain ⟨q0, q1, q2⟩ := Q.cells; obtain ⟨r0, r1, r2⟩ := R.cells)))
              go_meet
              exact ⟨rfl, (by first | rfl | (simp; omega)), P, Q, R, bl⟩
          · go_wp2_with (first | (go_at_call 24; first | ((with_reducible refine (HC12.out _).mono ?_); rintro e wk ⟨rfl, hb⟩; have P := (P.below hb P.lt); have Q := (Q.below hb Q.lt); have R := (R.below hb R.lt); have bl := bl.trans (hb.mono bl.size); clear hb; obtain ⟨p0, p1, p2⟩ := P.cells; obtain ⟨q0, q1, q2⟩ := Q.cells; obtain ⟨r0, r1, r2⟩ := R.cells) | ((with_reducible refine (HC21.out _).mono ?_); rintro e wk ⟨rfl, hb⟩; have P := (P.below hb P.lt); have Q := (Q.below hb Q.lt); have R := (R.below hb R.lt); have bl := bl.trans (hb.mono bl.size); clear hb; obtain ⟨p0, p1, p2⟩ := P.cells; obtain ⟨q0, q1, q2⟩ := Q.cells; obtain ⟨r0, r1, r2⟩ := R.cells) | ((with_reducible refine (HC23.out _).mono ?_); rintro e wk ⟨rfl, hb⟩; have P := (P.below hb P.lt); have Q := (Q.below hb Q.lt); have R := (R.below hb R.lt); have bl := bl.trans (hb.mono bl.size); clear hb; obtain ⟨p0, p1, p2⟩ := P.cells; obtain ⟨q0, q1, q2⟩ := Q.cells; obtain ⟨r0, r1, r2⟩ := R.cells) | ((with_reducible refine (HC13.out _).mono ?_); rintro e wk ⟨rfl, hb⟩; have P := (P.below hb P.lt); have Q := (Q.below hb Q.lt); have R := (R.below hb R.lt); have bl := bl.trans (hb.mono bl.size); clear hb; obtain ⟨p0, p1, p2⟩ := P.cells; obtain ⟨q0, q1, q2⟩ := Q.cells; obtain ⟨r0, r1, r2⟩ := R.cells)))
            go_meet
            exact ⟨rfl, (by first | rfl | (simp; omega)), P, Q, R, bl⟩
    case rest =>
      obtain ⟨rfl, rfl, P, Q, R, bl⟩ := hcut
      obtain ⟨p0, p1, p2⟩ := P.cells
      obtain ⟨q0, q1, q2⟩ := Q.cells
      obtain ⟨r0, r1, r2⟩ := R.cells
      by_cases he : pe = 0
      · subst he
        by_cases hf : qe = 0
        · subst hf
          obtain rfl := HF.out rfl rfl
          go_wp2_with (first | (go_at_call 22; first | ((with_reducible refine (HA.out _).mono ?_); rintro e wk ⟨rfl, hb⟩; have P := (P.below hb P.lt).alloc (.cells #[.bool pa, .string (S pn), .int .i64 px] 23); have Q := (Q.below hb Q.lt).alloc (.cells #[.bool pa, .string (S pn), .int .i64 px] 23); have R := (R.below hb R.lt).alloc (.cells #[.bool pa, .string (S pn), .int .i64 px] 23); have X := DC.new wk pa (S pn) px; have bl := (bl.trans (hb.mono bl.size)).alloc (Nat.le_trans bl.size hb.size) (.cells #[.bool pa, .string (S pn), .int .i64 px] 23); clear hb; obtain ⟨p0, p1, p2⟩ := P.cells; obtain ⟨q0, q1, q2⟩ := Q.cells; obtain ⟨r0, r1, r2⟩ := R.cells) | ((with_reducible refine (HB.out _).mono ?_); rintro e wk ⟨rfl, hb⟩; have P := (P.below hb P.lt).alloc (.cells #[.bool qa, .string (S qn), .int .i64 qx] 23); have Q := (Q.below hb Q.lt).alloc (.cells #[.bool qa, .string (S qn), .int .i64 qx] 23); have R := (R.below hb R.lt).alloc (.cells #[.bool qa, .string (S qn), .int .i64 qx] 23); have X := (X.below hb X.lt).alloc (.cells #[.bool qa, .string (S qn), .int .i64 qx] 23); have Y := DC.new wk qa (S qn) qx; have bl := (bl.trans (hb.mono bl.size)).alloc (Nat.le_trans bl.size hb.size) (.cells #[.bool qa, .string (S qn), .int .i64 qx] 23); clear hb; obtain ⟨p0, p1, p2⟩ := P.cells; obtain ⟨q0, q1, q2⟩ := Q.cells; obtain ⟨r0, r1, r2⟩ := R.cells; obtain ⟨x0, x1, x2⟩ := X.cells)) | (go_at_call 24; ((with_reducible refine (HC.out _).mono ?_); rintro e wk ⟨rfl, hb⟩; have bl := bl.trans (hb.mono bl.size); clear hb)) | (go_at_call 9; ((with_reducible refine (HL.out _).mono ?_); rintro e wk ⟨rfl, hb⟩; have bl := bl.trans (hb.mono bl.size); clear hb)))
          go_ret
          exact ⟨rfl, bl⟩
        · have hf2 := ne_f hf
          go_wp2_with (first | (go_at_call 22; first | ((with_reducible refine (HA.out _).mono ?_); rintro e wk ⟨rfl, hb⟩; have P := (P.below hb P.lt).alloc (.cells #[.bool pa, .string (S pn), .int .i64 px] 23); have Q := (Q.below hb Q.lt).alloc (.cells #[.bool pa, .string (S pn), .int .i64 px] 23); have R := (R.below hb R.lt).alloc (.cells #[.bool pa, .string (S pn), .int .i64 px] 23); have X := DC.new wk pa (S pn) px; have bl := (bl.trans (hb.mono bl.size)).alloc (Nat.le_trans bl.size hb.size) (.cells #[.bool pa, .string (S pn), .int .i64 px] 23); clear hb; obtain ⟨p0, p1, p2⟩ := P.cells; obtain ⟨q0, q1, q2⟩ := Q.cells; obtain ⟨r0, r1, r2⟩ := R.cells) | ((with_reducible refine (HB.out _).mono ?_); rintro e wk ⟨rfl, hb⟩; have P := (P.below hb P.lt).alloc (.cells #[.bool qa, .string (S qn), .int .i64 qx] 23); have Q := (Q.below hb Q.lt).alloc (.cells #[.bool qa, .string (S qn), .int .i64 qx] 23); have R := (R.below hb R.lt).alloc (.cells #[.bool qa, .string (S qn), .int .i64 qx] 23); have X := (X.below hb X.lt).alloc (.cells #[.bool qa, .string (S qn), .int .i64 qx] 23); have Y := DC.new wk qa (S qn) qx; have bl := (bl.trans (hb.mono bl.size)).alloc (Nat.le_trans bl.size hb.size) (.cells #[.bool qa, .string (S qn), .int .i64 qx] 23); clear hb; obtain ⟨p0, p1, p2⟩ := P.cells; obtain ⟨q0, q1, q2⟩ := Q.cells; obtain ⟨r0, r1, r2⟩ := R.cells; obtain ⟨x0, x1, x2⟩ := X.cells)) | (go_at_call 9; ((with_reducible refine (HL.out _).mono ?_); rintro e wk ⟨rfl, hb⟩; have bl := bl.trans (hb.mono bl.size); clear hb)))
          go_ret
          exact ⟨rfl, bl⟩
      · have he2 := ne_f he
        go_wp2_with (first | (go_at_call 22; first | ((with_reducible refine (HA.out _).mono ?_); rintro e wk ⟨rfl, hb⟩; have P := (P.below hb P.lt).alloc (.cells #[.bool pa, .string (S pn), .int .i64 px] 23); have Q := (Q.below hb Q.lt).alloc (.cells #[.bool pa, .string (S pn), .int .i64 px] 23); have R := (R.below hb R.lt).alloc (.cells #[.bool pa, .string (S pn), .int .i64 px] 23); have X := DC.new wk pa (S pn) px; have bl := (bl.trans (hb.mono bl.size)).alloc (Nat.le_trans bl.size hb.size) (.cells #[.bool pa, .string (S pn), .int .i64 px] 23); clear hb; obtain ⟨p0, p1, p2⟩ := P.cells; obtain ⟨q0, q1, q2⟩ := Q.cells; obtain ⟨r0, r1, r2⟩ := R.cells) | ((with_reducible refine (HB.out _).mono ?_); rintro e wk ⟨rfl, hb⟩; have P := (P.below hb P.lt).alloc (.cells #[.bool qa, .string (S qn), .int .i64 qx] 23); have Q := (Q.below hb Q.lt).alloc (.cells #[.bool qa, .string (S qn), .int .i64 qx] 23); have R := (R.below hb R.lt).alloc (.cells #[.bool qa, .string (S qn), .int .i64 qx] 23); have X := (X.below hb X.lt).alloc (.cells #[.bool qa, .string (S qn), .int .i64 qx] 23); have Y := DC.new wk qa (S qn) qx; have bl := (bl.trans (hb.mono bl.size)).alloc (Nat.le_trans bl.size hb.size) (.cells #[.bool qa, .string (S qn), .int .i64 qx] 23); clear hb; obtain ⟨p0, p1, p2⟩ := P.cells; obtain ⟨q0, q1, q2⟩ := Q.cells; obtain ⟨r0, r1, r2⟩ := R.cells; obtain ⟨x0, x1, x2⟩ := X.cells)) | (go_at_call 9; ((with_reducible refine (HL.out _).mono ?_); rintro e wk ⟨rfl, hb⟩; have bl := bl.trans (hb.mono bl.size); clear hb)))
        go_ret
        exact ⟨rfl, bl⟩
theorem order_walk (g1 : Bool) (s1 : ByteArray) (x1 : Int) (g2 : Bool) (s2 : ByteArray) (x2 : Int) (g3 : Bool) (s3 : ByteArray) (x3 : Int) (w : World) (hs1 : s1.size ≤ maxLen) (hs2 : s2.size ≤ maxLen) (hs3 : s3.size ≤ maxLen) (hx1 : -9223372036854775808 ≤ x1 ∧ x1 ≤ 9223372036854775807) (hx2 : -9223372036854775808 ≤ x2 ∧ x2 ≤ 9223372036854775807) (hx3 : -9223372036854775808 ≤ x3 ∧ x3 ≤ 9223372036854775807) : Calls Tryd.prog 7 #[.agg #[.bool g1, .string s1, .int .i64 x1, .bool g2, .string s2, .int .i64 x2, .bool g3, .string s3, .int .i64 x3]] w fun e w' => e = .returned (.bool true) ∧ Below w.heap.size w w' := by
  unfold maxLen at hs1 hs2 hs3
  cases hv : (vB g1 s1 x1 && vB g2 s2 x2 && vB g3 s3 x3) with
  | false => exact order_bad g1 s1 x1 g2 s2 x2 g3 s3 x3 w (by omega) (by omega) (by omega) hx1 hx2 hx3 hv
  | true =>
    rw [Bool.and_eq_true, Bool.and_eq_true] at hv
    obtain ⟨n1, rfl, h1⟩ := vB_ok hv.1.1
    obtain ⟨n2, rfl, h2⟩ := vB_ok hv.1.2
    obtain ⟨n3, rfl, h3⟩ := vB_ok hv.2
    exact order_ok g1 n1 x1 g2 n2 x2 g3 n3 x3 w h1 h2 h3
end Go.Proofs.YtelehjdhjjedhabDoor.Dec
