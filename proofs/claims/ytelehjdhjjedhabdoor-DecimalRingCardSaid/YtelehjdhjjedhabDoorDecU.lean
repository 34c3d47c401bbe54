/-
  The law's walk: DecimalRing.
-/
import Derived.Test.YtelehjdhjjedhabDoorDecS
import Derived.Test.YtelehjdhjjedhabDoorDecQ
namespace Go.Proofs.YtelehjdhjjedhabDoor.Dec
open Go.RowKit
set_option linter.unusedVariables false
set_option linter.unusedSimpArgs false
open Go.Proofs.YtelehjdhjjedhabDoor.Dig

set_option maxRecDepth 100000 in
set_option maxHeartbeats 8000000 in
theorem ring_bad (g1 : Bool) (s1 : ByteArray) (x1 : Int) (g2 : Bool) (s2 : ByteArray) (x2 : Int) (g3 : Bool) (s3 : ByteArray) (x3 : Int) (w : World) (hs1 : s1.size ≤ 9223372036854775807) (hs2 : s2.size ≤ 9223372036854775807) (hs3 : s3.size ≤ 9223372036854775807) (hx1 : -9223372036854775808 ≤ x1 ∧ x1 ≤ 9223372036854775807) (hx2 : -9223372036854775808 ≤ x2 ∧ x2 ≤ 9223372036854775807) (hx3 : -9223372036854775808 ≤ x3 ∧ x3 ≤ 9223372036854775807) (hv : (vB g1 s1 x1 && vB g2 s2 x2 && vB g3 s3 x3) = false) : Calls Tryd.prog 6 #[.agg #[.bool g1, .string s1, .int .i64 x1, .bool g2, .string s2, .int .i64 x2, .bool g3, .string s3, .int .i64 x3]] w fun e w' => e = .returned (.bool true) ∧ Below w.heap.size w w' := by
  have HL := Lib.hid lives_any
  have HV1 := Lib.hid (fun w => rdvalid_any g1 s1 x1 w (by omega) hx1)
  have HV2 := Lib.hid (fun w => rdvalid_any g2 s2 x2 w (by omega) hx2)
  have HV3 := Lib.hid (fun w => rdvalid_any g3 s3 x3 w (by omega) hx3)
  obtain ⟨v1, hv1⟩ : ∃ v, vB g1 s1 x1 = v := ⟨_, rfl⟩
  obtain ⟨v2, hv2⟩ : ∃ v, vB g2 s2 x2 = v := ⟨_, rfl⟩
  obtain ⟨v3, hv3⟩ : ∃ v, vB g3 s3 x3 = v := ⟨_, rfl⟩
  rw [hv1, hv2, hv3] at hv
  rw [hv1] at HV1
  rw [hv2] at HV2
  rw [hv3] at HV3
  clear hv1 hv2 hv3
  have hw : v1 = false ∨ (v1 = true ∧ v2 = false) ∨ (v1 = true ∧ v2 = true ∧ v3 = false) := by cases v1 <;> cases v2 <;> cases v3 <;> simp_all
  clear hv
  rcases hw with rfl | ⟨rfl, rfl⟩ | ⟨rfl, rfl, rfl⟩
  all_goals
    go_enter Tryd.func6, Tryd.ntmps6
    go_upto_region 1 with fail
    go_cut [3, 4, 5] (fun t3 t4 t5 wx => ∃ A B C : Nat, t3 = .pointer (some ⟨A, 0, none⟩) ∧ t4 = .pointer (some ⟨B, 0, none⟩) ∧ t5 = .pointer (some ⟨C, 0, none⟩) ∧ DC wx A g1 s1 x1 ∧ DC wx B g2 s2 x2 ∧ DC wx C g3 s3 x3 ∧ Below w.heap.size w wx)
    case first =>
      go_region_held3 (fun (W : World) => W.cell? ⟨w.heap.size, 0, none⟩ = some (.bool g1) ∧ W.cell? ⟨w.heap.size, 1, none⟩ = some (.string s1) ∧ W.cell? ⟨w.heap.size, 2, none⟩ = some (.int .i64 x1) ∧ W.cell? ⟨w.heap.size, 3, none⟩ = some (.bool g2) ∧ W.cell? ⟨w.heap.size, 4, none⟩ = some (.string s2) ∧ W.cell? ⟨w.heap.size, 5, none⟩ = some (.int .i64 x2) ∧ W.cell? ⟨w.heap.size, 6, none⟩ = some (.bool g3) ∧ W.cell? ⟨w.heap.size, 7, none⟩ = some (.string s3) ∧ W.cell? ⟨w.heap.size, 8, none⟩ = some (.int .i64 x3)) (go_keep) (fail)
      all_goals
        go_wp2_with fail
        go_meet
        first | exact ⟨_, _, _, rfl, rfl, rfl, (three_new w (.cells #[.bool g1, .string s1, .int .i64 x1, .bool g2, .string s2, .int .i64 x2, .bool g3, .string s3, .int .i64 x3] 42) g1 s1 x1 g2 s2 x2 g3 s3 x3).1, (three_new w (.cells #[.bool g1, .string s1, .int .i64 x1, .bool g2, .string s2, .int .i64 x2, .bool g3, .string s3, .int .i64 x3] 42) g1 s1 x1 g2 s2 x2 g3 s3 x3).2.1, (three_new w (.cells #[.bool g1, .string s1, .int .i64 x1, .bool g2, .string s2, .int .i64 x2, .bool g3, .string s3, .int .i64 x3] 42) g1 s1 x1 g2 s2 x2 g3 s3 x3).2.2.1, (three_new w (.cells #[.bool g1, .string s1, .int .i64 x1, .bool g2, .string s2, .int .i64 x2, .bool g3, .string s3, .int .i64 x3] 42) g1 s1 x1 g2 s2 x2 g3 s3 x3).2.2.2⟩ | exact ⟨_, _, _, rfl, rfl, rfl, (three_new w (.cells #[.bool g1, .string s1, .int .i64 x1, .bool g2, .string s2, .int .i64 x2, .bool g3, .string s3, .int .i64 x3] 42) g1 s1 x1 g3 s3 x3 g2 s2 x2).1, (three_new w (.cells #[.bool g1, .string s1, .int .i64 x1, .bool g2, .string s2, .int .i64 x2, .bool g3, .string s3, .int .i64 x3] 42) g1 s1 x1 g3 s3 x3 g2 s2 x2).2.2.1, (three_new w (.cells #[.bool g1, .string s1, .int .i64 x1, .bool g2, .string s2, .int .i64 x2, .bool g3, .string s3, .int .i64 x3] 42) g1 s1 x1 g3 s3 x3 g2 s2 x2).2.1, (three_new w (.cells #[.bool g1, .string s1, .int .i64 x1, .bool g2, .string s2, .int .i64 x2, .bool g3, .string s3, .int .i64 x3] 42) g1 s1 x1 g3 s3 x3 g2 s2 x2).2.2.2⟩ | exact ⟨_, _, _, rfl, rfl, rfl, (three_new w (.cells #[.bool g1, .string s1, .int .i64 x1, .bool g2, .string s2, .int .i64 x2, .bool g3, .string s3, .int .i64 x3] 42) g2 s2 x2 g1 s1 x1 g3 s3 x3).2.1, (three_new w (.cells #[.bool g1, .string s1, .int .i64 x1, .bool g2, .string s2, .int .i64 x2, .bool g3, .string s3, .int .i64 x3] 42) g2 s2 x2 g1 s1 x1 g3 s3 x3).1, (three_new w (.cells #[.bool g1, .string s1, .int .i64 x1, .bool g2, .string s2, .int .i64 x2, .bool g3, .string s3, .int .i64 x3] 42) g2 s2 x2 g1 s1 x1 g3 s3 x3).2.2.1, (three_new w (.cells #[.bool g1, .string s1, .int .i64 x1, .bool g2, .string s2, .int .i64 x2, .bool g3, .string s3, .int .i64 x3] 42) g2 s2 x2 g1 s1 x1 g3 s3 x3).2.2.2⟩ | exact ⟨_, _, _, rfl, rfl, rfl, (three_new w (.cells #[.bool g1, .string s1, .int .i64 x1, .bool g2, .string s2, .int .i64 x2, .bool g3, .string s3, .int .i64 x3] 42) g2 s2 x2 g3 s3 x3 g1 s1 x1).2.2.1, (three_new w (.cells #[.bool g1, .string s1, .int .i64 x1, .bool g2, .string s2, .int .i64 x2, .bool g3, .string s3, .int .i64 x3] 42) g2 s2 x2 g3 s3 x3 g1 s1 x1).1, (three_new w (.cells #[.bool g1, .string s1, .int .i64 x1, .bool g2, .string s2, .int .i64 x2, .bool g3, .string s3, .int .i64 x3] 42) g2 s2 x2 g3 s3 x3 g1 s1 x1).2.1, (three_new w (.cells #[.bool g1, .string s1, .int .i64 x1, .bool g2, .string s2, .int .i64 x2, .bool g3, .string s3, .int .i64 x3] 42) g2 s2 x2 g3 s3 x3 g1 s1 x1).2.2.2⟩ | exact ⟨_, _, _, rfl, rfl, rfl, (three_new w (.cells #[.bool g1, .string s1, .int .i64 x1, .bool g2, .string s2, .int .i64 x2, .bool g3, .string s3, .int .i64 x3] 42) g3 s3 x3 g1 s1 x1 g2 s2 x2).2.1, (three_new w (.cells #[.bool g1, .string s1, .int .i64 x1, .bool g2, .string s2, .int .i64 x2, .bool g3, .string s3, .int .i64 x3] 42) g3 s3 x3 g1 s1 x1 g2 s2 x2).2.2.1, (three_new w (.cells #[.bool g1, .string s1, .int .i64 x1, .bool g2, .string s2, .int .i64 x2, .bool g3, .string s3, .int .i64 x3] 42) g3 s3 x3 g1 s1 x1 g2 s2 x2).1, (three_new w (.cells #[.bool g1, .string s1, .int .i64 x1, .bool g2, .string s2, .int .i64 x2, .bool g3, .string s3, .int .i64 x3] 42) g3 s3 x3 g1 s1 x1 g2 s2 x2).2.2.2⟩ | exact ⟨_, _, _, rfl, rfl, rfl, (three_new w (.cells #[.bool g1, .string s1, .int .i64 x1, .bool g2, .string s2, .int .i64 x2, .bool g3, .string s3, .int .i64 x3] 42) g3 s3 x3 g2 s2 x2 g1 s1 x1).2.2.1, (three_new w (.cells #[.bool g1, .string s1, .int .i64 x1, .bool g2, .string s2, .int .i64 x2, .bool g3, .string s3, .int .i64 x3] 42) g3 s3 x3 g2 s2 x2 g1 s1 x1).2.1, (three_new w (.cells #[.bool g1, .string s1, .int .i64 x1, .bool g2, .string s2, .int .i64 x2, .bool g3, .string s3, .int .i64 x3] 42) g3 s3 x3 g2 s2 x2 g1 s1 x1).1, (three_new w (.cells #[.bool g1, .string s1, .int .i64 x1, .bool g2, .string s2, .int .i64 x2, .bool g3, .string s3, .int .i64 x3] 42) g3 s3 x3 g2 s2 x2 g1 s1 x1).2.2.2⟩
    case rest =>
      obtain ⟨A0, B0, C0, rfl, rfl, rfl, P, Q, R, bl⟩ := hcut
      obtain ⟨p0, p1, p2⟩ := P.cells
      obtain ⟨q0, q1, q2⟩ := Q.cells
      obtain ⟨r0, r1, r2⟩ := R.cells
      go_wp2_with (first | (go_at_call 8; first | ((with_reducible refine (HV1.out _).mono ?_); rintro e wk ⟨rfl, hb⟩; have P := (P.below hb P.lt); have Q := (Q.below hb Q.lt); have R := (R.below hb R.lt); have bl := bl.trans (hb.mono bl.size); clear hb; obtain ⟨p0, p1, p2⟩ := P.cells; obtain ⟨q0, q1, q2⟩ := Q.cells; obtain ⟨r0, r1, r2⟩ := R.cells) | ((with_reducible refine (HV2.out _).mono ?_); rintro e wk ⟨rfl, hb⟩; have P := (P.below hb P.lt); have Q := (Q.below hb Q.lt); have R := (R.below hb R.lt); have bl := bl.trans (hb.mono bl.size); clear hb; obtain ⟨p0, p1, p2⟩ := P.cells; obtain ⟨q0, q1, q2⟩ := Q.cells; obtain ⟨r0, r1, r2⟩ := R.cells) | ((with_reducible refine (HV3.out _).mono ?_); rintro e wk ⟨rfl, hb⟩; have P := (P.below hb P.lt); have Q := (Q.below hb Q.lt); have R := (R.below hb R.lt); have bl := bl.trans (hb.mono bl.size); clear hb; obtain ⟨p0, p1, p2⟩ := P.cells; obtain ⟨q0, q1, q2⟩ := Q.cells; obtain ⟨r0, r1, r2⟩ := R.cells)) | (go_at_call 9; ((with_reducible refine (HL.out _).mono ?_); rintro e wk ⟨rfl, hb⟩; have bl := bl.trans (hb.mono bl.size); clear hb)))
      go_ret
      exact ⟨rfl, bl⟩
theorem div_ring {g1 g3 : Bool} {n1 n3 : Nat} {x1 x3 : Int} (h1 : okD g1 n1 x1) (h3 : okD g3 n3 x3) {ca : Bool} {cn : Nat} {cx ce : Int} (hc : mulR g1 n1 x1 g3 n3 x3 = (ca, cn, cx, ce)) : ∃ (qa : Bool) (qs : ByteArray) (qx qe : Int), (∀ w, Calls Tryd.prog 11 #[.agg #[.bool ca, .string (S cn), .int .i64 cx], .agg #[.bool g3, .string (S n3), .int .i64 x3]] w fun r w' => r = .returned (.tuple #[.agg #[.bool qa, .string qs, .int .i64 qx], .int .i64 qe]) ∧ Below w.heap.size w w') ∧ (ce = 0 → 0 < n3 → qa = g1 ∧ qs = S n1 ∧ qx = x1 ∧ qe = 0) := by
  have ko : okD ca cn cx := by have := ok_mulR (g1 := g1) (g2 := g3) (n1 := n1) (n2 := n3) (x1 := x1) (x2 := x3); rw [hc] at this; exact this
  rcases Nat.eq_zero_or_pos n3 with hn | hn
  · exact ⟨_, _, _, _, fun w => ddiv_zero ca cn cx g3 n3 x3 w ko h3 hn, fun _ h => by omega⟩
  obtain ⟨k, hk⟩ : ∃ k : Nat, k = 400 := ⟨_, rfl⟩
  by_cases hr : cn * 10 ^ k % n3 = 0
  · refine ⟨_, _, _, _, fun w => ddiv_yes ca cn cx g3 n3 x3 w ko h3 k hk hn hr, fun he _ => ?_⟩
    subst he
    have h := (quo_mul h1 h3 hn k hk hc).2
    injection h with e1 h
    injection h with e2 h
    injection h with e3 e4
    exact ⟨e1, by rw [e2], e3, e4⟩
  · refine ⟨_, _, _, _, fun w => ddiv_no ca cn cx g3 n3 x3 w ko h3 k hk hn hr, fun he _ => ?_⟩
    subst he
    exact absurd (quo_mul h1 h3 hn k hk hc).1 hr
set_option maxRecDepth 100000 in
set_option maxHeartbeats 16000000 in
theorem ring_ok (g1 : Bool) (n1 : Nat) (x1 : Int) (g2 : Bool) (n2 : Nat) (x2 : Int) (g3 : Bool) (n3 : Nat) (x3 : Int) (w : World) (h1 : okD g1 n1 x1) (h2 : okD g2 n2 x2) (h3 : okD g3 n3 x3) : Calls Tryd.prog 6 #[.agg #[.bool g1, .string (S n1), .int .i64 x1, .bool g2, .string (S n2), .int .i64 x2, .bool g3, .string (S n3), .int .i64 x3]] w fun e w' => e = .returned (.bool true) ∧ Below w.heap.size w w' := by
  have HL := Lib.hid lives_any
  have HV1 := Lib.hid (fun w => rdvalid_ok w h1)
  have HV2 := Lib.hid (fun w => rdvalid_ok w h2)
  have HV3 := Lib.hid (fun w => rdvalid_ok w h3)
  obtain ⟨aba, abn, abx, abe, hab⟩ : ∃ a b c d, addR g1 n1 x1 g2 n2 x2 = (a, b, c, d) := ⟨_, _, _, _, rfl⟩
  have Kab := addR_V h1 h2
  rw [hab] at Kab
  simp only at Kab
  have Hab := Lib.hid (fun w => dadd_any g1 n1 x1 g2 n2 x2 w h1 h2)
  rw [hab] at Hab
  unfold retR at Hab
  simp only at Hab
  have Zab := addR_cs h1 h2 400 rfl
  rw [hab] at Zab
  have Hba := Lib.hid (fun w => dadd_any g2 n2 x2 g1 n1 x1 w h2 h1)
  rw [show addR g2 n2 x2 g1 n1 x1 = (aba, abn, abx, abe) by rw [Zab, addR_cs h2 h1 400 rfl, Int.add_comm]] at Hba
  unfold retR at Hba
  simp only at Hba
  obtain ⟨bka, bkn, bkx, bke, hbk⟩ : ∃ a b c d, subR aba abn abx g2 n2 x2 = (a, b, c, d) := ⟨_, _, _, _, rfl⟩
  have Hbk := Lib.hid (fun w => dsub_any aba abn abx g2 n2 x2 w Kab.1 h2)
  rw [hbk] at Hbk
  unfold retR at Hbk
  simp only at Hbk
  have f1 : abe = 0 → bka = g1 ∧ S bkn = S n1 ∧ bkx = x1 ∧ bke = 0 := fun he => by
    have q : subR aba abn abx g2 n2 x2 = (g1, n1, x1, 0) := by
      unfold subR
      rw [addR_cs Kab.1 (ok_neg h2).1 400 rfl, (ok_neg h2).2, Kab.2 he, show V g1 n1 x1 + V g2 n2 x2 + -V g2 n2 x2 = V g1 n1 x1 by omega]
      exact cs_V h1 400 rfl
    rw [hbk] at q
    injection q with e1 q
    injection q with e2 q
    injection q with e3 e4
    exact ⟨e1, by rw [e2], e3, e4⟩
  obtain ⟨bca, bcn, bcx, bce, hbc⟩ : ∃ a b c d, addR g2 n2 x2 g3 n3 x3 = (a, b, c, d) := ⟨_, _, _, _, rfl⟩
  have Kbc := addR_V h2 h3
  rw [hbc] at Kbc
  simp only at Kbc
  have Hbc := Lib.hid (fun w => dadd_any g2 n2 x2 g3 n3 x3 w h2 h3)
  rw [hbc] at Hbc
  unfold retR at Hbc
  simp only at Hbc
  have Zbc := addR_cs h2 h3 400 rfl
  rw [hbc] at Zbc
  obtain ⟨xxa, xxn, xxx, xxe, hxx⟩ : ∃ a b c d, addR aba abn abx g3 n3 x3 = (a, b, c, d) := ⟨_, _, _, _, rfl⟩
  have Kxx := addR_V Kab.1 h3
  rw [hxx] at Kxx
  simp only at Kxx
  have Hxx := Lib.hid (fun w => dadd_any aba abn abx g3 n3 x3 w Kab.1 h3)
  rw [hxx] at Hxx
  unfold retR at Hxx
  simp only at Hxx
  have Zxx := addR_cs Kab.1 h3 400 rfl
  rw [hxx] at Zxx
  obtain ⟨yya, yyn, yyx, yye, hyy⟩ : ∃ a b c d, addR g1 n1 x1 bca bcn bcx = (a, b, c, d) := ⟨_, _, _, _, rfl⟩
  have Kyy := addR_V h1 Kbc.1
  rw [hyy] at Kyy
  simp only at Kyy
  have Hyy := Lib.hid (fun w => dadd_any g1 n1 x1 bca bcn bcx w h1 Kbc.1)
  rw [hyy] at Hyy
  unfold retR at Hyy
  simp only at Hyy
  have Zyy := addR_cs h1 Kbc.1 400 rfl
  rw [hyy] at Zyy
  have f2 : abe = 0 → bce = 0 → xxe = 0 → yya = xxa ∧ S yyn = S xxn ∧ yyx = xxx ∧ yye = 0 := fun e f g => by
    have q : (yya, yyn, yyx, yye) = (xxa, xxn, xxx, xxe) := by
      rw [Zyy, Zxx, Kab.2 e, Kbc.2 f]; congr 1; omega
    injection q with e1 q
    injection q with e2 q
    injection q with e3 e4
    exact ⟨e1, by rw [e2], e3, by rw [e4, g]⟩
  obtain ⟨t, ht⟩ : ∃ t : Nat, t = 400 := ⟨_, rfl⟩
  obtain ⟨ppa, ppn, ppx, ppe, hpp⟩ : ∃ a b c d, mulR aba abn abx g3 n3 x3 = (a, b, c, d) := ⟨_, _, _, _, rfl⟩
  have Hpp := Lib.hid (fun w => dmul_any aba abn abx g3 n3 x3 w Kab.1 h3)
  have Mpp := Lib.hid (nrm_R hpp.symm)
  have HMpp : Hid (∀ w, Calls Tryd.prog 10 #[.agg #[.bool aba, .string (S abn), .int .i64 abx], .agg #[.bool g3, .string (S n3), .int .i64 x3]] w fun e w' => e = retR (ppa, ppn, ppx, ppe) ∧ Below w.heap.size w w') := Lib.hid fun w => (Hpp.out w).mono fun e w' ⟨he, hb⟩ => ⟨he.trans Mpp.out, hb⟩
  clear Hpp Mpp
  unfold retR at HMpp
  simp only at HMpp
  have Opp : okD ppa ppn ppx := by have := ok_mulR (g1 := aba) (n1 := abn) (x1 := abx) (g2 := g3) (n2 := n3) (x2 := x3); rw [hpp] at this; exact this
  have Npp : ppe = 0 → V ppa ppn ppx * (10 ^ t : Nat) = V aba abn abx * V g3 n3 x3 := fun he => by
    have := mulR_V Kab.1 h3 t ht (by rw [hpp]; exact he)
    rw [hpp] at this; exact this
  obtain ⟨aca, acn, acx, ace, hac⟩ : ∃ a b c d, mulR g1 n1 x1 g3 n3 x3 = (a, b, c, d) := ⟨_, _, _, _, rfl⟩
  have Hac := Lib.hid (fun w => dmul_any g1 n1 x1 g3 n3 x3 w h1 h3)
  have Mac := Lib.hid (nrm_R hac.symm)
  have HMac : Hid (∀ w, Calls Tryd.prog 10 #[.agg #[.bool g1, .string (S n1), .int .i64 x1], .agg #[.bool g3, .string (S n3), .int .i64 x3]] w fun e w' => e = retR (aca, acn, acx, ace) ∧ Below w.heap.size w w') := Lib.hid fun w => (Hac.out w).mono fun e w' ⟨he, hb⟩ => ⟨he.trans Mac.out, hb⟩
  clear Hac Mac
  unfold retR at HMac
  simp only at HMac
  have Oac : okD aca acn acx := by have := ok_mulR (g1 := g1) (n1 := n1) (x1 := x1) (g2 := g3) (n2 := n3) (x2 := x3); rw [hac] at this; exact this
  have Nac : ace = 0 → V aca acn acx * (10 ^ t : Nat) = V g1 n1 x1 * V g3 n3 x3 := fun he => by
    have := mulR_V h1 h3 t ht (by rw [hac]; exact he)
    rw [hac] at this; exact this
  obtain ⟨cba, cbn, cbx, cbe, hcb⟩ : ∃ a b c d, mulR g3 n3 x3 g2 n2 x2 = (a, b, c, d) := ⟨_, _, _, _, rfl⟩
  have Hcb := Lib.hid (fun w => dmul_any g3 n3 x3 g2 n2 x2 w h3 h2)
  have Mcb := Lib.hid (nrm_R hcb.symm)
  have HMcb : Hid (∀ w, Calls Tryd.prog 10 #[.agg #[.bool g3, .string (S n3), .int .i64 x3], .agg #[.bool g2, .string (S n2), .int .i64 x2]] w fun e w' => e = retR (cba, cbn, cbx, cbe) ∧ Below w.heap.size w w') := Lib.hid fun w => (Hcb.out w).mono fun e w' ⟨he, hb⟩ => ⟨he.trans Mcb.out, hb⟩
  clear Hcb Mcb
  unfold retR at HMcb
  simp only at HMcb
  have Ocb : okD cba cbn cbx := by have := ok_mulR (g1 := g3) (n1 := n3) (x1 := x3) (g2 := g2) (n2 := n2) (x2 := x2); rw [hcb] at this; exact this
  have Ncb : cbe = 0 → V cba cbn cbx * (10 ^ t : Nat) = V g3 n3 x3 * V g2 n2 x2 := fun he => by
    have := mulR_V h3 h2 t ht (by rw [hcb]; exact he)
    rw [hcb] at this; exact this
  obtain ⟨ssa, ssn, ssx, sse, hss⟩ : ∃ a b c d, addR aca acn acx cba cbn cbx = (a, b, c, d) := ⟨_, _, _, _, rfl⟩
  have Kss := addR_V Oac Ocb
  rw [hss] at Kss
  simp only at Kss
  have Hss := Lib.hid (fun w => dadd_any aca acn acx cba cbn cbx w Oac Ocb)
  rw [hss] at Hss
  unfold retR at Hss
  simp only at Hss
  have Zss := addR_cs Oac Ocb 400 rfl
  rw [hss] at Zss
  have f3 : abe = 0 → ppe = 0 → ace = 0 → cbe = 0 → ssa = ppa ∧ S ssn = S ppn ∧ ssx = ppx ∧ sse = 0 := fun e f g h => by
    have q : (ssa, ssn, ssx, sse) = (ppa, ppn, ppx, ppe) := by
      have e1 := addR_cs Oac Ocb t ht
      have e2 := cs_scale t t (V aca acn acx + V cba cbn cbx)
      have e3 := mulR_cs Kab.1 h3 (t + t) (by omega)
      rw [hss, ← e2, Int.add_mul, Nac g, Ncb h] at e1
      rw [hpp, Kab.2 e, Int.add_mul] at e3
      rw [e1, e3, Int.mul_comm (V g3 n3 x3) (V g2 n2 x2)]
    injection q with e1 q
    injection q with e2 q
    injection q with e3 e4
    exact ⟨e1, by rw [e2], e3, by rw [e4, f]⟩
  obtain ⟨qqa, qqs, qqx, qqe, hqq, f4⟩ := div_ring h1 h3 hac
  have Hqq := Lib.hid hqq
  clear hqq
  have F1 := Lib.hid f1
  clear f1
  have F2 := Lib.hid f2
  clear f2
  have F3 := Lib.hid f3
  clear f3
  have F4 := Lib.hid f4
  clear f4
  have e3t : n3 = 0 ∨ 0 < n3 := Nat.eq_zero_or_pos n3
  have E3 := Lib.hid e3t
  clear e3t ht Kab Kbc Kxx Kyy Kss Zab Zbc Zxx Zyy Zss hab hbk hbc hxx hyy hpp hac hcb hss Opp Oac Ocb Npp Nac Ncb h1 h2 h3
  obtain ⟨abs, habs⟩ : ∃ s, S abn = s := ⟨_, rfl⟩
  simp only [habs] at *
  clear habs
  obtain ⟨bks, hbks⟩ : ∃ s, S bkn = s := ⟨_, rfl⟩
  simp only [hbks] at *
  clear hbks
  obtain ⟨bcs, hbcs⟩ : ∃ s, S bcn = s := ⟨_, rfl⟩
  simp only [hbcs] at *
  clear hbcs
  obtain ⟨xxs, hxxs⟩ : ∃ s, S xxn = s := ⟨_, rfl⟩
  simp only [hxxs] at *
  clear hxxs
  obtain ⟨yys, hyys⟩ : ∃ s, S yyn = s := ⟨_, rfl⟩
  simp only [hyys] at *
  clear hyys
  obtain ⟨pps, hpps⟩ : ∃ s, S ppn = s := ⟨_, rfl⟩
  simp only [hpps] at *
  clear hpps
  obtain ⟨acs, hacs⟩ : ∃ s, S acn = s := ⟨_, rfl⟩
  simp only [hacs] at *
  clear hacs
  obtain ⟨cbs, hcbs⟩ : ∃ s, S cbn = s := ⟨_, rfl⟩
  simp only [hcbs] at *
  clear hcbs
  obtain ⟨sss, hsss⟩ : ∃ s, S ssn = s := ⟨_, rfl⟩
  simp only [hsss] at *
  clear hsss
  go_enter Tryd.func6, Tryd.ntmps6
  go_upto_region 1 with fail
  go_cut [3, 4, 5] (fun t3 t4 t5 wx => ∃ A B C : Nat, t3 = .pointer (some ⟨A, 0, none⟩) ∧ t4 = .pointer (some ⟨B, 0, none⟩) ∧ t5 = .pointer (some ⟨C, 0, none⟩) ∧ DC wx A g1 (S n1) x1 ∧ DC wx B g2 (S n2) x2 ∧ DC wx C g3 (S n3) x3 ∧ Below w.heap.size w wx)
  case first =>
    go_region_held3 (fun (W : World) => W.cell? ⟨w.heap.size, 0, none⟩ = some (.bool g1) ∧ W.cell? ⟨w.heap.size, 1, none⟩ = some (.string (S n1)) ∧ W.cell? ⟨w.heap.size, 2, none⟩ = some (.int .i64 x1) ∧ W.cell? ⟨w.heap.size, 3, none⟩ = some (.bool g2) ∧ W.cell? ⟨w.heap.size, 4, none⟩ = some (.string (S n2)) ∧ W.cell? ⟨w.heap.size, 5, none⟩ = some (.int .i64 x2) ∧ W.cell? ⟨w.heap.size, 6, none⟩ = some (.bool g3) ∧ W.cell? ⟨w.heap.size, 7, none⟩ = some (.string (S n3)) ∧ W.cell? ⟨w.heap.size, 8, none⟩ = some (.int .i64 x3)) (go_keep) (fail)
    all_goals
      go_wp2_with fail
      go_meet
      first | exact ⟨_, _, _, rfl, rfl, rfl, (three_new w (.cells #[.bool g1, .string (S n1), .int .i64 x1, .bool g2, .string (S n2), .int .i64 x2, .bool g3, .string (S n3), .int .i64 x3] 42) g1 (S n1) x1 g2 (S n2) x2 g3 (S n3) x3).1, (three_new w (.cells #[.bool g1, .string (S n1), .int .i64 x1, .bool g2, .string (S n2), .int .i64 x2, .bool g3, .string (S n3), .int .i64 x3] 42) g1 (S n1) x1 g2 (S n2) x2 g3 (S n3) x3).2.1, (three_new w (.cells #[.bool g1, .string (S n1), .int .i64 x1, .bool g2, .string (S n2), .int .i64 x2, .bool g3, .string (S n3), .int .i64 x3] 42) g1 (S n1) x1 g2 (S n2) x2 g3 (S n3) x3).2.2.1, (three_new w (.cells #[.bool g1, .string (S n1), .int .i64 x1, .bool g2, .string (S n2), .int .i64 x2, .bool g3, .string (S n3), .int .i64 x3] 42) g1 (S n1) x1 g2 (S n2) x2 g3 (S n3) x3).2.2.2⟩ | exact ⟨_, _, _, rfl, rfl, rfl, (three_new w (.cells #[.bool g1, .string (S n1), .int .i64 x1, .bool g2, .string (S n2), .int .i64 x2, .bool g3, .string (S n3), .int .i64 x3] 42) g1 (S n1) x1 g3 (S n3) x3 g2 (S n2) x2).1, (three_new w (.cells #[.bool g1, .string (S n1), .int .i64 x1, .bool g2, .string (S n2), .int .i64 x2, .bool g3, .string (S n3), .int .i64 x3] 42) g1 (S n1) x1 g3 (S n3) x3 g2 (S n2) x2).2.2.1, (three_new w (.cells #[.bool g1, .string (S n1), .int .i64 x1, .bool g2, .string (S n2), .int .i64 x2, .bool g3, .string (S n3), .int .i64 x3] 42) g1 (S n1) x1 g3 (S n3) x3 g2 (S n2) x2).2.1, (three_new w (.cells #[.bool g1, .string (S n1), .int .i64 x1, .bool g2, .string (S n2), .int .i64 x2, .bool g3, .string (S n3), .int .i64 x3] 42) g1 (S n1) x1 g3 (S n3) x3 g2 (S n2) x2).2.2.2⟩ | exact ⟨_, _, _, rfl, rfl, rfl, (three_new w (.cells #[.bool g1, .string (S n1), .int .i64 x1, .bool g2, .string (S n2), .int .i64 x2, .bool g3, .string (S n3), .int .i64 x3] 42) g2 (S n2) x2 g1 (S n1) x1 g3 (S n3) x3).2.1, (three_new w (.cells #[.bool g1, .string (S n1), .int .i64 x1, .bool g2, .string (S n2), .int .i64 x2, .bool g3, .string (S n3), .int .i64 x3] 42) g2 (S n2) x2 g1 (S n1) x1 g3 (S n3) x3).1, (three_new w (.cells #[.bool g1, .string (S n1), .int .i64 x1, .bool g2, .string (S n2), .int .i64 x2, .bool g3, .string (S n3), .int .i64 x3] 42) g2 (S n2) x2 g1 (S n1) x1 g3 (S n3) x3).2.2.1, (three_new w (.cells #[.bool g1, .string (S n1), .int .i64 x1, .bool g2, .string (S n2), .int .i64 x2, .bool g3, .string (S n3), .int .i64 x3] 42) g2 (S n2) x2 g1 (S n1) x1 g3 (S n3) x3).2.2.2⟩ | exact ⟨_, _, _, rfl, rfl, rfl, (three_new w (.cells #[.bool g1, .string (S n1), .int .i64 x1, .bool g2, .string (S n2), .int .i64 x2, .bool g3, .string (S n3), .int .i64 x3] 42) g2 (S n2) x2 g3 (S n3) x3 g1 (S n1) x1).2.2.1, (three_new w (.cells #[.bool g1, .string (S n1), .int .i64 x1, .bool g2, .string (S n2), .int .i64 x2, .bool g3, .string (S n3), .int .i64 x3] 42) g2 (S n2) x2 g3 (S n3) x3 g1 (S n1) x1).1, (three_new w (.cells #[.bool g1, .string (S n1), .int .i64 x1, .bool g2, .string (S n2), .int .i64 x2, .bool g3, .string (S n3), .int .i64 x3] 42) g2 (S n2) x2 g3 (S n3) x3 g1 (S n1) x1).2.1, (three_new w (.cells #[.bool g1, .string (S n1), .int .i64 x1, .bool g2, .string (S n2), .int .i64 x2, .bool g3, .string (S n3), .int .i64 x3] 42) g2 (S n2) x2 g3 (S n3) x3 g1 (S n1) x1).2.2.2⟩ | exact ⟨_, _, _, rfl, rfl, rfl, (three_new w (.cells #[.bool g1, .string (S n1), .int .i64 x1, .bool g2, .string (S n2), .int .i64 x2, .bool g3, .string (S n3), .int .i64 x3] 42) g3 (S n3) x3 g1 (S n1) x1 g2 (S n2) x2).2.1, (three_new w (.cells #[.bool g1, .string (S n1), .int .i64 x1, .bool g2, .string (S n2), .int .i64 x2, .bool g3, .string (S n3), .int .i64 x3] 42) g3 (S n3) x3 g1 (S n1) x1 g2 (S n2) x2).2.2.1, (three_new w (.cells #[.bool g1, .string (S n1), .int .i64 x1, .bool g2, .string (S n2), .int .i64 x2, .bool g3, .string (S n3), .int .i64 x3] 42) g3 (S n3) x3 g1 (S n1) x1 g2 (S n2) x2).1, (three_new w (.cells #[.bool g1, .string (S n1), .int .i64 x1, .bool g2, .string (S n2), .int .i64 x2, .bool g3, .string (S n3), .int .i64 x3] 42) g3 (S n3) x3 g1 (S n1) x1 g2 (S n2) x2).2.2.2⟩ | exact ⟨_, _, _, rfl, rfl, rfl, (three_new w (.cells #[.bool g1, .string (S n1), .int .i64 x1, .bool g2, .string (S n2), .int .i64 x2, .bool g3, .string (S n3), .int .i64 x3] 42) g3 (S n3) x3 g2 (S n2) x2 g1 (S n1) x1).2.2.1, (three_new w (.cells #[.bool g1, .string (S n1), .int .i64 x1, .bool g2, .string (S n2), .int .i64 x2, .bool g3, .string (S n3), .int .i64 x3] 42) g3 (S n3) x3 g2 (S n2) x2 g1 (S n1) x1).2.1, (three_new w (.cells #[.bool g1, .string (S n1), .int .i64 x1, .bool g2, .string (S n2), .int .i64 x2, .bool g3, .string (S n3), .int .i64 x3] 42) g3 (S n3) x3 g2 (S n2) x2 g1 (S n1) x1).1, (three_new w (.cells #[.bool g1, .string (S n1), .int .i64 x1, .bool g2, .string (S n2), .int .i64 x2, .bool g3, .string (S n3), .int .i64 x3] 42) g3 (S n3) x3 g2 (S n2) x2 g1 (S n1) x1).2.2.2⟩
  case rest =>
    obtain ⟨A0, B0, C0, rfl, rfl, rfl, P, Q, R, bl⟩ := hcut
    obtain ⟨p0, p1, p2⟩ := P.cells
    obtain ⟨q0, q1, q2⟩ := Q.cells
    obtain ⟨r0, r1, r2⟩ := R.cells
    go_upto_region 9 with (first | (go_at_call 8; first | ((with_reducible refine (HV1.out _).mono ?_); rintro e wk ⟨rfl, hb⟩; have P' := (P.below hb P.lt); clear P; have P := P'; clear P'; have Q' := (Q.below hb Q.lt); clear Q; have Q := Q'; clear Q'; have R' := (R.below hb R.lt); clear R; have R := R'; clear R'; have bl' := bl.trans (hb.mono bl.size); clear hb bl; have bl := bl'; clear bl'; obtain ⟨p0, p1, p2⟩ := P.cells; obtain ⟨q0, q1, q2⟩ := Q.cells; obtain ⟨r0, r1, r2⟩ := R.cells) | ((with_reducible refine (HV2.out _).mono ?_); rintro e wk ⟨rfl, hb⟩; have P' := (P.below hb P.lt); clear P; have P := P'; clear P'; have Q' := (Q.below hb Q.lt); clear Q; have Q := Q'; clear Q'; have R' := (R.below hb R.lt); clear R; have R := R'; clear R'; have bl' := bl.trans (hb.mono bl.size); clear hb bl; have bl := bl'; clear bl'; obtain ⟨p0, p1, p2⟩ := P.cells; obtain ⟨q0, q1, q2⟩ := Q.cells; obtain ⟨r0, r1, r2⟩ := R.cells) | ((with_reducible refine (HV3.out _).mono ?_); rintro e wk ⟨rfl, hb⟩; have P' := (P.below hb P.lt); clear P; have P := P'; clear P'; have Q' := (Q.below hb Q.lt); clear Q; have Q := Q'; clear Q'; have R' := (R.below hb R.lt); clear R; have R := R'; clear R'; have bl' := bl.trans (hb.mono bl.size); clear hb bl; have bl := bl'; clear bl'; obtain ⟨p0, p1, p2⟩ := P.cells; obtain ⟨q0, q1, q2⟩ := Q.cells; obtain ⟨r0, r1, r2⟩ := R.cells)) | (go_at_call 22; first | ((with_reducible refine (Hab.out _).mono ?_); rintro e wAB ⟨rfl, hb⟩; have P' := (P.below hb P.lt).alloc (.cells #[.bool aba, .string abs, .int .i64 abx] 23); clear P; have P := P'; clear P'; have Q' := (Q.below hb Q.lt).alloc (.cells #[.bool aba, .string abs, .int .i64 abx] 23); clear Q; have Q := Q'; clear Q'; have R' := (R.below hb R.lt).alloc (.cells #[.bool aba, .string abs, .int .i64 abx] 23); clear R; have R := R'; clear R'; have AB := DC.new wAB aba abs abx; have bl' := (bl.trans (hb.mono bl.size)).alloc (Nat.le_trans bl.size hb.size) (.cells #[.bool aba, .string abs, .int .i64 abx] 23); clear hb bl; have bl := bl'; clear bl'; obtain ⟨p0, p1, p2⟩ := P.cells; obtain ⟨q0, q1, q2⟩ := Q.cells; obtain ⟨r0, r1, r2⟩ := R.cells; obtain ⟨ab0, ab1, ab2⟩ := AB.cells) | ((with_reducible refine (Hba.out _).mono ?_); rintro e wBA ⟨rfl, hb⟩; have P' := (P.below hb P.lt).alloc (.cells #[.bool aba, .string abs, .int .i64 abx] 23); clear P; have P := P'; clear P'; have Q' := (Q.below hb Q.lt).alloc (.cells #[.bool aba, .string abs, .int .i64 abx] 23); clear Q; have Q := Q'; clear Q'; have R' := (R.below hb R.lt).alloc (.cells #[.bool aba, .string abs, .int .i64 abx] 23); clear R; have R := R'; clear R'; have AB' := (AB.below hb AB.lt).alloc (.cells #[.bool aba, .string abs, .int .i64 abx] 23); clear AB; have AB := AB'; clear AB'; have BA := DC.new wBA aba abs abx; have bl' := (bl.trans (hb.mono bl.size)).alloc (Nat.le_trans bl.size hb.size) (.cells #[.bool aba, .string abs, .int .i64 abx] 23); clear hb bl; have bl := bl'; clear bl'; obtain ⟨p0, p1, p2⟩ := P.cells; obtain ⟨q0, q1, q2⟩ := Q.cells; obtain ⟨r0, r1, r2⟩ := R.cells; obtain ⟨ab0, ab1, ab2⟩ := AB.cells; obtain ⟨ba0, ba1, ba2⟩ := BA.cells)) | (go_at_call 23; ((with_reducible refine (Hbk.out _).mono ?_); rintro e wBK ⟨rfl, hb⟩; have P' := (P.below hb P.lt).alloc (.cells #[.bool bka, .string bks, .int .i64 bkx] 23); clear P; have P := P'; clear P'; have Q' := (Q.below hb Q.lt).alloc (.cells #[.bool bka, .string bks, .int .i64 bkx] 23); clear Q; have Q := Q'; clear Q'; have R' := (R.below hb R.lt).alloc (.cells #[.bool bka, .string bks, .int .i64 bkx] 23); clear R; have R := R'; clear R'; have AB' := (AB.below hb AB.lt).alloc (.cells #[.bool bka, .string bks, .int .i64 bkx] 23); clear AB; have AB := AB'; clear AB'; have BK := DC.new wBK bka bks bkx; have bl' := (bl.trans (hb.mono bl.size)).alloc (Nat.le_trans bl.size hb.size) (.cells #[.bool bka, .string bks, .int .i64 bkx] 23); clear hb bl; have bl := bl'; clear bl'; obtain ⟨p0, p1, p2⟩ := P.cells; obtain ⟨q0, q1, q2⟩ := Q.cells; obtain ⟨r0, r1, r2⟩ := R.cells; obtain ⟨ab0, ab1, ab2⟩ := AB.cells; obtain ⟨bk0, bk1, bk2⟩ := BK.cells)))
    go_cut [84] (fun t84 wx => t84 = .bool false ∧ DC wx A0 g1 (S n1) x1 ∧ DC wx B0 g2 (S n2) x2 ∧ DC wx C0 g3 (S n3) x3 ∧ DC wx wAB.heap.size aba abs abx ∧ Below w.heap.size w wx)
    case first => as_aux_lemma =>
      by_cases he : abe = 0
      · obtain ⟨rfl, rfl, rfl, rfl⟩ := F1.out he
        subst he
        go_wp2
        go_meet
        exact ⟨rfl, P, Q, R, AB, bl⟩
      · have he2 := ne_f he
        go_wp2
        go_meet
        exact ⟨rfl, P, Q, R, AB, bl⟩
    case rest => as_aux_lemma =>
      clear P Q R AB bl p0 p1 p2 q0 q1 q2 r0 r1 r2 ab0 ab1 ab2
      obtain ⟨rfl, P, Q, R, AB, bl⟩ := hcut
      obtain ⟨p0, p1, p2⟩ := P.cells
      obtain ⟨q0, q1, q2⟩ := Q.cells
      obtain ⟨r0, r1, r2⟩ := R.cells
      obtain ⟨ab0, ab1, ab2⟩ := AB.cells
      go_upto_region 14 with (first | (go_at_call 22; first | ((with_reducible refine (Hbc.out _).mono ?_); rintro e wBC ⟨rfl, hb⟩; have P' := (P.below hb P.lt).alloc (.cells #[.bool bca, .string bcs, .int .i64 bcx] 23); clear P; have P := P'; clear P'; have Q' := (Q.below hb Q.lt).alloc (.cells #[.bool bca, .string bcs, .int .i64 bcx] 23); clear Q; have Q := Q'; clear Q'; have R' := (R.below hb R.lt).alloc (.cells #[.bool bca, .string bcs, .int .i64 bcx] 23); clear R; have R := R'; clear R'; have AB' := (AB.below hb AB.lt).alloc (.cells #[.bool bca, .string bcs, .int .i64 bcx] 23); clear AB; have AB := AB'; clear AB'; have BC := DC.new wBC bca bcs bcx; have bl' := (bl.trans (hb.mono bl.size)).alloc (Nat.le_trans bl.size hb.size) (.cells #[.bool bca, .string bcs, .int .i64 bcx] 23); clear hb bl; have bl := bl'; clear bl'; obtain ⟨p0, p1, p2⟩ := P.cells; obtain ⟨q0, q1, q2⟩ := Q.cells; obtain ⟨r0, r1, r2⟩ := R.cells; obtain ⟨ab0, ab1, ab2⟩ := AB.cells; obtain ⟨bc0, bc1, bc2⟩ := BC.cells) | ((with_reducible refine (Hxx.out _).mono ?_); rintro e wXX ⟨rfl, hb⟩; have P' := (P.below hb P.lt).alloc (.cells #[.bool xxa, .string xxs, .int .i64 xxx] 23); clear P; have P := P'; clear P'; have Q' := (Q.below hb Q.lt).alloc (.cells #[.bool xxa, .string xxs, .int .i64 xxx] 23); clear Q; have Q := Q'; clear Q'; have R' := (R.below hb R.lt).alloc (.cells #[.bool xxa, .string xxs, .int .i64 xxx] 23); clear R; have R := R'; clear R'; have AB' := (AB.below hb AB.lt).alloc (.cells #[.bool xxa, .string xxs, .int .i64 xxx] 23); clear AB; have AB := AB'; clear AB'; have BC' := (BC.below hb BC.lt).alloc (.cells #[.bool xxa, .string xxs, .int .i64 xxx] 23); clear BC; have BC := BC'; clear BC'; have XX := DC.new wXX xxa xxs xxx; have bl' := (bl.trans (hb.mono bl.size)).alloc (Nat.le_trans bl.size hb.size) (.cells #[.bool xxa, .string xxs, .int .i64 xxx] 23); clear hb bl; have bl := bl'; clear bl'; obtain ⟨p0, p1, p2⟩ := P.cells; obtain ⟨q0, q1, q2⟩ := Q.cells; obtain ⟨r0, r1, r2⟩ := R.cells; obtain ⟨ab0, ab1, ab2⟩ := AB.cells; obtain ⟨bc0, bc1, bc2⟩ := BC.cells; obtain ⟨xx0, xx1, xx2⟩ := XX.cells) | ((with_reducible refine (Hyy.out _).mono ?_); rintro e wYY ⟨rfl, hb⟩; have P' := (P.below hb P.lt).alloc (.cells #[.bool yya, .string yys, .int .i64 yyx] 23); clear P; have P := P'; clear P'; have Q' := (Q.below hb Q.lt).alloc (.cells #[.bool yya, .string yys, .int .i64 yyx] 23); clear Q; have Q := Q'; clear Q'; have R' := (R.below hb R.lt).alloc (.cells #[.bool yya, .string yys, .int .i64 yyx] 23); clear R; have R := R'; clear R'; have AB' := (AB.below hb AB.lt).alloc (.cells #[.bool yya, .string yys, .int .i64 yyx] 23); clear AB; have AB := AB'; clear AB'; have XX' := (XX.below hb XX.lt).alloc (.cells #[.bool yya, .string yys, .int .i64 yyx] 23); clear XX; have XX := XX'; clear XX'; have YY := DC.new wYY yya yys yyx; have bl' := (bl.trans (hb.mono bl.size)).alloc (Nat.le_trans bl.size hb.size) (.cells #[.bool yya, .string yys, .int .i64 yyx] 23); clear hb bl; have bl := bl'; clear bl'; obtain ⟨p0, p1, p2⟩ := P.cells; obtain ⟨q0, q1, q2⟩ := Q.cells; obtain ⟨r0, r1, r2⟩ := R.cells; obtain ⟨ab0, ab1, ab2⟩ := AB.cells; obtain ⟨xx0, xx1, xx2⟩ := XX.cells; obtain ⟨yy0, yy1, yy2⟩ := YY.cells)))
      go_cut [121] (fun t121 wx => t121 = .bool false ∧ DC wx A0 g1 (S n1) x1 ∧ DC wx B0 g2 (S n2) x2 ∧ DC wx C0 g3 (S n3) x3 ∧ DC wx wAB.heap.size aba abs abx ∧ Below w.heap.size w wx)
      case first => as_aux_lemma =>
        by_cases he : abe = 0
        · subst he
          by_cases hf : bce = 0
          · subst hf
            by_cases hg : xxe = 0
            · obtain ⟨rfl, rfl, rfl, rfl⟩ := F2.out rfl rfl hg
              subst hg
              go_wp2
              go_meet
              exact ⟨rfl, P, Q, R, AB, bl⟩
            · have he2 := ne_f hg
              go_wp2
              go_meet
              exact ⟨rfl, P, Q, R, AB, bl⟩
          · have he2 := ne_f hf
            go_wp2
            go_meet
            exact ⟨rfl, P, Q, R, AB, bl⟩
        · have he2 := ne_f he
          go_wp2
          go_meet
          exact ⟨rfl, P, Q, R, AB, bl⟩
      case rest => as_aux_lemma =>
        clear P Q R AB bl p0 p1 p2 q0 q1 q2 r0 r1 r2 ab0 ab1 ab2
        obtain ⟨rfl, P, Q, R, AB, bl⟩ := hcut
        obtain ⟨p0, p1, p2⟩ := P.cells
        obtain ⟨q0, q1, q2⟩ := Q.cells
        obtain ⟨r0, r1, r2⟩ := R.cells
        obtain ⟨ab0, ab1, ab2⟩ := AB.cells
        go_upto_region 20 with (first | (go_at_call 10; first | ((with_reducible refine (HMpp.out _).mono ?_); rintro e wPP ⟨rfl, hb⟩; have P' := (P.below hb P.lt).alloc (.cells #[.bool ppa, .string pps, .int .i64 ppx] 23); clear P; have P := P'; clear P'; have Q' := (Q.below hb Q.lt).alloc (.cells #[.bool ppa, .string pps, .int .i64 ppx] 23); clear Q; have Q := Q'; clear Q'; have R' := (R.below hb R.lt).alloc (.cells #[.bool ppa, .string pps, .int .i64 ppx] 23); clear R; have R := R'; clear R'; have PP := DC.new wPP ppa pps ppx; have bl' := (bl.trans (hb.mono bl.size)).alloc (Nat.le_trans bl.size hb.size) (.cells #[.bool ppa, .string pps, .int .i64 ppx] 23); clear hb bl; have bl := bl'; clear bl'; obtain ⟨p0, p1, p2⟩ := P.cells; obtain ⟨q0, q1, q2⟩ := Q.cells; obtain ⟨r0, r1, r2⟩ := R.cells; obtain ⟨pp0, pp1, pp2⟩ := PP.cells) | ((with_reducible refine (HMac.out _).mono ?_); rintro e wAC ⟨rfl, hb⟩; have P' := (P.below hb P.lt).alloc (.cells #[.bool aca, .string acs, .int .i64 acx] 23); clear P; have P := P'; clear P'; have Q' := (Q.below hb Q.lt).alloc (.cells #[.bool aca, .string acs, .int .i64 acx] 23); clear Q; have Q := Q'; clear Q'; have R' := (R.below hb R.lt).alloc (.cells #[.bool aca, .string acs, .int .i64 acx] 23); clear R; have R := R'; clear R'; have PP' := (PP.below hb PP.lt).alloc (.cells #[.bool aca, .string acs, .int .i64 acx] 23); clear PP; have PP := PP'; clear PP'; have AC := DC.new wAC aca acs acx; have bl' := (bl.trans (hb.mono bl.size)).alloc (Nat.le_trans bl.size hb.size) (.cells #[.bool aca, .string acs, .int .i64 acx] 23); clear hb bl; have bl := bl'; clear bl'; obtain ⟨p0, p1, p2⟩ := P.cells; obtain ⟨q0, q1, q2⟩ := Q.cells; obtain ⟨r0, r1, r2⟩ := R.cells; obtain ⟨ac0, ac1, ac2⟩ := AC.cells) | ((with_reducible refine (HMcb.out _).mono ?_); rintro e wCB ⟨rfl, hb⟩; have P' := (P.below hb P.lt).alloc (.cells #[.bool cba, .string cbs, .int .i64 cbx] 23); clear P; have P := P'; clear P'; have R' := (R.below hb R.lt).alloc (.cells #[.bool cba, .string cbs, .int .i64 cbx] 23); clear R; have R := R'; clear R'; have PP' := (PP.below hb PP.lt).alloc (.cells #[.bool cba, .string cbs, .int .i64 cbx] 23); clear PP; have PP := PP'; clear PP'; have AC' := (AC.below hb AC.lt).alloc (.cells #[.bool cba, .string cbs, .int .i64 cbx] 23); clear AC; have AC := AC'; clear AC'; have CB := DC.new wCB cba cbs cbx; have bl' := (bl.trans (hb.mono bl.size)).alloc (Nat.le_trans bl.size hb.size) (.cells #[.bool cba, .string cbs, .int .i64 cbx] 23); clear hb bl; have bl := bl'; clear bl'; obtain ⟨p0, p1, p2⟩ := P.cells; obtain ⟨r0, r1, r2⟩ := R.cells; obtain ⟨ac0, ac1, ac2⟩ := AC.cells; obtain ⟨cb0, cb1, cb2⟩ := CB.cells)) | (go_at_call 22; ((with_reducible refine (Hss.out _).mono ?_); rintro e wSS ⟨rfl, hb⟩; have P' := (P.below hb P.lt).alloc (.cells #[.bool ssa, .string sss, .int .i64 ssx] 23); clear P; have P := P'; clear P'; have R' := (R.below hb R.lt).alloc (.cells #[.bool ssa, .string sss, .int .i64 ssx] 23); clear R; have R := R'; clear R'; have PP' := (PP.below hb PP.lt).alloc (.cells #[.bool ssa, .string sss, .int .i64 ssx] 23); clear PP; have PP := PP'; clear PP'; have AC' := (AC.below hb AC.lt).alloc (.cells #[.bool ssa, .string sss, .int .i64 ssx] 23); clear AC; have AC := AC'; clear AC'; have SS := DC.new wSS ssa sss ssx; have bl' := (bl.trans (hb.mono bl.size)).alloc (Nat.le_trans bl.size hb.size) (.cells #[.bool ssa, .string sss, .int .i64 ssx] 23); clear hb bl; have bl := bl'; clear bl'; obtain ⟨p0, p1, p2⟩ := P.cells; obtain ⟨r0, r1, r2⟩ := R.cells; obtain ⟨pp0, pp1, pp2⟩ := PP.cells; obtain ⟨ac0, ac1, ac2⟩ := AC.cells; obtain ⟨ss0, ss1, ss2⟩ := SS.cells)))
        go_cut [168] (fun t168 wx => t168 = .bool false ∧ DC wx A0 g1 (S n1) x1 ∧ DC wx C0 g3 (S n3) x3 ∧ DC wx wAC.heap.size aca acs acx ∧ Below w.heap.size w wx)
        case first => as_aux_lemma =>
          by_cases he : abe = 0
          · subst he
            by_cases hf : ppe = 0
            · subst hf
              by_cases hg : ace = 0
              · subst hg
                by_cases hh : cbe = 0
                · obtain ⟨rfl, rfl, rfl, rfl⟩ := F3.out rfl rfl rfl hh
                  subst hh
                  go_wp2
                  go_meet
                  exact ⟨rfl, P, R, AC, bl⟩
                · have he2 := ne_f hh
                  go_wp2
                  go_meet
                  exact ⟨rfl, P, R, AC, bl⟩
              · have he2 := ne_f hg
                go_wp2
                go_meet
                exact ⟨rfl, P, R, AC, bl⟩
            · have he2 := ne_f hf
              go_wp2
              go_meet
              exact ⟨rfl, P, R, AC, bl⟩
          · have he2 := ne_f he
            go_wp2
            go_meet
            exact ⟨rfl, P, R, AC, bl⟩
        case rest => as_aux_lemma =>
          clear P R AC bl p0 p1 p2 r0 r1 r2 ac0 ac1 ac2
          obtain ⟨rfl, P, R, AC, bl⟩ := hcut
          obtain ⟨p0, p1, p2⟩ := P.cells
          obtain ⟨r0, r1, r2⟩ := R.cells
          obtain ⟨ac0, ac1, ac2⟩ := AC.cells
          by_cases hg : ace = 0
          · rcases E3.out with h0 | h0
            · have e1 : (S n3).toList = [] := tl_nil (by rw [h0]; rfl)
              subst hg
              clear h0
              go_wp2_with (first | (go_at_call 11; ((with_reducible refine (Hqq.out _).mono ?_); rintro e wQQ ⟨rfl, hb⟩; have P' := (P.below hb P.lt).alloc (.cells #[.bool qqa, .string qqs, .int .i64 qqx] 23); clear P; have P := P'; clear P'; have R' := (R.below hb R.lt).alloc (.cells #[.bool qqa, .string qqs, .int .i64 qqx] 23); clear R; have R := R'; clear R'; have QQ := DC.new wQQ qqa qqs qqx; have bl' := (bl.trans (hb.mono bl.size)).alloc (Nat.le_trans bl.size hb.size) (.cells #[.bool qqa, .string qqs, .int .i64 qqx] 23); clear hb bl; have bl := bl'; clear bl'; obtain ⟨p0, p1, p2⟩ := P.cells; obtain ⟨r0, r1, r2⟩ := R.cells; obtain ⟨qq0, qq1, qq2⟩ := QQ.cells)) | (go_at_call 9; ((with_reducible refine (HL.out _).mono ?_); rintro e wk ⟨rfl, hb⟩; have bl' := bl.trans (hb.mono bl.size); clear hb bl; have bl := bl'; clear bl')))
              go_ret
              exact ⟨rfl, bl⟩
            · have e1 := tl_ne (S_pos h0)
              have e2 := tl_ne' (S_pos h0)
              obtain ⟨rfl, rfl, rfl, rfl⟩ := F4.out hg h0
              subst hg
              clear h0
              go_wp2_with (first | (go_at_call 11; ((with_reducible refine (Hqq.out _).mono ?_); rintro e wQQ ⟨rfl, hb⟩; have P' := (P.below hb P.lt).alloc (.cells #[.bool qqa, .string (S n1), .int .i64 qqx] 23); clear P; have P := P'; clear P'; have R' := (R.below hb R.lt).alloc (.cells #[.bool qqa, .string (S n1), .int .i64 qqx] 23); clear R; have R := R'; clear R'; have QQ := DC.new wQQ qqa (S n1) qqx; have bl' := (bl.trans (hb.mono bl.size)).alloc (Nat.le_trans bl.size hb.size) (.cells #[.bool qqa, .string (S n1), .int .i64 qqx] 23); clear hb bl; have bl := bl'; clear bl'; obtain ⟨p0, p1, p2⟩ := P.cells; obtain ⟨r0, r1, r2⟩ := R.cells; obtain ⟨qq0, qq1, qq2⟩ := QQ.cells)) | (go_at_call 9; ((with_reducible refine (HL.out _).mono ?_); rintro e wk ⟨rfl, hb⟩; have bl' := bl.trans (hb.mono bl.size); clear hb bl; have bl := bl'; clear bl')))
              go_ret
              exact ⟨rfl, bl⟩
          · have he2 := ne_f hg
            go_wp2_with (first | (go_at_call 11; ((with_reducible refine (Hqq.out _).mono ?_); rintro e wQQ ⟨rfl, hb⟩; have P' := (P.below hb P.lt).alloc (.cells #[.bool qqa, .string qqs, .int .i64 qqx] 23); clear P; have P := P'; clear P'; have R' := (R.below hb R.lt).alloc (.cells #[.bool qqa, .string qqs, .int .i64 qqx] 23); clear R; have R := R'; clear R'; have QQ := DC.new wQQ qqa qqs qqx; have bl' := (bl.trans (hb.mono bl.size)).alloc (Nat.le_trans bl.size hb.size) (.cells #[.bool qqa, .string qqs, .int .i64 qqx] 23); clear hb bl; have bl := bl'; clear bl'; obtain ⟨p0, p1, p2⟩ := P.cells; obtain ⟨r0, r1, r2⟩ := R.cells; obtain ⟨qq0, qq1, qq2⟩ := QQ.cells)) | (go_at_call 9; ((with_reducible refine (HL.out _).mono ?_); rintro e wk ⟨rfl, hb⟩; have bl' := bl.trans (hb.mono bl.size); clear hb bl; have bl := bl'; clear bl')))
            go_ret
            exact ⟨rfl, bl⟩
theorem ring_walk (g1 : Bool) (s1 : ByteArray) (x1 : Int) (g2 : Bool) (s2 : ByteArray) (x2 : Int) (g3 : Bool) (s3 : ByteArray) (x3 : Int) (w : World) (hs1 : s1.size ≤ maxLen) (hs2 : s2.size ≤ maxLen) (hs3 : s3.size ≤ maxLen) (hx1 : -9223372036854775808 ≤ x1 ∧ x1 ≤ 9223372036854775807) (hx2 : -9223372036854775808 ≤ x2 ∧ x2 ≤ 9223372036854775807) (hx3 : -9223372036854775808 ≤ x3 ∧ x3 ≤ 9223372036854775807) : Calls Tryd.prog 6 #[.agg #[.bool g1, .string s1, .int .i64 x1, .bool g2, .string s2, .int .i64 x2, .bool g3, .string s3, .int .i64 x3]] w fun e w' => e = .returned (.bool true) ∧ Below w.heap.size w w' := by
  unfold maxLen at hs1 hs2 hs3
  cases hv : (vB g1 s1 x1 && vB g2 s2 x2 && vB g3 s3 x3) with
  | false => exact ring_bad g1 s1 x1 g2 s2 x2 g3 s3 x3 w (by omega) (by omega) (by omega) hx1 hx2 hx3 hv
  | true =>
    rw [Bool.and_eq_true, Bool.and_eq_true] at hv
    obtain ⟨n1, rfl, h1⟩ := vB_ok hv.1.1
    obtain ⟨n2, rfl, h2⟩ := vB_ok hv.1.2
    obtain ⟨n3, rfl, h3⟩ := vB_ok hv.2
    exact ring_ok g1 n1 x1 g2 n2 x2 g3 n3 x3 w h1 h2 h3
end Go.Proofs.YtelehjdhjjedhabDoor.Dec
