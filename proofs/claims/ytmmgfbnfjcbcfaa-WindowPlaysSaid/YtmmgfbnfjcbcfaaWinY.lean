/-
  The law's walk: WindowPlays.
-/
import Derived.Test.YtmmgfbnfjcbcfaaWinX
namespace Go.Proofs.Ytmmgfbnfjcbcfaa.Win
open Go.RowKit
set_option linter.unusedVariables false
set_option linter.unusedSimpArgs false

/-- What holds at a round's head. -/
structure Hd (w wr : World) (B S m tk k : Nat) (t : ByteArray) (cl : Bool) (v : Value) (row : List UInt8) (fr : Nat) : Prop where
  win : Win wr w.heap.size B m t.data.toList tk cl v row fr
  sc : SC wr S m tk t cl
  bel : Below w.heap.size w wr
  len : tk ≤ 65536 * k
theorem Hd.le {w wr : World} {B S m tk k : Nat} {t : ByteArray} {cl : Bool} {v : Value} {row : List UInt8} {fr : Nat} (h : Hd w wr B S m tk k t cl v row fr) : t.size ≤ m ∧ m ≤ 65536 := by
  have := h.win.len
  have := h.win.htx
  exact ⟨by have : t.data.toList.length = t.size := rfl; omega, h.win.hsz⟩
theorem St.hd {w wr : World} {B S A m tk k : Nat} {t : ByteArray} {cl : Bool} {v : Value} {row : List UInt8} {fr : Nat} {kd n b : Int} {s : ByteArray} (h : St w wr w.heap.size B S A m tk tk t t cl cl v row fr kd s n b) (hl : tk ≤ 65536 * k) : Hd w wr B S m tk k t cl v row fr := ⟨h.win, h.sc, h.bel, hl⟩
set_option maxRecDepth 100000 in
set_option maxHeartbeats 16000000 in
theorem plays_walk (sz : Int) {a : Option Addr} {n cap : Nat} {kd : Nat → Int} {st : Nat → ByteArray} {nn bb : Nat → Int} (w : World) (hA : Acts w a n kd st nn bb) (hz : -9223372036854775808 ≤ sz ∧ sz ≤ 9223372036854775807) : Calls Try.prog 3 #[.int .i64 sz, .slice a n cap] w fun e w' => e = .returned (.bool true) ∧ Below w.heap.size w w' := by
  have hn := hA.1
  have HS := Lib.hid (small_any (cap := cap) hA)
  by_cases g : 1 ≤ sz ∧ sz ≤ 65536
  case neg =>
    have HB := Lib.hid (fun w => new_bad sz w (by omega) hz)
    have HR := Lib.hid (fun w => rnew_bad sz w (by omega) hz)
    clear hA
    go_enter Try.func3, Try.ntmps3
    have hb1 := Below.refl w.heap.size w
    have hbw := hb1.size
    go_wp2_with (first | (go_at_call 6; (with_reducible refine HS.out.mono ?_); rintro e w1 ⟨⟨r, rfl, hr⟩, rfl⟩; clear hr) | (go_at_call 8; (with_reducible refine (HB.out _).mono ?_); rintro e w2 ⟨rfl, rfl⟩) | (go_at_call 9; (with_reducible refine (HR.out _).mono ?_); rintro e w4 ⟨rfl, hbr⟩; have hb1 := hbr.alloc hbr.size (.cells #[.int .i64 0, .int .i64 0, .string ⟨#[]⟩, .bool false] 30); have hbw := hb1.size) | (go_at_call 7; (with_reducible refine (awake_any _).mono ?_); rintro e w3 ⟨rfl, hb⟩; have hb9 := hb1.trans (hb.mono hbw)))
    all_goals
      go_ret
      exact ⟨rfl, hb9⟩
  obtain ⟨m, rfl⟩ := Int.eq_ofNat_of_zero_le (show 0 ≤ sz by omega)
  have HN := Lib.hid (new_wn m w (by omega) (by omega))
  have HR := Lib.hid (fun w => rnew_any m w (by omega) (by omega))
  have HA := Lib.hid hA
  clear hA
  go_enter Try.func3, Try.ntmps3
  go_wp2_with (first | (go_at_call 6; (with_reducible refine HS.out.mono ?_); rintro e w1 ⟨⟨r, rfl, hr⟩, hw1⟩; have Hw1 := Lib.hid hw1; clear hw1) | (go_at_call 8; rw [Hw1.out]; (with_reducible refine HN.out.mono ?_); rintro e w2 ⟨rfl, W2, b2⟩) | (go_at_call 9; (with_reducible refine (HR.out _).mono ?_); rintro e w4 ⟨rfl, hbr⟩) | (go_at_call 7; (with_reducible refine (awake_any _).mono ?_); rintro e w3 ⟨rfl, hb⟩))
  · go_ret
    rw [Hw1.out] at hb
    exact ⟨rfl, hb⟩
  obtain ⟨hn2, hst⟩ := hr (by cases r <;> simp_all)
  have HST := Lib.hid hst
  clear hr hst
  have H0 : Hid (∃ v row fr, Hd w (w4.alloc (.cells #[.int .i64 m, .int .i64 0, .string ⟨#[]⟩, .bool false] 30)) w.heap.size w4.heap.size m 0 0 ⟨#[]⟩ false v row fr) := Lib.hid (by
    obtain ⟨v, row, fr, W⟩ := W2
    exact ⟨v, row, fr, (W.b hbr).a _, SC.new w4 m 0 ⟨#[]⟩ false, (b2.trans (hbr.mono b2.size)).alloc (Nat.le_trans b2.size hbr.size) _, Nat.zero_le _⟩)
  have hS4 := Nat.le_trans b2.size hbr.size
  generalize hSd : w4.heap.size = S at *
  clear W2 hbr b2
  go_loopw [6, 8, 9] (fun E F i wr => ∃ (k tk : Nat) (x : Int) (t : ByteArray) (cl : Bool) (v : Value) (row : List UInt8) (fr : Nat), k ≤ n ∧ i = .int .i64 k ∧ E = .int .i64 x ∧ F = .int .i64 x ∧ Hid (Hd w wr w.heap.size S m tk k t cl v row fr)) (fun _ _ i _ => n - (intOf i).toNat)
  case atStart =>
    obtain ⟨v, row, fr, H⟩ := H0.out
    exact ⟨0, 0, 0, ⟨#[]⟩, false, v, row, fr, Nat.zero_le _, rfl, rfl, rfl, Lib.hid H⟩
  case round =>
    obtain ⟨k, tk, x, t, cl, v, row, fr, hk, rfl, rfl, rfl, HK⟩ := hrel
    have bel := HK.out.bel
    have htk := HK.out.len
    have hbw := bel.size
    obtain ⟨htm, hm6⟩ := HK.out.le
    have hts : t.size ≤ 65536 := by omega
    by_cases hlt : k < n
    · obtain ⟨b, off, rfl, hbl, _, _, _, _, k0, k1, k2, _⟩ := HA.out.2 k hlt
      obtain ⟨c0, c1, c2, c3⟩ : wr.cell? ⟨b, off + k * 4, none⟩ = some (.int .i64 (kd k)) ∧ wr.cell? ⟨b, off + k * 4 + 1, none⟩ = some (.string (st k)) ∧ wr.cell? ⟨b, off + k * 4 + 2, none⟩ = some (.int .i64 (nn k)) ∧ wr.cell? ⟨b, off + k * 4 + 3, none⟩ = some (.int .i64 (bb k)) := by
        obtain ⟨b', off', h, e0, e1, e2, e3, _⟩ := HA.out.below bel k hlt
        injection h with h; injection h with h1 h2 _
        subst h1; subst h2
        exact ⟨e0, e1, e2, e3⟩
      have hsk := HST.out k hlt
      generalize hkd : kd k = kind at *
      generalize hsv : st k = s at *
      generalize hnv : nn k = p at *
      generalize hbv : bb k = q at *
      have HT0 := Lib.hid (St.begin HK.out.win HK.out.sc bel (Nat.le_refl _) hS4 kind s p q)
      have T := HT0.out
      obtain ⟨x0, x1, x2, x3⟩ := T.sc.cells
      have y0 := T.sc.fz 0
      have y1 := T.sc.fz 1
      have y2 := T.sc.fz 2
      have y3 := T.sc.fz 3
      by_cases q0 : kind = 0
      · subst q0
        cases cl with
        | true =>
          go_wp2_with (first | (go_at_call 10; go_loud ((with_reducible refine (win_feed2 s T.win.wn).mono ?_); rintro e w5 ⟨rfl, hX⟩; obtain ⟨v, row, fr, T⟩ := T.step (T.win.post ⟨0, hX⟩); clear hX; obtain ⟨a0, a1, a2, a3⟩ := T.ac.cells; obtain ⟨x0, x1, x2, x3⟩ := T.sc.cells; have y0 := T.sc.fz 0; have y1 := T.sc.fz 1; have y2 := T.sc.fz 2; have y3 := T.sc.fz 3)) | (go_at_call 11; go_loud ((with_reducible refine (rfeed_shut _ _ _ _ _).mono ?_); rintro e w6 ⟨rfl, hX⟩; have T := T.ref hX; clear hX; obtain ⟨a0, a1, a2, a3⟩ := T.ac.cells; obtain ⟨x0, x1, x2, x3⟩ := T.sc.cells; have y0 := T.sc.fz 0; have y1 := T.sc.fz 1; have y2 := T.sc.fz 2; have y3 := T.sc.fz 3; have T := T.put _ rfl)) | (go_at_call 20; (with_reducible refine (agrees_t T.win).mono ?_); rintro e w7 ⟨rfl, hX⟩; have T := T.ref hX; clear hX))
          go_roundw
          case rel => exact ⟨k + 1, tk, 29, t, true, _, _, _, hlt, rfl, rfl, rfl, Lib.hid (T.hd (by omega))⟩
          case measure => simp [intOf]; omega
        | false =>
          by_cases hfit : s.size ≤ m - t.size
          · have hap := list_app t s
            have HAP := Lib.hid hap
            clear hap
            have hF := Lib.hid (fun w' v row fr (X : Win w' w.heap.size w.heap.size m t.data.toList tk false v row fr) (hb : w.heap.size ≤ w'.heap.size) => vfeed X s hfit hb)
            rw [HAP.out] at hF
            go_wp2_with (first | (go_at_call 10; go_loud ((with_reducible refine (hF.out _ _ _ _ T.win T.bel.size).mono ?_); rintro e w5 ⟨rfl, hX⟩; obtain ⟨v, row, fr, T⟩ := T.step hX; clear hX; obtain ⟨a0, a1, a2, a3⟩ := T.ac.cells; obtain ⟨x0, x1, x2, x3⟩ := T.sc.cells; have y0 := T.sc.fz 0; have y1 := T.sc.fz 1; have y2 := T.sc.fz 2; have y3 := T.sc.fz 3)) | (go_at_call 11; go_loud ((with_reducible refine (rfeed_ok _ _ _ _ _ htm hm6 hfit).mono ?_); rintro e w6 ⟨rfl, hX⟩; have T := T.ref hX; clear hX; obtain ⟨a0, a1, a2, a3⟩ := T.ac.cells; obtain ⟨x0, x1, x2, x3⟩ := T.sc.cells; have y0 := T.sc.fz 0; have y1 := T.sc.fz 1; have y2 := T.sc.fz 2; have y3 := T.sc.fz 3; have T := T.put _ rfl)) | (go_at_call 20; (with_reducible refine (agrees_t T.win).mono ?_); rintro e w7 ⟨rfl, hX⟩; have T := T.ref hX; clear hX))
            go_roundw
            case rel => exact ⟨k + 1, tk, 0, t ++ s, false, _, _, _, hlt, rfl, rfl, rfl, Lib.hid (T.hd (by omega))⟩
            case measure => simp [intOf]; omega
          · have hfit2 : m - t.size < s.size := by omega
            have hfit2L : m - t.data.toList.length < s.size := hfit2
            go_wp2_with (first | (go_at_call 10; go_loud ((with_reducible refine (win_feed3 s T.win.wn hfit2L (by omega)).mono ?_); rintro e w5 ⟨rfl, hX⟩; obtain ⟨v, row, fr, T⟩ := T.step (T.win.post hX); clear hX; obtain ⟨a0, a1, a2, a3⟩ := T.ac.cells; obtain ⟨x0, x1, x2, x3⟩ := T.sc.cells; have y0 := T.sc.fz 0; have y1 := T.sc.fz 1; have y2 := T.sc.fz 2; have y3 := T.sc.fz 3)) | (go_at_call 11; go_loud ((with_reducible refine (rfeed_mem _ _ _ _ _ htm hm6 hfit2).mono ?_); rintro e w6 ⟨rfl, hX⟩; have T := T.ref hX; clear hX; obtain ⟨a0, a1, a2, a3⟩ := T.ac.cells; obtain ⟨x0, x1, x2, x3⟩ := T.sc.cells; have y0 := T.sc.fz 0; have y1 := T.sc.fz 1; have y2 := T.sc.fz 2; have y3 := T.sc.fz 3; have T := T.put _ rfl)) | (go_at_call 20; (with_reducible refine (agrees_t T.win).mono ?_); rintro e w7 ⟨rfl, hX⟩; have T := T.ref hX; clear hX))
            go_roundw
            case rel => exact ⟨k + 1, tk, 28, t, false, _, _, _, hlt, rfl, rfl, rfl, Lib.hid (T.hd (by omega))⟩
            case measure => simp [intOf]; omega
      by_cases q1 : kind = 1
      · subst q1
        by_cases hin : p < 0 ∨ (t.size : Int) < p
        · have hinL : Hid (p < 0 ∨ (t.data.toList.length : Int) < p) := Lib.hid hin
          go_wp2_with (first | (go_at_call 12; go_loud ((with_reducible refine (vtake_bad T.win p hinL.out k1).mono ?_); rintro e w5 ⟨rfl, hX⟩; obtain ⟨v, row, fr, T⟩ := T.step (T.win.post hX); clear hX; obtain ⟨a0, a1, a2, a3⟩ := T.ac.cells; obtain ⟨x0, x1, x2, x3⟩ := T.sc.cells; have y0 := T.sc.fz 0; have y1 := T.sc.fz 1; have y2 := T.sc.fz 2; have y3 := T.sc.fz 3)) | (go_at_call 13; go_loud ((with_reducible refine (rtake_bad _ _ _ _ _ _ hin hts).mono ?_); rintro e w6 ⟨rfl, hX⟩; have T := T.ref hX; clear hX; obtain ⟨a0, a1, a2, a3⟩ := T.ac.cells; obtain ⟨x0, x1, x2, x3⟩ := T.sc.cells; have y0 := T.sc.fz 0; have y1 := T.sc.fz 1; have y2 := T.sc.fz 2; have y3 := T.sc.fz 3; have T := T.put _ rfl)) | (go_at_call 20; (with_reducible refine (agrees_t T.win).mono ?_); rintro e w7 ⟨rfl, hX⟩; have T := T.ref hX; clear hX))
          go_roundw
          case rel => exact ⟨k + 1, tk, 2, t, cl, _, _, _, hlt, rfl, rfl, rfl, Lib.hid (T.hd (by omega))⟩
          case measure => simp [intOf]; omega
        · obtain ⟨j, rfl⟩ := Int.eq_ofNat_of_zero_le (show 0 ≤ p by omega)
          have hj : j ≤ t.size := by omega
          have hF := Lib.hid (fun w' v row fr (X : Win w' w.heap.size w.heap.size m t.data.toList tk cl v row fr) => vtake X j hj (by omega))
          have HD := Lib.hid (ba_drop t j)
          have HT := Lib.hid (ba_take t j)
          rw [HD.out, HT.out] at hF
          go_wp2_with (first | (go_at_call 12; go_loud ((with_reducible refine (hF.out _ _ _ _ T.win).mono ?_); rintro e w5 ⟨rfl, hX⟩; obtain ⟨v, row, fr, T⟩ := T.step hX; clear hX; obtain ⟨a0, a1, a2, a3⟩ := T.ac.cells; obtain ⟨x0, x1, x2, x3⟩ := T.sc.cells; have y0 := T.sc.fz 0; have y1 := T.sc.fz 1; have y2 := T.sc.fz 2; have y3 := T.sc.fz 3)) | (go_at_call 13; go_loud ((with_reducible refine (rtake_ok _ _ _ _ _ _ hj hts (by omega)).mono ?_); rintro e w6 ⟨rfl, hX⟩; have T := T.ref hX; clear hX; obtain ⟨a0, a1, a2, a3⟩ := T.ac.cells; obtain ⟨x0, x1, x2, x3⟩ := T.sc.cells; have y0 := T.sc.fz 0; have y1 := T.sc.fz 1; have y2 := T.sc.fz 2; have y3 := T.sc.fz 3; have T := T.put ((tk : Int) + (j : Int)) (by omega))) | (go_at_call 20; go_loud ((with_reducible refine (agrees_z T.win ((tk : Int) + (j : Int)) (by omega)).mono ?_); rintro e w7 ⟨rfl, hX⟩; have T := T.ref hX; clear hX)))
          go_roundw
          case rel => exact ⟨k + 1, tk + j, 0, t.extract j t.size, cl, _, _, _, hlt, rfl, rfl, rfl, Lib.hid (T.hd (by omega))⟩
          case measure => simp [intOf]; omega
      by_cases q3 : kind = 3
      · subst q3
        cases cl with
        | true =>
          go_wp2_with (first | (go_at_call 14; (with_reducible refine (win_close2 T.win.wn).mono ?_); rintro e w5 ⟨rfl, hX⟩; obtain ⟨v, row, fr, T⟩ := T.step (T.win.post ⟨0, hX⟩); clear hX; obtain ⟨a0, a1, a2, a3⟩ := T.ac.cells; obtain ⟨x0, x1, x2, x3⟩ := T.sc.cells; have y0 := T.sc.fz 0; have y1 := T.sc.fz 1; have y2 := T.sc.fz 2; have y3 := T.sc.fz 3) | (go_at_call 15; go_loud ((with_reducible refine (rclose_shut _ _ _ _).mono ?_); rintro e w6 ⟨rfl, hX⟩; have T := T.ref hX; clear hX; obtain ⟨a0, a1, a2, a3⟩ := T.ac.cells; obtain ⟨x0, x1, x2, x3⟩ := T.sc.cells; have y0 := T.sc.fz 0; have y1 := T.sc.fz 1; have y2 := T.sc.fz 2; have y3 := T.sc.fz 3; have T := T.put _ rfl)) | (go_at_call 20; (with_reducible refine (agrees_t T.win).mono ?_); rintro e w7 ⟨rfl, hX⟩; have T := T.ref hX; clear hX))
          go_roundw
          case rel => exact ⟨k + 1, tk, 29, t, true, _, _, _, hlt, rfl, rfl, rfl, Lib.hid (T.hd (by omega))⟩
          case measure => simp [intOf]; omega
        | false =>
          go_wp2_with (first | (go_at_call 14; go_loud ((with_reducible refine (vclose T.win).mono ?_); rintro e w5 ⟨rfl, hX⟩; obtain ⟨v, row, fr, T⟩ := T.step hX; clear hX; obtain ⟨a0, a1, a2, a3⟩ := T.ac.cells; obtain ⟨x0, x1, x2, x3⟩ := T.sc.cells; have y0 := T.sc.fz 0; have y1 := T.sc.fz 1; have y2 := T.sc.fz 2; have y3 := T.sc.fz 3)) | (go_at_call 15; go_loud ((with_reducible refine (rclose_ok _ _ _ _).mono ?_); rintro e w6 ⟨rfl, hX⟩; have T := T.ref hX; clear hX; obtain ⟨a0, a1, a2, a3⟩ := T.ac.cells; obtain ⟨x0, x1, x2, x3⟩ := T.sc.cells; have y0 := T.sc.fz 0; have y1 := T.sc.fz 1; have y2 := T.sc.fz 2; have y3 := T.sc.fz 3; have T := T.put _ rfl)) | (go_at_call 20; (with_reducible refine (agrees_t T.win).mono ?_); rintro e w7 ⟨rfl, hX⟩; have T := T.ref hX; clear hX))
          go_roundw
          case rel => exact ⟨k + 1, tk, 0, t, true, _, _, _, hlt, rfl, rfl, rfl, Lib.hid (T.hd (by omega))⟩
          case measure => simp [intOf]; omega
      · skip
        go_wp2_with (first | (go_at_call 16; go_loud ((with_reducible refine (vat_any T.win p k1).mono ?_); rintro e w5 ⟨rfl, hX⟩; obtain ⟨v, row, fr, T⟩ := T.step (T.win.post hX); clear hX; obtain ⟨a0, a1, a2, a3⟩ := T.ac.cells; obtain ⟨x0, x1, x2, x3⟩ := T.sc.cells; have y0 := T.sc.fz 0; have y1 := T.sc.fz 1; have y2 := T.sc.fz 2; have y3 := T.sc.fz 3)) | (go_at_call 17; go_loud ((with_reducible refine (rat_any _ _ _ _ _ _ hts).mono ?_); rintro e w6 ⟨rfl, hX⟩; have T := T.ref hX; clear hX; obtain ⟨a0, a1, a2, a3⟩ := T.ac.cells; obtain ⟨x0, x1, x2, x3⟩ := T.sc.cells; have y0 := T.sc.fz 0; have y1 := T.sc.fz 1; have y2 := T.sc.fz 2; have y3 := T.sc.fz 3)) | (go_at_call 18; go_loud ((with_reducible refine (vfind_any T.win q p k2 k1).mono ?_); rintro e w5 ⟨rfl, hX⟩; obtain ⟨v, row, fr, T⟩ := T.step (T.win.post hX); clear hX; obtain ⟨a0, a1, a2, a3⟩ := T.ac.cells; obtain ⟨x0, x1, x2, x3⟩ := T.sc.cells; have y0 := T.sc.fz 0; have y1 := T.sc.fz 1; have y2 := T.sc.fz 2; have y3 := T.sc.fz 3)) | (go_at_call 19; go_loud ((with_reducible refine (rfind_any _ _ _ _ _ _ _ hts k2 k1).mono ?_); rintro e w6 ⟨rfl, hX⟩; have T := T.ref hX; clear hX; obtain ⟨a0, a1, a2, a3⟩ := T.ac.cells; obtain ⟨x0, x1, x2, x3⟩ := T.sc.cells; have y0 := T.sc.fz 0; have y1 := T.sc.fz 1; have y2 := T.sc.fz 2; have y3 := T.sc.fz 3)) | (go_at_call 20; (with_reducible refine (agrees_t T.win).mono ?_); rintro e w7 ⟨rfl, hX⟩; have T := T.ref hX; clear hX))
        go_roundw
        case rel => exact ⟨k + 1, tk, x, t, cl, _, _, _, hlt, rfl, rfl, rfl, Lib.hid (T.hd (by omega))⟩
        case measure => simp [intOf]; omega
    · obtain rfl : k = n := by omega
      go_wp2_with (go_at_call 7; (with_reducible refine (awake_any _).mono ?_); rintro e w9 ⟨rfl, hb9⟩; replace bel := bel.trans (hb9.mono hbw); clear hb9)
      go_ret
      exact ⟨rfl, bel⟩
end Go.Proofs.Ytmmgfbnfjcbcfaa.Win
