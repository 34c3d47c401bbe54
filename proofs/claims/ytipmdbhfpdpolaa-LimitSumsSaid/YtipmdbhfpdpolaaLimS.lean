/-
  The law's walk: LimitSums.
-/
import Derived.Test.YtipmdbhfpdpolaaLimG
import Derived.Test.YtipmdbhfpdpolaaRow
namespace Go.Proofs.Ytipmdbhfpdpolaa.Lim
open Go.RowKit
set_option linter.unusedVariables false
set_option linter.unusedSimpArgs false

theorem nodeE_val {ld ln lb la le ud un ub ua ue n : Int} (h : okB ld ln lb la le ud un ub ua ue n = true) : nodeE ld ln lb la le ud un ub ua ue n = if ln - un < n then 10 else 0 := by unfold nodeE; rw [if_pos h]
theorem byteE_val {ld ln lb la le ud un ub ua ue n : Int} (h : okB ld ln lb la le ud un ub ua ue n = true) : byteE ld ln lb la le ud un ub ua ue n = if lb - ub < n then 10 else 0 := by unfold byteE; rw [if_pos h]
set_option maxRecDepth 100000 in
set_option maxHeartbeats 4000000 in
theorem sums_walk (ld ln lb la le : Int) (a : Option Addr) (len cap : Nat) (zs : List Int) (w : World) (hld : -9223372036854775808 ≤ ld ∧ ld ≤ 9223372036854775807) (hln : -9223372036854775808 ≤ ln ∧ ln ≤ 9223372036854775807) (hlb : -9223372036854775808 ≤ lb ∧ lb ≤ 9223372036854775807) (hla : -9223372036854775808 ≤ la ∧ la ≤ 9223372036854775807) (hle : -9223372036854775808 ≤ le ∧ le ≤ 9223372036854775807) (hz : IsRow .u16 w a len cap zs) : Calls Try.prog 10 #[.agg #[.int .i64 ld, .int .i64 ln, .int .i64 lb, .int .i64 la, .int .i64 le], .slice a len cap] w fun e w' => e = .returned (.bool true) ∧ Below w.heap.size w w' := by
  have hbw := Below.refl w.heap.size w
  have hlm := hz.len_le
  unfold maxLen at hlm
  by_cases k1 : valB ld ln lb la le = true
  case neg =>
    have HV := Lib.hid (show valB ld ln lb la le = false by simpa using k1)
    clear k1
    go_enter Try.func10, Try.ntmps10
    go_wp2_with (first | (go_at_call 13; (with_reducible refine (valid_f hld hln hlb hla hle HV).mono ?_); rintro e w1 ⟨rfl, hb1⟩; replace hbw := bthen (hbw.alloc hbw.size _) hb1; clear hb1) | (go_at_call 17; (with_reducible refine (awake_any _).mono ?_); rintro e w1 ⟨rfl, hb1⟩; replace hbw := bthen hbw hb1; clear hb1))
    go_ret
    exact ⟨rfl, hbw⟩
  have kv := k1
  unfold valB at kv
  simp only [decide_eq_true_eq] at kv
  have K1 := Lib.hid k1
  have HZ := Lib.hid hz
  clear k1 hz
  go_enter Try.func10, Try.ntmps10
  go_wp2_with (first | (go_at_call 13; (with_reducible refine (valid_t hld hln hlb hla hle K1).mono ?_); rintro e w1 ⟨rfl, hb1⟩; obtain ⟨hc1, hf1⟩ := bcell hb1; have hz1 : w.heap.size < w1.heap.size := (by have := hb1.size; simp at this; omega); replace hbw := bthen (hbw.alloc hbw.size _) hb1; clear hb1))
  go_loopw [7, 8] (fun s i wr => ∃ (k : Nat) (U V : Int), k ≤ len ∧ k ≤ 60 ∧ 0 ≤ U ∧ U ≤ ln ∧ 0 ≤ V ∧ V ≤ lb ∧ i = .int .i64 k ∧ s = .int .i64 V ∧ Below w.heap.size w wr ∧ Below w1.heap.size w1 wr ∧ w1.heap.size + 2 ≤ wr.heap.size ∧ wr.cell? ⟨w1.heap.size, 0, none⟩ = some (.int .i64 0) ∧ wr.cell? ⟨w1.heap.size, 1, none⟩ = some (.int .i64 U) ∧ wr.cell? ⟨w1.heap.size, 2, none⟩ = some (.int .i64 0) ∧ wr.cell? ⟨w1.heap.size, 3, none⟩ = some (.int .i64 0) ∧ wr.cell? ⟨w1.heap.size, 4, none⟩ = some (.int .i64 0) ∧ wr.cell? ⟨w1.heap.size + 1, 0, none⟩ = some (.int .i64 0) ∧ wr.cell? ⟨w1.heap.size + 1, 1, none⟩ = some (.int .i64 0) ∧ wr.cell? ⟨w1.heap.size + 1, 2, none⟩ = some (.int .i64 V) ∧ wr.cell? ⟨w1.heap.size + 1, 3, none⟩ = some (.int .i64 0) ∧ wr.cell? ⟨w1.heap.size + 1, 4, none⟩ = some (.int .i64 0) ∧ wr.frozen? ⟨w1.heap.size, 0, none⟩ = false ∧ wr.frozen? ⟨w1.heap.size, 1, none⟩ = false ∧ wr.frozen? ⟨w1.heap.size, 2, none⟩ = false ∧ wr.frozen? ⟨w1.heap.size, 3, none⟩ = false ∧ wr.frozen? ⟨w1.heap.size, 4, none⟩ = false ∧ wr.frozen? ⟨w1.heap.size + 1, 0, none⟩ = false ∧ wr.frozen? ⟨w1.heap.size + 1, 1, none⟩ = false ∧ wr.frozen? ⟨w1.heap.size + 1, 2, none⟩ = false ∧ wr.frozen? ⟨w1.heap.size + 1, 3, none⟩ = false ∧ wr.frozen? ⟨w1.heap.size + 1, 4, none⟩ = false) (fun _ i _ => 60 - (intOf i).toNat)
  case atStart =>
    refine ⟨0, 0, 0, by omega, by omega, by omega, by omega, by omega, by omega, rfl, rfl, (hbw.alloc hbw.size _).alloc (by have := hbw.size; simp; omega) _, ((Below.refl _ _).alloc (Nat.le_refl _) _).alloc (by simp) _, by simp, ?_, ?_, ?_, ?_, ?_, ?_, ?_, ?_, ?_, ?_, ?_, ?_, ?_, ?_, ?_, ?_, ?_, ?_, ?_, ?_⟩
    all_goals go_simp
  case round =>
    obtain ⟨k, U, V, q1, q2, q3, q4, q5, q6, rfl, rfl, hbr, hb1r, hzr, cu0, cu1, cu2, cu3, cu4, cv0, cv1, cv2, cv3, cv4, fu0, fu1, fu2, fu3, fu4, fv0, fv1, fv2, fv3, fv4⟩ := hrel
    have hcr := (bcell hb1r).1
    have hwr : w1.heap.size < wr.heap.size := by omega
    have hwr1 : w1.heap.size + 1 < wr.heap.size := by omega
    have hwr' : w.heap.size < wr.heap.size := by omega
    by_cases hlt : k < len ∧ k < 60
    · obtain ⟨hl1, hl2⟩ := hlt
      obtain ⟨b, off, v, rfl, hbl, hcell, hwf⟩ := HZ.out.at_ hl1
      have hv := bounds_u16 hwf
      have hcw : wr.cell? ⟨b, off + k, none⟩ = some (.int .u16 v) := by rw [hbr.cell (p := ⟨b, off + k, none⟩) hbl, hcell]
      clear hcell hwf
      have w0 : winB ld ln lb la le 0 U 0 0 0 = true := winB_of (by omega)
      have w1' : winB ld ln lb la le 0 0 V 0 0 = true := winB_of (by omega)
      have okU : okB ld ln lb la le 0 U 0 0 0 (v % 2001) = true := by unfold okB; rw [K1.out, w0]; simp; omega
      have okV : okB ld ln lb la le 0 0 V 0 0 (v % 2001) = true := by unfold okB; rw [K1.out, w1']; simp; omega
      clear w0 w1'
      by_cases cU : ln - U < v % 2001
      · have HF := Lib.hid (show nodeE ld ln lb la le 0 U 0 0 0 (v % 2001) = 10 by rw [nodeE_val okU, if_pos cU])
        have dU : decide (U + v % 2001 ≤ ln) = false := decide_eq_false (by omega)
        have dU' : ln < U + v % 2001 := by omega
        by_cases cV : lb - V < v % 2001
        · have HG := Lib.hid (show byteE ld ln lb la le 0 0 V 0 0 (v % 2001) = 10 by rw [byteE_val okV, if_pos cV])
          have dV : decide (V + v % 2001 ≤ lb) = false := decide_eq_false (by omega)
          have dV' : lb < V + v % 2001 := by omega
          clear okU okV
          go_wp2_with (first | (go_at_call 22; (with_reducible refine (node_err hld hln hlb hla hle (by omega) (by omega) (by omega) (by omega) (by omega) (by omega) HF (by decide)).mono ?_); rintro e w2 ⟨rfl, hb2⟩; obtain ⟨hc2, hf2⟩ := bcell hb2; have hz2 : wr.heap.size ≤ w2.heap.size := hb2.size; have hz2a : w1.heap.size < w2.heap.size := (by omega); have hz2b : w1.heap.size + 1 < w2.heap.size := (by omega); have hz2c : w.heap.size < w2.heap.size := (by omega); replace hbr := bthen hbr hb2; replace hb1r := bthen hb1r hb2; clear hb2) | (go_at_call 24; (with_reducible refine (byte_err hld hln hlb hla hle (by omega) (by omega) (by omega) (by omega) (by omega) (by omega) HG (by decide)).mono ?_); rintro e w3 ⟨rfl, hb3⟩; obtain ⟨hc3, hf3⟩ := bcell hb3; have hz3 : w2.heap.size < w3.heap.size := (by have := hb3.size; simp at this; omega); have hz3a : w1.heap.size < w3.heap.size := (by omega); have hz3b : w1.heap.size + 1 < w3.heap.size := (by omega); have hz3c : w.heap.size < w3.heap.size := (by omega); replace hbr := bthen (hbr.alloc hbr.size _) hb3; replace hb1r := bthen (hb1r.alloc hb1r.size _) hb3; clear hb3))
          go_roundw
          case rel =>
            refine ⟨k + 1, U, V, by omega, by omega, by omega, by omega, by omega, by omega, by go_num, rfl, ?B1, ?B2, ?B3, ?_, ?_, ?_, ?_, ?_, ?_, ?_, ?_, ?_, ?_, ?_, ?_, ?_, ?_, ?_, ?_, ?_, ?_, ?_, ?_⟩
            case B1 => (repeat (first | with_reducible exact hbr | ((with_reducible refine Below.setCell ?_ ?_ _); rotate_left; (simp; try omega)) | ((with_reducible refine Below.alloc ?_ ?_ _); rotate_left; (have := hbr.size; simp at this ⊢; try omega))))
            case B2 => (repeat (first | with_reducible exact hb1r | ((with_reducible refine Below.setCell ?_ ?_ _); rotate_left; (simp; try omega)) | ((with_reducible refine Below.alloc ?_ ?_ _); rotate_left; (have := hb1r.size; simp at this ⊢; try omega))))
            case B3 => simp; omega
            all_goals have hz2d : w1.heap.size < w2.heap.size + 1 := by omega
            all_goals go_simp
          case measure => simp [intOf]; omega
        · have HG := Lib.hid (show byteE ld ln lb la le 0 0 V 0 0 (v % 2001) = 0 by rw [byteE_val okV, if_neg cV])
          have dV : decide (V + v % 2001 ≤ lb) = true := decide_eq_true (by omega)
          have dV' : V + v % 2001 ≤ lb := by omega
          clear okU okV
          go_wp2_with (first | (go_at_call 22; (with_reducible refine (node_err hld hln hlb hla hle (by omega) (by omega) (by omega) (by omega) (by omega) (by omega) HF (by decide)).mono ?_); rintro e w2 ⟨rfl, hb2⟩; obtain ⟨hc2, hf2⟩ := bcell hb2; have hz2 : wr.heap.size ≤ w2.heap.size := hb2.size; have hz2a : w1.heap.size < w2.heap.size := (by omega); have hz2b : w1.heap.size + 1 < w2.heap.size := (by omega); have hz2c : w.heap.size < w2.heap.size := (by omega); replace hbr := bthen hbr hb2; replace hb1r := bthen hb1r hb2; clear hb2) | (go_at_call 24; (with_reducible refine (byte_ok hld hln hlb hla hle (by omega) (by omega) (by omega) (by omega) (by omega) (by omega) HG ).mono ?_); rintro e w3 ⟨rfl, hb3⟩; obtain ⟨hc3, hf3⟩ := bcell hb3; have hz3 : w2.heap.size < w3.heap.size := (by have := hb3.size; simp at this; omega); have hz3a : w1.heap.size < w3.heap.size := (by omega); have hz3b : w1.heap.size + 1 < w3.heap.size := (by omega); have hz3c : w.heap.size < w3.heap.size := (by omega); replace hbr := bthen (hbr.alloc hbr.size _) hb3; replace hb1r := bthen (hb1r.alloc hb1r.size _) hb3; clear hb3))
          go_roundw
          case rel =>
            refine ⟨k + 1, U, V + v % 2001, by omega, by omega, by omega, by omega, by omega, by omega, by go_num, rfl, ?B1, ?B2, ?B3, ?_, ?_, ?_, ?_, ?_, ?_, ?_, ?_, ?_, ?_, ?_, ?_, ?_, ?_, ?_, ?_, ?_, ?_, ?_, ?_⟩
            case B1 => (repeat (first | with_reducible exact hbr | ((with_reducible refine Below.setCell ?_ ?_ _); rotate_left; (simp; try omega)) | ((with_reducible refine Below.alloc ?_ ?_ _); rotate_left; (have := hbr.size; simp at this ⊢; try omega))))
            case B2 => (repeat (first | with_reducible exact hb1r | ((with_reducible refine Below.setCell ?_ ?_ _); rotate_left; (simp; try omega)) | ((with_reducible refine Below.alloc ?_ ?_ _); rotate_left; (have := hb1r.size; simp at this ⊢; try omega))))
            case B3 => simp; omega
            all_goals have hz2d : w1.heap.size < w2.heap.size + 1 := by omega
            all_goals go_simp
          case measure => simp [intOf]; omega
      · have HF := Lib.hid (show nodeE ld ln lb la le 0 U 0 0 0 (v % 2001) = 0 by rw [nodeE_val okU, if_neg cU])
        have dU : decide (U + v % 2001 ≤ ln) = true := decide_eq_true (by omega)
        have dU' : U + v % 2001 ≤ ln := by omega
        by_cases cV : lb - V < v % 2001
        · have HG := Lib.hid (show byteE ld ln lb la le 0 0 V 0 0 (v % 2001) = 10 by rw [byteE_val okV, if_pos cV])
          have dV : decide (V + v % 2001 ≤ lb) = false := decide_eq_false (by omega)
          have dV' : lb < V + v % 2001 := by omega
          clear okU okV
          go_wp2_with (first | (go_at_call 22; (with_reducible refine (node_ok hld hln hlb hla hle (by omega) (by omega) (by omega) (by omega) (by omega) (by omega) HF ).mono ?_); rintro e w2 ⟨rfl, hb2⟩; obtain ⟨hc2, hf2⟩ := bcell hb2; have hz2 : wr.heap.size ≤ w2.heap.size := hb2.size; have hz2a : w1.heap.size < w2.heap.size := (by omega); have hz2b : w1.heap.size + 1 < w2.heap.size := (by omega); have hz2c : w.heap.size < w2.heap.size := (by omega); replace hbr := bthen hbr hb2; replace hb1r := bthen hb1r hb2; clear hb2) | (go_at_call 24; (with_reducible refine (byte_err hld hln hlb hla hle (by omega) (by omega) (by omega) (by omega) (by omega) (by omega) HG (by decide)).mono ?_); rintro e w3 ⟨rfl, hb3⟩; obtain ⟨hc3, hf3⟩ := bcell hb3; have hz3 : w2.heap.size < w3.heap.size := (by have := hb3.size; simp at this; omega); have hz3a : w1.heap.size < w3.heap.size := (by omega); have hz3b : w1.heap.size + 1 < w3.heap.size := (by omega); have hz3c : w.heap.size < w3.heap.size := (by omega); replace hbr := bthen (hbr.alloc hbr.size _) hb3; replace hb1r := bthen (hb1r.alloc hb1r.size _) hb3; clear hb3))
          go_roundw
          case rel =>
            refine ⟨k + 1, U + v % 2001, V, by omega, by omega, by omega, by omega, by omega, by omega, by go_num, rfl, ?B1, ?B2, ?B3, ?_, ?_, ?_, ?_, ?_, ?_, ?_, ?_, ?_, ?_, ?_, ?_, ?_, ?_, ?_, ?_, ?_, ?_, ?_, ?_⟩
            case B1 => (repeat (first | with_reducible exact hbr | ((with_reducible refine Below.setCell ?_ ?_ _); rotate_left; (simp; try omega)) | ((with_reducible refine Below.alloc ?_ ?_ _); rotate_left; (have := hbr.size; simp at this ⊢; try omega))))
            case B2 => (repeat (first | with_reducible exact hb1r | ((with_reducible refine Below.setCell ?_ ?_ _); rotate_left; (simp; try omega)) | ((with_reducible refine Below.alloc ?_ ?_ _); rotate_left; (have := hb1r.size; simp at this ⊢; try omega))))
            case B3 => simp; omega
            all_goals have hz2d : w1.heap.size < w2.heap.size + 1 := by omega
            all_goals go_simp
          case measure => simp [intOf]; omega
        · have HG := Lib.hid (show byteE ld ln lb la le 0 0 V 0 0 (v % 2001) = 0 by rw [byteE_val okV, if_neg cV])
          have dV : decide (V + v % 2001 ≤ lb) = true := decide_eq_true (by omega)
          have dV' : V + v % 2001 ≤ lb := by omega
          clear okU okV
          go_wp2_with (first | (go_at_call 22; (with_reducible refine (node_ok hld hln hlb hla hle (by omega) (by omega) (by omega) (by omega) (by omega) (by omega) HF ).mono ?_); rintro e w2 ⟨rfl, hb2⟩; obtain ⟨hc2, hf2⟩ := bcell hb2; have hz2 : wr.heap.size ≤ w2.heap.size := hb2.size; have hz2a : w1.heap.size < w2.heap.size := (by omega); have hz2b : w1.heap.size + 1 < w2.heap.size := (by omega); have hz2c : w.heap.size < w2.heap.size := (by omega); replace hbr := bthen hbr hb2; replace hb1r := bthen hb1r hb2; clear hb2) | (go_at_call 24; (with_reducible refine (byte_ok hld hln hlb hla hle (by omega) (by omega) (by omega) (by omega) (by omega) (by omega) HG ).mono ?_); rintro e w3 ⟨rfl, hb3⟩; obtain ⟨hc3, hf3⟩ := bcell hb3; have hz3 : w2.heap.size < w3.heap.size := (by have := hb3.size; simp at this; omega); have hz3a : w1.heap.size < w3.heap.size := (by omega); have hz3b : w1.heap.size + 1 < w3.heap.size := (by omega); have hz3c : w.heap.size < w3.heap.size := (by omega); replace hbr := bthen (hbr.alloc hbr.size _) hb3; replace hb1r := bthen (hb1r.alloc hb1r.size _) hb3; clear hb3))
          go_roundw
          case rel =>
            refine ⟨k + 1, U + v % 2001, V + v % 2001, by omega, by omega, by omega, by omega, by omega, by omega, by go_num, rfl, ?B1, ?B2, ?B3, ?_, ?_, ?_, ?_, ?_, ?_, ?_, ?_, ?_, ?_, ?_, ?_, ?_, ?_, ?_, ?_, ?_, ?_, ?_, ?_⟩
            case B1 => (repeat (first | with_reducible exact hbr | ((with_reducible refine Below.setCell ?_ ?_ _); rotate_left; (simp; try omega)) | ((with_reducible refine Below.alloc ?_ ?_ _); rotate_left; (have := hbr.size; simp at this ⊢; try omega))))
            case B2 => (repeat (first | with_reducible exact hb1r | ((with_reducible refine Below.setCell ?_ ?_ _); rotate_left; (simp; try omega)) | ((with_reducible refine Below.alloc ?_ ?_ _); rotate_left; (have := hb1r.size; simp at this ⊢; try omega))))
            case B3 => simp; omega
            all_goals have hz2d : w1.heap.size < w2.heap.size + 1 := by omega
            all_goals go_simp
          case measure => simp [intOf]; omega
    · have w0 := Lib.hid hlt
      have hd : (k < len ∧ k = 60) ∨ ¬ k < len := by omega
      clear hlt
      rcases hd with ⟨hd1, hd2⟩ | hd1
      · have hd2' : ¬ (k : Int) < 60 := by omega
        clear hd2
        go_wp2_with (first | (go_at_call 17; (with_reducible refine (awake_any _).mono ?_); rintro e w2 ⟨rfl, hb2⟩; replace hbr := bthen hbr hb2; clear hb2))
        go_ret
        exact ⟨rfl, hbr⟩
      · go_wp2_with (first | (go_at_call 17; (with_reducible refine (awake_any _).mono ?_); rintro e w2 ⟨rfl, hb2⟩; replace hbr := bthen hbr hb2; clear hb2))
        go_ret
        exact ⟨rfl, hbr⟩

end Go.Proofs.Ytipmdbhfpdpolaa.Lim
