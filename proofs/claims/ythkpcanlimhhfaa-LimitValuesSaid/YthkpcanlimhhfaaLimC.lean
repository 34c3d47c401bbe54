/-
  Contracts of package limit and its reference: the operations.
-/
import Derived.Test.YthkpcanlimhhfaaLimB
namespace Go.Proofs.Ythkpcanlimhhfaa.Lim
open Go.RowKit
set_option linter.unusedVariables false
set_option linter.unusedSimpArgs false

def okB (ld ln lb la le ud un ub ua ue n : Int) : Bool := valB ld ln lb la le && winB ld ln lb la le ud un ub ua ue && decide (0 ≤ n)
theorem okB_t {ld ln lb la le ud un ub ua ue n : Int} (h : okB ld ln lb la le ud un ub ua ue n = true) : valB ld ln lb la le = true ∧ winB ld ln lb la le ud un ub ua ue = true ∧ 0 ≤ n := by
  unfold okB at h; simpa [and_assoc] using h
theorem okB_f {ld ln lb la le ud un ub ua ue n : Int} (h : ¬ okB ld ln lb la le ud un ub ua ue n = true) : valB ld ln lb la le = false ∨ (valB ld ln lb la le = true ∧ winB ld ln lb la le ud un ub ua ue = false) ∨ (valB ld ln lb la le = true ∧ winB ld ln lb la le ud un ub ua ue = true ∧ n < 0) := by
  unfold okB at h
  cases h1 : valB ld ln lb la le
  · exact .inl rfl
  · cases h2 : winB ld ln lb la le ud un ub ua ue
    · exact .inr (.inl ⟨rfl, rfl⟩)
    · rw [h1, h2] at h; simp at h; exact .inr (.inr ⟨rfl, rfl, h⟩)
theorem winB_bd {ld ln lb la le ud un ub ua ue : Int} (h1 : valB ld ln lb la le = true) (h : winB ld ln lb la le ud un ub ua ue = true) : (1 ≤ ld ∧ ld ≤ 48 ∧ 1 ≤ ln ∧ ln ≤ 65536 ∧ 1 ≤ lb ∧ lb ≤ 1048576 ∧ 0 ≤ la ∧ la ≤ 1024 ∧ 0 ≤ le ∧ le ≤ 65536) ∧ (0 ≤ ud ∧ ud ≤ ld) ∧ (0 ≤ un ∧ un ≤ ln) ∧ (0 ≤ ub ∧ ub ≤ lb) ∧ (0 ≤ ua ∧ ua ≤ la) ∧ (0 ≤ ue ∧ ue ≤ le) := by
  unfold valB at h1; unfold winB at h; simp only [decide_eq_true_eq] at h h1; exact ⟨h1, h⟩
theorem valid_t {ld ln lb la le : Int} {w : World} (hld : -9223372036854775808 ≤ ld ∧ ld ≤ 9223372036854775807) (hln : -9223372036854775808 ≤ ln ∧ ln ≤ 9223372036854775807) (hlb : -9223372036854775808 ≤ lb ∧ lb ≤ 9223372036854775807) (hla : -9223372036854775808 ≤ la ∧ la ≤ 9223372036854775807) (hle : -9223372036854775808 ≤ le ∧ le ≤ 9223372036854775807) (h : Hid (valB ld ln lb la le = true)) : Calls Try.prog 10 #[.agg #[.int .i64 ld, .int .i64 ln, .int .i64 lb, .int .i64 la, .int .i64 le]] w fun e w' => e = .returned (.bool true) ∧ Below w.heap.size w w' :=
  (valid_any ld ln lb la le hld hln hlb hla hle w).mono fun _ _ ⟨a, b⟩ => ⟨by rw [a, h.out], b⟩
theorem valid_f {ld ln lb la le : Int} {w : World} (hld : -9223372036854775808 ≤ ld ∧ ld ≤ 9223372036854775807) (hln : -9223372036854775808 ≤ ln ∧ ln ≤ 9223372036854775807) (hlb : -9223372036854775808 ≤ lb ∧ lb ≤ 9223372036854775807) (hla : -9223372036854775808 ≤ la ∧ la ≤ 9223372036854775807) (hle : -9223372036854775808 ≤ le ∧ le ≤ 9223372036854775807) (h : Hid (valB ld ln lb la le = false)) : Calls Try.prog 10 #[.agg #[.int .i64 ld, .int .i64 ln, .int .i64 lb, .int .i64 la, .int .i64 le]] w fun e w' => e = .returned (.bool false) ∧ Below w.heap.size w w' :=
  (valid_any ld ln lb la le hld hln hlb hla hle w).mono fun _ _ ⟨a, b⟩ => ⟨by rw [a, h.out], b⟩
theorem within_t {ld ln lb la le ud un ub ua ue : Int} {w : World} (hud : -9223372036854775808 ≤ ud ∧ ud ≤ 9223372036854775807) (hun : -9223372036854775808 ≤ un ∧ un ≤ 9223372036854775807) (hub : -9223372036854775808 ≤ ub ∧ ub ≤ 9223372036854775807) (hua : -9223372036854775808 ≤ ua ∧ ua ≤ 9223372036854775807) (hue : -9223372036854775808 ≤ ue ∧ ue ≤ 9223372036854775807) (h : Hid (winB ld ln lb la le ud un ub ua ue = true)) : Calls Try.prog 17 #[.agg #[.int .i64 ld, .int .i64 ln, .int .i64 lb, .int .i64 la, .int .i64 le], .agg #[.int .i64 ud, .int .i64 un, .int .i64 ub, .int .i64 ua, .int .i64 ue]] w fun e w' => e = .returned (.bool true) ∧ Below w.heap.size w w' :=
  (within_any ld ln lb la le ud un ub ua ue hud hun hub hua hue w).mono fun _ _ ⟨a, b⟩ => ⟨by rw [a, h.out], b⟩
theorem within_f {ld ln lb la le ud un ub ua ue : Int} {w : World} (hud : -9223372036854775808 ≤ ud ∧ ud ≤ 9223372036854775807) (hun : -9223372036854775808 ≤ un ∧ un ≤ 9223372036854775807) (hub : -9223372036854775808 ≤ ub ∧ ub ≤ 9223372036854775807) (hua : -9223372036854775808 ≤ ua ∧ ua ≤ 9223372036854775807) (hue : -9223372036854775808 ≤ ue ∧ ue ≤ 9223372036854775807) (h : Hid (winB ld ln lb la le ud un ub ua ue = false)) : Calls Try.prog 17 #[.agg #[.int .i64 ld, .int .i64 ln, .int .i64 lb, .int .i64 la, .int .i64 le], .agg #[.int .i64 ud, .int .i64 un, .int .i64 ub, .int .i64 ua, .int .i64 ue]] w fun e w' => e = .returned (.bool false) ∧ Below w.heap.size w w' :=
  (within_any ld ln lb la le ud un ub ua ue hud hun hub hua hue w).mono fun _ _ ⟨a, b⟩ => ⟨by rw [a, h.out], b⟩
theorem rvalid_t {ld ln lb la le : Int} {w : World} (h : Hid (valB ld ln lb la le = true)) : Calls Try.prog 13 #[.agg #[.int .i64 ld, .int .i64 ln, .int .i64 lb, .int .i64 la, .int .i64 le]] w fun e w' => e = .returned (.bool true) ∧ Below w.heap.size w w' :=
  (rvalid_any ld ln lb la le w).mono fun _ _ ⟨a, b⟩ => ⟨by rw [a, h.out], b⟩
theorem rvalid_f {ld ln lb la le : Int} {w : World} (h : Hid (valB ld ln lb la le = false)) : Calls Try.prog 13 #[.agg #[.int .i64 ld, .int .i64 ln, .int .i64 lb, .int .i64 la, .int .i64 le]] w fun e w' => e = .returned (.bool false) ∧ Below w.heap.size w w' :=
  (rvalid_any ld ln lb la le w).mono fun _ _ ⟨a, b⟩ => ⟨by rw [a, h.out], b⟩
set_option maxRecDepth 100000 in
set_option maxHeartbeats 2000000 in
theorem ready_f {ld ln lb la le ud un ub ua ue n : Int} {w : World} (hld : -9223372036854775808 ≤ ld ∧ ld ≤ 9223372036854775807) (hln : -9223372036854775808 ≤ ln ∧ ln ≤ 9223372036854775807) (hlb : -9223372036854775808 ≤ lb ∧ lb ≤ 9223372036854775807) (hla : -9223372036854775808 ≤ la ∧ la ≤ 9223372036854775807) (hle : -9223372036854775808 ≤ le ∧ le ≤ 9223372036854775807) (hud : -9223372036854775808 ≤ ud ∧ ud ≤ 9223372036854775807) (hun : -9223372036854775808 ≤ un ∧ un ≤ 9223372036854775807) (hub : -9223372036854775808 ≤ ub ∧ ub ≤ 9223372036854775807) (hua : -9223372036854775808 ≤ ua ∧ ua ≤ 9223372036854775807) (hue : -9223372036854775808 ≤ ue ∧ ue ≤ 9223372036854775807) (h : Hid (¬ okB ld ln lb la le ud un ub ua ue n = true)) : Calls Try.prog 16 #[.agg #[.int .i64 ld, .int .i64 ln, .int .i64 lb, .int .i64 la, .int .i64 le], .agg #[.int .i64 ud, .int .i64 un, .int .i64 ub, .int .i64 ua, .int .i64 ue], .int .i64 n] w fun e w' => e = .returned (.int .i64 1) ∧ Below w.heap.size w w' := by
  rcases okB_f h.out with q | ⟨q1, q2⟩ | ⟨q1, q2, q3⟩
  · have HV := Lib.hid q
    clear q
    go_enter Try.func16, Try.ntmps16
    have hbw := ((Below.refl w.heap.size w).alloc (Nat.le_refl _) (Obj.cells (#[.int .i64 ld, .int .i64 ln, .int .i64 lb, .int .i64 la, .int .i64 le] : Array Value) 34)).alloc (by simp) (Obj.cells (#[.int .i64 ud, .int .i64 un, .int .i64 ub, .int .i64 ua, .int .i64 ue] : Array Value) 42)
    go_wp2_with (first | (go_at_call 10; refine (valid_f hld hln hlb hla hle HV).mono ?_; rintro e w1 ⟨rfl, hb1⟩; replace hbw := bthen (a := w) hbw hb1; obtain ⟨hc1, hf1⟩ := bcell hb1))
    go_ret
    exact ⟨rfl, hbw⟩
  · have HV := Lib.hid q1
    have HW := Lib.hid q2
    clear q1 q2
    go_enter Try.func16, Try.ntmps16
    have hbw := ((Below.refl w.heap.size w).alloc (Nat.le_refl _) (Obj.cells (#[.int .i64 ld, .int .i64 ln, .int .i64 lb, .int .i64 la, .int .i64 le] : Array Value) 34)).alloc (by simp) (Obj.cells (#[.int .i64 ud, .int .i64 un, .int .i64 ub, .int .i64 ua, .int .i64 ue] : Array Value) 42)
    go_wp2_with (first | (go_at_call 10; refine (valid_t hld hln hlb hla hle HV).mono ?_; rintro e w1 ⟨rfl, hb1⟩; replace hbw := bthen (a := w) hbw hb1; obtain ⟨hc1, hf1⟩ := bcell hb1) | (go_at_call 17; refine (within_f hud hun hub hua hue HW).mono ?_; rintro e w2 ⟨rfl, hb2⟩; replace hbw := bthen (a := w) hbw hb2))
    go_ret
    exact ⟨rfl, hbw⟩
  · have HV := Lib.hid q1
    have HW := Lib.hid q2
    clear q1 q2
    go_enter Try.func16, Try.ntmps16
    have hbw := ((Below.refl w.heap.size w).alloc (Nat.le_refl _) (Obj.cells (#[.int .i64 ld, .int .i64 ln, .int .i64 lb, .int .i64 la, .int .i64 le] : Array Value) 34)).alloc (by simp) (Obj.cells (#[.int .i64 ud, .int .i64 un, .int .i64 ub, .int .i64 ua, .int .i64 ue] : Array Value) 42)
    go_wp2_with (first | (go_at_call 10; refine (valid_t hld hln hlb hla hle HV).mono ?_; rintro e w1 ⟨rfl, hb1⟩; replace hbw := bthen (a := w) hbw hb1; obtain ⟨hc1, hf1⟩ := bcell hb1) | (go_at_call 17; refine (within_t hud hun hub hua hue HW).mono ?_; rintro e w2 ⟨rfl, hb2⟩; replace hbw := bthen (a := w) hbw hb2))
    go_ret
    exact ⟨rfl, hbw⟩
set_option maxRecDepth 100000 in
set_option maxHeartbeats 2000000 in
theorem ready_t {ld ln lb la le ud un ub ua ue n : Int} {w : World} (hld : -9223372036854775808 ≤ ld ∧ ld ≤ 9223372036854775807) (hln : -9223372036854775808 ≤ ln ∧ ln ≤ 9223372036854775807) (hlb : -9223372036854775808 ≤ lb ∧ lb ≤ 9223372036854775807) (hla : -9223372036854775808 ≤ la ∧ la ≤ 9223372036854775807) (hle : -9223372036854775808 ≤ le ∧ le ≤ 9223372036854775807) (hud : -9223372036854775808 ≤ ud ∧ ud ≤ 9223372036854775807) (hun : -9223372036854775808 ≤ un ∧ un ≤ 9223372036854775807) (hub : -9223372036854775808 ≤ ub ∧ ub ≤ 9223372036854775807) (hua : -9223372036854775808 ≤ ua ∧ ua ≤ 9223372036854775807) (hue : -9223372036854775808 ≤ ue ∧ ue ≤ 9223372036854775807) (h : Hid (okB ld ln lb la le ud un ub ua ue n = true)) : Calls Try.prog 16 #[.agg #[.int .i64 ld, .int .i64 ln, .int .i64 lb, .int .i64 la, .int .i64 le], .agg #[.int .i64 ud, .int .i64 un, .int .i64 ub, .int .i64 ua, .int .i64 ue], .int .i64 n] w fun e w' => e = .returned (.int .i64 0) ∧ Below w.heap.size w w' := by
  obtain ⟨q1, q2, q3⟩ := okB_t h.out
  have HV := Lib.hid q1
  have HW := Lib.hid q2
  clear q1 q2
  go_enter Try.func16, Try.ntmps16
  have hbw := ((Below.refl w.heap.size w).alloc (Nat.le_refl _) (Obj.cells (#[.int .i64 ld, .int .i64 ln, .int .i64 lb, .int .i64 la, .int .i64 le] : Array Value) 34)).alloc (by simp) (Obj.cells (#[.int .i64 ud, .int .i64 un, .int .i64 ub, .int .i64 ua, .int .i64 ue] : Array Value) 42)
  go_wp2_with (first | (go_at_call 10; refine (valid_t hld hln hlb hla hle HV).mono ?_; rintro e w1 ⟨rfl, hb1⟩; replace hbw := bthen (a := w) hbw hb1; obtain ⟨hc1, hf1⟩ := bcell hb1) | (go_at_call 17; refine (within_t hud hun hub hua hue HW).mono ?_; rintro e w2 ⟨rfl, hb2⟩; replace hbw := bthen (a := w) hbw hb2))
  go_ret
  exact ⟨rfl, hbw⟩

end Go.Proofs.Ythkpcanlimhhfaa.Lim
