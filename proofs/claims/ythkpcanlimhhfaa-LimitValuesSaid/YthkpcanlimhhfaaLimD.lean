/-
  Contracts of package limit and its reference: the operations.
-/
import Derived.Test.YthkpcanlimhhfaaLimC
namespace Go.Proofs.Ythkpcanlimhhfaa.Lim
open Go.RowKit
set_option linter.unusedVariables false
set_option linter.unusedSimpArgs false

/-- A field of a result: nothing, with an error. -/
def z (e x : Int) : Int := if e = 0 then x else 0
def rtB (ld ln lb la le ud un ub ua ue : Int) : Bool := valB ld ln lb la le && winB ld ln lb la le ud un ub ua ue
theorem rtB_t {ld ln lb la le ud un ub ua ue : Int} (h : rtB ld ln lb la le ud un ub ua ue = true) : valB ld ln lb la le = true ∧ winB ld ln lb la le ud un ub ua ue = true := by unfold rtB at h; simpa using h
theorem rtB_f {ld ln lb la le ud un ub ua ue : Int} (h : ¬ rtB ld ln lb la le ud un ub ua ue = true) : valB ld ln lb la le = false ∨ (valB ld ln lb la le = true ∧ winB ld ln lb la le ud un ub ua ue = false) := by
  unfold rtB at h
  cases h1 : valB ld ln lb la le
  · exact .inl rfl
  · cases h2 : winB ld ln lb la le ud un ub ua ue
    · exact .inr ⟨rfl, rfl⟩
    · rw [h1, h2] at h; simp at h
theorem okB_of {ld ln lb la le ud un ub ua ue n : Int} (h : rtB ld ln lb la le ud un ub ua ue = true) (hn : 0 ≤ n) : okB ld ln lb la le ud un ub ua ue n = true := by
  obtain ⟨a, b⟩ := rtB_t h; unfold okB; rw [a, b]; simp [hn]
theorem okB_not {ld ln lb la le ud un ub ua ue n : Int} (h : ¬ rtB ld ln lb la le ud un ub ua ue = true ∨ n < 0) : ¬ okB ld ln lb la le ud un ub ua ue n = true := by
  intro q
  obtain ⟨a, b, c⟩ := okB_t q
  rcases h with h | h
  · unfold rtB at h; rw [a, b] at h; simp at h
  · omega
def openE (ld ln lb la le ud un ub ua ue : Int) : Int := if okB ld ln lb la le ud un ub ua ue 0 = true then (if ud = ld then 9 else 0) else 1
def nodeE (ld ln lb la le ud un ub ua ue n : Int) : Int := if okB ld ln lb la le ud un ub ua ue n = true then (if ln - un < n then 10 else 0) else 1
def byteE (ld ln lb la le ud un ub ua ue n : Int) : Int := if okB ld ln lb la le ud un ub ua ue n = true then (if lb - ub < n then 10 else 0) else 1
def aliasE (ld ln lb la le ud un ub ua ue n : Int) : Int := if okB ld ln lb la le ud un ub ua ue n = true then (if ua = la then 11 else if le - ue < n then 12 else 0) else 1
def closeE (ud : Int) : Int := if ud < 1 then 29 else 0
set_option maxRecDepth 100000 in
set_option maxHeartbeats 4000000 in
theorem alias_any (ld ln lb la le ud un ub ua ue n : Int) (hld : -9223372036854775808 ≤ ld ∧ ld ≤ 9223372036854775807) (hln : -9223372036854775808 ≤ ln ∧ ln ≤ 9223372036854775807) (hlb : -9223372036854775808 ≤ lb ∧ lb ≤ 9223372036854775807) (hla : -9223372036854775808 ≤ la ∧ la ≤ 9223372036854775807) (hle : -9223372036854775808 ≤ le ∧ le ≤ 9223372036854775807) (hud : -9223372036854775808 ≤ ud ∧ ud ≤ 9223372036854775807) (hun : -9223372036854775808 ≤ un ∧ un ≤ 9223372036854775807) (hub : -9223372036854775808 ≤ ub ∧ ub ≤ 9223372036854775807) (hua : -9223372036854775808 ≤ ua ∧ ua ≤ 9223372036854775807) (hue : -9223372036854775808 ≤ ue ∧ ue ≤ 9223372036854775807) (hn : -9223372036854775808 ≤ n ∧ n ≤ 9223372036854775807) (w : World) : Calls Try.prog 9 #[.agg #[.int .i64 ld, .int .i64 ln, .int .i64 lb, .int .i64 la, .int .i64 le], .agg #[.int .i64 ud, .int .i64 un, .int .i64 ub, .int .i64 ua, .int .i64 ue], .int .i64 n] w fun e w' => e = .returned (.tuple #[.agg #[.int .i64 (z (aliasE ld ln lb la le ud un ub ua ue n) ud), .int .i64 (z (aliasE ld ln lb la le ud un ub ua ue n) un), .int .i64 (z (aliasE ld ln lb la le ud un ub ua ue n) ub), .int .i64 (z (aliasE ld ln lb la le ud un ub ua ue n) (ua + 1)), .int .i64 (z (aliasE ld ln lb la le ud un ub ua ue n) (ue + n))], .int .i64 (aliasE ld ln lb la le ud un ub ua ue n)]) ∧ Below w.heap.size w w' := by
  by_cases k : okB ld ln lb la le ud un ub ua ue n = true
  · obtain ⟨k1, k2, k3⟩ := okB_t k
    have HK := Lib.hid k
    have HR := Lib.hid (show rtB ld ln lb la le ud un ub ua ue = true by unfold rtB; rw [k1, k2]; rfl)
    obtain ⟨⟨m1, m2, m3, m4, m5, m6, m7, m8, m9, m10⟩, ⟨p1, p2⟩, ⟨p3, p4⟩, ⟨p5, p6⟩, ⟨p7, p8⟩, p9, p10⟩ := winB_bd k1 k2
    clear k1 k2
    by_cases q0 : ua = la
    · have HE := Lib.hid (show aliasE ld ln lb la le ud un ub ua ue n = 11 by unfold aliasE; rw [if_pos k, if_pos q0])
      have hq : (ua == la) = true := by simp [q0]
      clear q0
      clear k
      go_enter Try.func9, Try.ntmps9
      have hbw := ((((Below.refl w.heap.size w).alloc (Nat.le_refl _) (Obj.cells (#[.int .i64 ld, .int .i64 ln, .int .i64 lb, .int .i64 la, .int .i64 le] : Array Value) 34)).alloc (by simp <;> omega) (Obj.cells (#[.int .i64 ud, .int .i64 un, .int .i64 ub, .int .i64 ua, .int .i64 ue] : Array Value) 42)).alloc (by simp <;> omega) (Obj.cells (#[.int .i64 0, .int .i64 0, .int .i64 0, .int .i64 0, .int .i64 0] : Array Value) 42))
      go_wp2_with (first | (go_at_call 16; refine (ready_t hld hln hlb hla hle hud hun hub hua hue (n := n) HK).mono ?_; rintro e w1 ⟨rfl, hb1⟩; replace hbw := bthen (a := w) hbw hb1; obtain ⟨hc1, hf1⟩ := bcell hb1))
      exact bodyPost_ret (v := .tuple #[.agg #[.int .i64 0, .int .i64 0, .int .i64 0, .int .i64 0, .int .i64 0], .int .i64 11]) (by simp [results, Try.results9, go_sem, hc1]) rfl ⟨by rw [HE.out]; rfl, (by repeat (first | with_reducible exact hbw | with_reducible exact Below.refl _ _ | ((with_reducible refine Below.setCell ?_ ?_ _); rotate_left; (simp; try omega)) | ((with_reducible refine Below.alloc ?_ ?_ _); rotate_left; (have := hbw.size; simp at this ⊢; try omega)) | with_reducible refine Below.drew ?_))⟩
    have hq0 : (ua == la) = false := by simp [q0]
    by_cases q1 : le - ue < n
    · have HE := Lib.hid (show aliasE ld ln lb la le ud un ub ua ue n = 12 by unfold aliasE; rw [if_pos k, if_neg q0, if_pos q1])
      clear k
      go_enter Try.func9, Try.ntmps9
      have hbw := ((((Below.refl w.heap.size w).alloc (Nat.le_refl _) (Obj.cells (#[.int .i64 ld, .int .i64 ln, .int .i64 lb, .int .i64 la, .int .i64 le] : Array Value) 34)).alloc (by simp <;> omega) (Obj.cells (#[.int .i64 ud, .int .i64 un, .int .i64 ub, .int .i64 ua, .int .i64 ue] : Array Value) 42)).alloc (by simp <;> omega) (Obj.cells (#[.int .i64 0, .int .i64 0, .int .i64 0, .int .i64 0, .int .i64 0] : Array Value) 42))
      go_wp2_with (first | (go_at_call 16; refine (ready_t hld hln hlb hla hle hud hun hub hua hue (n := n) HK).mono ?_; rintro e w1 ⟨rfl, hb1⟩; replace hbw := bthen (a := w) hbw hb1; obtain ⟨hc1, hf1⟩ := bcell hb1))
      exact bodyPost_ret (v := .tuple #[.agg #[.int .i64 0, .int .i64 0, .int .i64 0, .int .i64 0, .int .i64 0], .int .i64 12]) (by simp [results, Try.results9, go_sem, hc1]) rfl ⟨by rw [HE.out]; rfl, (by repeat (first | with_reducible exact hbw | with_reducible exact Below.refl _ _ | ((with_reducible refine Below.setCell ?_ ?_ _); rotate_left; (simp; try omega)) | ((with_reducible refine Below.alloc ?_ ?_ _); rotate_left; (have := hbw.size; simp at this ⊢; try omega)) | with_reducible refine Below.drew ?_))⟩
    have HE := Lib.hid (show aliasE ld ln lb la le ud un ub ua ue n = 0 by unfold aliasE; rw [if_pos k, if_neg q0, if_neg q1])
    clear q0
    clear k
    go_enter Try.func9, Try.ntmps9
    have hbw := ((((Below.refl w.heap.size w).alloc (Nat.le_refl _) (Obj.cells (#[.int .i64 ld, .int .i64 ln, .int .i64 lb, .int .i64 la, .int .i64 le] : Array Value) 34)).alloc (by simp <;> omega) (Obj.cells (#[.int .i64 ud, .int .i64 un, .int .i64 ub, .int .i64 ua, .int .i64 ue] : Array Value) 42)).alloc (by simp <;> omega) (Obj.cells (#[.int .i64 0, .int .i64 0, .int .i64 0, .int .i64 0, .int .i64 0] : Array Value) 42))
    go_wp2_with (first | (go_at_call 16; refine (ready_t hld hln hlb hla hle hud hun hub hua hue (n := n) HK).mono ?_; rintro e w1 ⟨rfl, hb1⟩; replace hbw := bthen (a := w) hbw hb1; obtain ⟨hc1, hf1⟩ := bcell hb1))
    exact bodyPost_ret (v := .tuple #[.agg #[.int .i64 ud, .int .i64 un, .int .i64 ub, .int .i64 (ua + 1), .int .i64 (ue + n)], .int .i64 0]) (by simp [results, Try.results9, go_sem, hc1]) rfl ⟨by rw [HE.out]; rfl, (by repeat (first | with_reducible exact hbw | with_reducible exact Below.refl _ _ | ((with_reducible refine Below.setCell ?_ ?_ _); rotate_left; (simp; try omega)) | ((with_reducible refine Below.alloc ?_ ?_ _); rotate_left; (have := hbw.size; simp at this ⊢; try omega)) | with_reducible refine Below.drew ?_))⟩
  · have HK := Lib.hid k
    have HE := Lib.hid (show aliasE ld ln lb la le ud un ub ua ue n = 1 by unfold aliasE; rw [if_neg k])
    clear k
    go_enter Try.func9, Try.ntmps9
    have hbw := ((((Below.refl w.heap.size w).alloc (Nat.le_refl _) (Obj.cells (#[.int .i64 ld, .int .i64 ln, .int .i64 lb, .int .i64 la, .int .i64 le] : Array Value) 34)).alloc (by simp <;> omega) (Obj.cells (#[.int .i64 ud, .int .i64 un, .int .i64 ub, .int .i64 ua, .int .i64 ue] : Array Value) 42)).alloc (by simp <;> omega) (Obj.cells (#[.int .i64 0, .int .i64 0, .int .i64 0, .int .i64 0, .int .i64 0] : Array Value) 42))
    go_wp2_with (first | (go_at_call 16; refine (ready_f hld hln hlb hla hle hud hun hub hua hue (n := n) HK).mono ?_; rintro e w1 ⟨rfl, hb1⟩; replace hbw := bthen (a := w) hbw hb1; obtain ⟨hc1, hf1⟩ := bcell hb1))
    exact bodyPost_ret (v := .tuple #[.agg #[.int .i64 0, .int .i64 0, .int .i64 0, .int .i64 0, .int .i64 0], .int .i64 1]) (by simp [results, Try.results9, go_sem, hc1]) rfl ⟨by rw [HE.out]; rfl, (by repeat (first | with_reducible exact hbw | with_reducible exact Below.refl _ _ | ((with_reducible refine Below.setCell ?_ ?_ _); rotate_left; (simp; try omega)) | ((with_reducible refine Below.alloc ?_ ?_ _); rotate_left; (have := hbw.size; simp at this ⊢; try omega)) | with_reducible refine Below.drew ?_))⟩
end Go.Proofs.Ythkpcanlimhhfaa.Lim
