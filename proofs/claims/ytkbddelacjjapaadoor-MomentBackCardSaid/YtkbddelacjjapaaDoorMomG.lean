/-
  Package moment and its reference: orders, what lies between.
-/
import Derived.Test.YtkbddelacjjapaaDoorMomC
namespace Go.Proofs.YtkbddelacjjapaaDoor.Mom
open Go.RowKit
set_option linter.unusedVariables false
set_option linter.unusedSimpArgs false

/-- Two times in blocks of their own. -/
structure TT (w W : World) (k1 d1 n1 o1 k2 d2 n2 o2 : Int) : Prop where
  a : TB W w.heap.size k1 d1 n1 o1
  b : TB W (w.heap.size + 1) k2 d2 n2 o2
  bel : Below w.heap.size w W
theorem TT.new (w : World) (k1 d1 n1 o1 k2 d2 n2 o2 : Int) : TT w ((w.alloc (.cells #[.int .i64 k1, .int .i64 d1, .int .i64 n1, .int .i64 o1] 23)).alloc (.cells #[.int .i64 k2, .int .i64 d2, .int .i64 n2, .int .i64 o2] 23)) k1 d1 n1 o1 k2 d2 n2 o2 := by
  refine ⟨(TB.new w k1 d1 n1 o1).alloc _, ?_, ((Below.refl _ _).alloc (Nat.le_refl _) _).alloc (by simp) _⟩
  have := TB.new (w.alloc (.cells #[.int .i64 k1, .int .i64 d1, .int .i64 n1, .int .i64 o1] 23)) k2 d2 n2 o2
  simpa using this
theorem TT.step {w W W' : World} {k1 d1 n1 o1 k2 d2 n2 o2 : Int} (h : TT w W k1 d1 n1 o1 k2 d2 n2 o2) (hb : Below W.heap.size W W') : TT w W' k1 d1 n1 o1 k2 d2 n2 o2 :=
  ⟨h.a.below hb h.a.lt, h.b.below hb h.b.lt, h.bel.trans (hb.mono h.bel.size)⟩
def mC (d1 n1 o1 d2 n2 o2 : Int) : Int := if icmp (uD d1 n1 o1) (uD d2 n2 o2) = 0 then icmp (uN n1 o1) (uN n2 o2) else icmp (uD d1 n1 o1) (uD d2 n2 o2)
set_option maxRecDepth 100000 in
set_option maxHeartbeats 4000000 in
theorem mcmp_any (k1 d1 n1 o1 k2 d2 n2 o2 : Int) (w : World) (h1 : nP d1 n1 o1) (h2 : nP d2 n2 o2) : Calls Tryd.prog 16 #[.agg #[.int .i64 k1, .int .i64 d1, .int .i64 n1, .int .i64 o1], .agg #[.int .i64 k2, .int .i64 d2, .int .i64 n2, .int .i64 o2]] w fun e w' => e = .returned (.int .i64 (mC d1 n1 o1 d2 n2 o2)) ∧ Below w.heap.size w w' := by
  have T := TT.new w k1 d1 n1 o1 k2 d2 n2 o2
  have HU1 := Lib.hid (fun w => utc_any k1 d1 n1 o1 w h1)
  have HU2 := Lib.hid (fun w => utc_any k2 d2 n2 o2 w h2)
  unfold mC
  generalize uD d1 n1 o1 = A at *
  generalize uD d2 n2 o2 = B at *
  generalize uN n1 o1 = X at *
  generalize uN n2 o2 = Y at *
  have HCA := Lib.hid (fun w => compare_any A B w)
  have HCB := Lib.hid (fun w => compare_any X Y w)
  generalize icmp A B = c at *
  generalize icmp X Y = x at *
  clear h1 h2
  by_cases hc : c = 0
  · have HR : Hid (x = if c = 0 then x else c) := Lib.hid (by rw [if_pos hc])
    have hb : (c != 0) = false := by simpa using hc
    clear hc
    rw [← HR.out]
    go_enter Tryd.func16, Tryd.ntmps16
    go_wp2_with (first | (go_at_call 29; first | ((with_reducible refine (HU1.out _).mono ?_); rintro e w1 ⟨rfl, hX⟩; have T := T.step hX; clear hX; obtain ⟨a0, a1, a2, a3⟩ := T.a.cells; obtain ⟨b0, b1, b2, b3⟩ := T.b.cells) | ((with_reducible refine (HU2.out _).mono ?_); rintro e w1 ⟨rfl, hX⟩; have T := T.step hX; clear hX; obtain ⟨a0, a1, a2, a3⟩ := T.a.cells; obtain ⟨b0, b1, b2, b3⟩ := T.b.cells)) | (go_at_call 15; first | ((with_reducible refine (HCA.out _).mono ?_); rintro e w1 ⟨rfl, rfl⟩) | ((with_reducible refine (HCB.out _).mono ?_); rintro e w1 ⟨rfl, rfl⟩)))
    go_ret
    exact ⟨rfl, T.bel⟩
  · have HR : Hid (c = if c = 0 then x else c) := Lib.hid (by rw [if_neg hc])
    have hb : (c != 0) = true := by simpa using hc
    clear hc
    rw [← HR.out]
    go_enter Tryd.func16, Tryd.ntmps16
    go_wp2_with (first | (go_at_call 29; first | ((with_reducible refine (HU1.out _).mono ?_); rintro e w1 ⟨rfl, hX⟩; have T := T.step hX; clear hX; obtain ⟨a0, a1, a2, a3⟩ := T.a.cells; obtain ⟨b0, b1, b2, b3⟩ := T.b.cells) | ((with_reducible refine (HU2.out _).mono ?_); rintro e w1 ⟨rfl, hX⟩; have T := T.step hX; clear hX; obtain ⟨a0, a1, a2, a3⟩ := T.a.cells; obtain ⟨b0, b1, b2, b3⟩ := T.b.cells)) | (go_at_call 15; ((with_reducible refine (HCA.out _).mono ?_); rintro e w1 ⟨rfl, rfl⟩)))
    go_ret
    exact ⟨rfl, T.bel⟩
def eqT (k1 d1 n1 o1 k2 d2 n2 o2 : Int) : Bool := decide (k1 = k2 ∧ mC d1 n1 o1 d2 n2 o2 = 0)
set_option maxRecDepth 100000 in
set_option maxHeartbeats 4000000 in
theorem equal_any (k1 d1 n1 o1 k2 d2 n2 o2 : Int) (w : World) (h1 : nP d1 n1 o1) (h2 : nP d2 n2 o2) : Calls Tryd.prog 11 #[.agg #[.int .i64 k1, .int .i64 d1, .int .i64 n1, .int .i64 o1], .agg #[.int .i64 k2, .int .i64 d2, .int .i64 n2, .int .i64 o2]] w fun e w' => e = .returned (.bool (eqT k1 d1 n1 o1 k2 d2 n2 o2)) ∧ Below w.heap.size w w' := by
  have T := TT.new w k1 d1 n1 o1 k2 d2 n2 o2
  have HM := Lib.hid (fun w => mcmp_any k1 d1 n1 o1 k2 d2 n2 o2 w h1 h2)
  unfold eqT
  generalize mC d1 n1 o1 d2 n2 o2 = c at *
  clear h1 h2
  by_cases hk : k1 = k2
  · have HR : Hid ((c == 0) = decide (k1 = k2 ∧ c = 0)) := Lib.hid (by rw [Bool.eq_iff_iff]; simp [hk])
    have hb : (k1 == k2) = true := by simpa using hk
    have HK := Lib.hid hk
    clear hk
    rw [← HR.out]
    go_enter Tryd.func11, Tryd.ntmps11
    go_wp2_with (go_at_call 16; ((with_reducible refine (HM.out _).mono ?_); rintro e w1 ⟨rfl, hX⟩; have T := T.step hX; clear hX; obtain ⟨a0, a1, a2, a3⟩ := T.a.cells; obtain ⟨b0, b1, b2, b3⟩ := T.b.cells))
    go_ret
    exact ⟨rfl, T.bel⟩
  · have HR : Hid (false = decide (k1 = k2 ∧ c = 0)) := Lib.hid (by rw [Bool.eq_iff_iff]; simp [hk])
    have hb : (k1 == k2) = false := by simpa using hk
    rw [← HR.out]
    go_enter Tryd.func11, Tryd.ntmps11
    go_wp2
    go_ret
    exact ⟨rfl, T.bel⟩
def tC (k1 d1 n1 o1 k2 d2 n2 o2 : Int) : Int := if icmp k1 k2 = 0 then (if mC d1 n1 o1 d2 n2 o2 = 0 then icmp o1 o2 else mC d1 n1 o1 d2 n2 o2) else icmp k1 k2
set_option maxRecDepth 100000 in
set_option maxHeartbeats 4000000 in
theorem tcmp_any (k1 d1 n1 o1 k2 d2 n2 o2 : Int) (w : World) (h1 : nP d1 n1 o1) (h2 : nP d2 n2 o2) : Calls Tryd.prog 8 #[.agg #[.int .i64 k1, .int .i64 d1, .int .i64 n1, .int .i64 o1], .agg #[.int .i64 k2, .int .i64 d2, .int .i64 n2, .int .i64 o2]] w fun e w' => e = .returned (.int .i64 (tC k1 d1 n1 o1 k2 d2 n2 o2)) ∧ Below w.heap.size w w' := by
  have T := TT.new w k1 d1 n1 o1 k2 d2 n2 o2
  have HM := Lib.hid (fun w => mcmp_any k1 d1 n1 o1 k2 d2 n2 o2 w h1 h2)
  have HCA := Lib.hid (fun w => compare_any k1 k2 w)
  have HCB := Lib.hid (fun w => compare_any o1 o2 w)
  unfold tC
  generalize mC d1 n1 o1 d2 n2 o2 = c at *
  generalize icmp k1 k2 = a at *
  generalize icmp o1 o2 = b at *
  clear h1 h2
  by_cases ha : a = 0
  · by_cases hc : c = 0
    · have HR : Hid (b = if a = 0 then (if c = 0 then b else c) else a) := Lib.hid (by rw [if_pos ha, if_pos hc])
      have hb1 : (a != 0) = false := by simpa using ha
      have hb2 : (c != 0) = false := by simpa using hc
      clear ha hc
      rw [← HR.out]
      go_enter Tryd.func8, Tryd.ntmps8
      go_wp2_with (first | (go_at_call 16; ((with_reducible refine (HM.out _).mono ?_); rintro e w1 ⟨rfl, hX⟩; have T := T.step hX; clear hX; obtain ⟨a0, a1, a2, a3⟩ := T.a.cells; obtain ⟨b0, b1, b2, b3⟩ := T.b.cells)) | (go_at_call 15; first | ((with_reducible refine (HCA.out _).mono ?_); rintro e w1 ⟨rfl, rfl⟩) | ((with_reducible refine (HCB.out _).mono ?_); rintro e w1 ⟨rfl, rfl⟩)))
      go_ret
      exact ⟨rfl, T.bel⟩
    · have HR : Hid (c = if a = 0 then (if c = 0 then b else c) else a) := Lib.hid (by rw [if_pos ha, if_neg hc])
      have hb1 : (a != 0) = false := by simpa using ha
      have hb2 : (c != 0) = true := by simpa using hc
      clear ha hc
      rw [← HR.out]
      go_enter Tryd.func8, Tryd.ntmps8
      go_wp2_with (first | (go_at_call 16; ((with_reducible refine (HM.out _).mono ?_); rintro e w1 ⟨rfl, hX⟩; have T := T.step hX; clear hX; obtain ⟨a0, a1, a2, a3⟩ := T.a.cells; obtain ⟨b0, b1, b2, b3⟩ := T.b.cells)) | (go_at_call 15; ((with_reducible refine (HCA.out _).mono ?_); rintro e w1 ⟨rfl, rfl⟩)))
      go_ret
      exact ⟨rfl, T.bel⟩
  · have HR : Hid (a = if a = 0 then (if c = 0 then b else c) else a) := Lib.hid (by rw [if_neg ha])
    have hb1 : (a != 0) = true := by simpa using ha
    clear ha
    rw [← HR.out]
    go_enter Tryd.func8, Tryd.ntmps8
    go_wp2_with (go_at_call 15; ((with_reducible refine (HCA.out _).mono ?_); rintro e w1 ⟨rfl, rfl⟩))
    go_ret
    exact ⟨rfl, T.bel⟩
/-- What lies between two times. -/
def bR (k1 d1 n1 o1 k2 d2 n2 o2 : Int) : Int × Int × Int := if vP k1 d1 n1 o1 ∧ vP k2 d2 n2 o2 then (if k1 = k2 then (uD d2 n2 o2 - uD d1 n1 o1 + (uN n2 o2 - uN n1 o1) / 86400000000000, (uN n2 o2 - uN n1 o1) % 86400000000000, 0) else (0, 0, 6)) else (0, 0, 1)
def iR (x : Int × Int × Int) : Ending := .returned (.tuple #[.int .i64 x.1, .int .i64 x.2.1, .int .i64 x.2.2])
end Go.Proofs.YtkbddelacjjapaaDoor.Mom
