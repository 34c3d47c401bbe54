/-
  Package decimal's reference: Parse, the other errors, and which way a string goes.
-/
import Derived.Test.YtaikmelefllgpabDoorDecBE
namespace Go.Proofs.YtaikmelefllgpabDoor.Dec
open Go.RowKit
set_option linter.unusedVariables false
set_option linter.unusedSimpArgs false
open Go.Proofs.YtaikmelefllgpabDoor.Dig

set_option maxRecDepth 100000 in
set_option maxHeartbeats 8000000 in
theorem re_m0 (s : ByteArray) (w : World) (h0 : 0 < s.size) (hg : (s[0]).toNat = 45) (HR1 : Hid (∀ w, Calls Tryd.prog 13 #[.string s, .int .i64 1] w fun e w' => e = .returned (.int .i64 1) ∧ w' = w)) : Calls Tryd.prog 6 #[.string s] w fun e w' => e = .returned (.tuple #[.agg #[.bool false, .string ⟨#[]⟩, .int .i64 0], .int .i64 3]) ∧ Below w.heap.size w w' := by
  have z1 : (0 : Int) < s.size := by omega
  have b0 : ((s[0].toNat : Int) == 45) = true := by rw [beq_iff_eq]; omega
  have x012 := (DC.new w false ⟨#[]⟩ 0).cells
  obtain ⟨x0, x1, x2⟩ := x012
  have y0 := (DC.new w false ⟨#[]⟩ 0).fz 0
  have y1 := (DC.new w false ⟨#[]⟩ 0).fz 1
  have y2 := (DC.new w false ⟨#[]⟩ 0).fz 2
  have bl : Below w.heap.size w (w.alloc (.cells #[.bool false, .string ⟨#[]⟩, .int .i64 0] 24)) := (Below.refl _ _).alloc (Nat.le_refl _) _
  go_enter Tryd.func6, Tryd.ntmps6
  go_wp2_with (go_at_call 13; first | ((with_reducible refine (HR1.out _).mono ?_); rintro e w1 ⟨rfl, rfl⟩))
  exact bodyPost_ret (v := .tuple #[.agg #[.bool false, .string ⟨#[]⟩, .int .i64 0], .int .i64 3]) (by simp [results, Tryd.results6, go_sem, x0, x1, x2]) rfl ⟨rfl, bl⟩
set_option maxRecDepth 100000 in
set_option maxHeartbeats 8000000 in
theorem re_m1 (s : ByteArray) (k1 : Nat) (w : World) (h0 : 0 < s.size) (hg : (s[0]).toNat = 45) (hk : 2 < k1) (hks : k1 ≤ s.size) (HR1 : Hid (∀ w, Calls Tryd.prog 13 #[.string s, .int .i64 1] w fun e w' => e = .returned (.int .i64 k1) ∧ w' = w)) (hw : ∀ hh : 1 < s.size, (s[1]).toNat = 48) : Calls Tryd.prog 6 #[.string s] w fun e w' => e = .returned (.tuple #[.agg #[.bool false, .string ⟨#[]⟩, .int .i64 0], .int .i64 3]) ∧ Below w.heap.size w w' := by
  have z1 : (0 : Int) < s.size := by omega
  have z2 : (1 : Int) < s.size := by omega
  have z3 : 1 < s.size := by omega
  have z4 : ((k1 : Int) == 1) = false := by rw [beq_eq_false_iff_ne]; omega
  have z5 : (2 : Int) < k1 := by omega
  have b1 : ((s[1].toNat : Int) == 48) = true := by have := hw z3; rw [beq_iff_eq]; omega
  have b0 : ((s[0].toNat : Int) == 45) = true := by rw [beq_iff_eq]; omega
  clear hw
  have x012 := (DC.new w false ⟨#[]⟩ 0).cells
  obtain ⟨x0, x1, x2⟩ := x012
  have y0 := (DC.new w false ⟨#[]⟩ 0).fz 0
  have y1 := (DC.new w false ⟨#[]⟩ 0).fz 1
  have y2 := (DC.new w false ⟨#[]⟩ 0).fz 2
  have bl : Below w.heap.size w (w.alloc (.cells #[.bool false, .string ⟨#[]⟩, .int .i64 0] 24)) := (Below.refl _ _).alloc (Nat.le_refl _) _
  go_enter Tryd.func6, Tryd.ntmps6
  go_wp2_with (go_at_call 13; first | ((with_reducible refine (HR1.out _).mono ?_); rintro e w1 ⟨rfl, rfl⟩))
  exact bodyPost_ret (v := .tuple #[.agg #[.bool false, .string ⟨#[]⟩, .int .i64 0], .int .i64 3]) (by simp [results, Tryd.results6, go_sem, x0, x1, x2]) rfl ⟨rfl, bl⟩
set_option maxRecDepth 100000 in
set_option maxHeartbeats 8000000 in
theorem re_mfz (s a : ByteArray) (k1 : Nat) (w : World) (hs : s.size ≤ 1000) (h0 : 0 < s.size) (hg : (s[0]).toNat = 45) (hi : 1 < k1) (hk : k1 ≤ s.size) (HR1 : Hid (∀ w, Calls Tryd.prog 13 #[.string s, .int .i64 1] w fun e w' => e = .returned (.int .i64 k1) ∧ w' = w)) (ha : s.extract 1 k1 = a) (has : a.size ≤ 1000) (hw : ∀ hh : 1 < s.size, (s[1]).toNat = 48) (hwk : k1 = 2) (p1 : Nat) (hp1 : k1 + 1 = p1) (hfk : ∀ hh : k1 < s.size, (s[k1]'hh).toNat = 46) (hfs : k1 < s.size) (HR2 : Hid (∀ w, Calls Tryd.prog 13 #[.string s, .int .i64 p1] w fun e w' => e = .returned (.int .i64 p1) ∧ w' = w)) : Calls Tryd.prog 6 #[.string s] w fun e w' => e = .returned (.tuple #[.agg #[.bool false, .string ⟨#[]⟩, .int .i64 0], .int .i64 3]) ∧ Below w.heap.size w w' := by
  have z1 : (0 : Int) < s.size := by omega
  have z2 : (1 : Int) < s.size := by omega
  have z3 : 1 < s.size := by omega
  have z4 : ((k1 : Int) == 1) = false := by rw [beq_eq_false_iff_ne]; omega
  have z5 : (1 : Int) ≤ k1 := by omega
  have z6 : (k1 : Int) ≤ s.size := by omega
  have z7 : (0 : Int) ≤ k1 := by omega
  have b0 : ((s[0].toNat : Int) == 45) = true := by rw [beq_iff_eq]; omega
  have b1 : ((s[1].toNat : Int) == 48) = true := by have := hw z3; rw [beq_iff_eq]; omega
  have b2 : ¬ (2 : Int) < k1 := by omega
  have f1 : (k1 : Int) < s.size := by omega
  have f2 : ((s[k1].toNat : Int) == 46) = true := by have := hfk hfs; rw [beq_iff_eq]; omega
  have f3 : IntKind.i64.wrap ((k1 : Int) + 1) = (p1 : Int) := by rw [show (k1 : Int) + 1 = (p1 : Int) by omega]; exact IntWalk.i64_in _ (by omega)
  clear hw hwk hfk
  have x012 := (DC.new w false ⟨#[]⟩ 0).cells
  obtain ⟨x0, x1, x2⟩ := x012
  have y0 := (DC.new w false ⟨#[]⟩ 0).fz 0
  have y1 := (DC.new w false ⟨#[]⟩ 0).fz 1
  have y2 := (DC.new w false ⟨#[]⟩ 0).fz 2
  have bl : Below w.heap.size w (w.alloc (.cells #[.bool false, .string ⟨#[]⟩, .int .i64 0] 24)) := (Below.refl _ _).alloc (Nat.le_refl _) _
  go_enter Tryd.func6, Tryd.ntmps6
  go_wp2_with (go_at_call 13; first | ((with_reducible refine (HR1.out _).mono ?_); rintro e w1 ⟨rfl, rfl⟩) | ((with_reducible refine (HR2.out _).mono ?_); rintro e w1 ⟨rfl, rfl⟩))
  exact bodyPost_ret (v := .tuple #[.agg #[.bool false, .string ⟨#[]⟩, .int .i64 0], .int .i64 3]) (by simp [results, Tryd.results6, go_sem, x0, x1, x2]) rfl ⟨rfl, bl⟩
set_option maxRecDepth 100000 in
set_option maxHeartbeats 8000000 in
theorem re_mfn (s a : ByteArray) (k1 : Nat) (w : World) (hs : s.size ≤ 1000) (h0 : 0 < s.size) (hg : (s[0]).toNat = 45) (hi : 1 < k1) (hk : k1 ≤ s.size) (HR1 : Hid (∀ w, Calls Tryd.prog 13 #[.string s, .int .i64 1] w fun e w' => e = .returned (.int .i64 k1) ∧ w' = w)) (ha : s.extract 1 k1 = a) (has : a.size ≤ 1000) (hw : ∀ hh : 1 < s.size, (s[1]).toNat ≠ 48) (p1 : Nat) (hp1 : k1 + 1 = p1) (hfk : ∀ hh : k1 < s.size, (s[k1]'hh).toNat = 46) (hfs : k1 < s.size) (HR2 : Hid (∀ w, Calls Tryd.prog 13 #[.string s, .int .i64 p1] w fun e w' => e = .returned (.int .i64 p1) ∧ w' = w)) : Calls Tryd.prog 6 #[.string s] w fun e w' => e = .returned (.tuple #[.agg #[.bool false, .string ⟨#[]⟩, .int .i64 0], .int .i64 3]) ∧ Below w.heap.size w w' := by
  have z1 : (0 : Int) < s.size := by omega
  have z2 : (1 : Int) < s.size := by omega
  have z3 : 1 < s.size := by omega
  have z4 : ((k1 : Int) == 1) = false := by rw [beq_eq_false_iff_ne]; omega
  have z5 : (1 : Int) ≤ k1 := by omega
  have z6 : (k1 : Int) ≤ s.size := by omega
  have z7 : (0 : Int) ≤ k1 := by omega
  have b0 : ((s[0].toNat : Int) == 45) = true := by rw [beq_iff_eq]; omega
  have b1 : ((s[1].toNat : Int) == 48) = false := by have := hw z3; rw [beq_eq_false_iff_ne]; omega
  have f1 : (k1 : Int) < s.size := by omega
  have f2 : ((s[k1].toNat : Int) == 46) = true := by have := hfk hfs; rw [beq_iff_eq]; omega
  have f3 : IntKind.i64.wrap ((k1 : Int) + 1) = (p1 : Int) := by rw [show (k1 : Int) + 1 = (p1 : Int) by omega]; exact IntWalk.i64_in _ (by omega)
  clear hw hfk
  have x012 := (DC.new w false ⟨#[]⟩ 0).cells
  obtain ⟨x0, x1, x2⟩ := x012
  have y0 := (DC.new w false ⟨#[]⟩ 0).fz 0
  have y1 := (DC.new w false ⟨#[]⟩ 0).fz 1
  have y2 := (DC.new w false ⟨#[]⟩ 0).fz 2
  have bl : Below w.heap.size w (w.alloc (.cells #[.bool false, .string ⟨#[]⟩, .int .i64 0] 24)) := (Below.refl _ _).alloc (Nat.le_refl _) _
  go_enter Tryd.func6, Tryd.ntmps6
  go_wp2_with (go_at_call 13; first | ((with_reducible refine (HR1.out _).mono ?_); rintro e w1 ⟨rfl, rfl⟩) | ((with_reducible refine (HR2.out _).mono ?_); rintro e w1 ⟨rfl, rfl⟩))
  exact bodyPost_ret (v := .tuple #[.agg #[.bool false, .string ⟨#[]⟩, .int .i64 0], .int .i64 3]) (by simp [results, Tryd.results6, go_sem, x0, x1, x2]) rfl ⟨rfl, bl⟩
set_option maxRecDepth 100000 in
set_option maxHeartbeats 8000000 in
theorem re_p0 (s : ByteArray) (w : World) (h0 : 0 < s.size) (hg : (s[0]).toNat ≠ 45) (HR1 : Hid (∀ w, Calls Tryd.prog 13 #[.string s, .int .i64 0] w fun e w' => e = .returned (.int .i64 0) ∧ w' = w)) : Calls Tryd.prog 6 #[.string s] w fun e w' => e = .returned (.tuple #[.agg #[.bool false, .string ⟨#[]⟩, .int .i64 0], .int .i64 3]) ∧ Below w.heap.size w w' := by
  have z1 : (0 : Int) < s.size := by omega
  have b0 : ((s[0].toNat : Int) == 45) = false := by rw [beq_eq_false_iff_ne]; omega
  have x012 := (DC.new w false ⟨#[]⟩ 0).cells
  obtain ⟨x0, x1, x2⟩ := x012
  have y0 := (DC.new w false ⟨#[]⟩ 0).fz 0
  have y1 := (DC.new w false ⟨#[]⟩ 0).fz 1
  have y2 := (DC.new w false ⟨#[]⟩ 0).fz 2
  have bl : Below w.heap.size w (w.alloc (.cells #[.bool false, .string ⟨#[]⟩, .int .i64 0] 24)) := (Below.refl _ _).alloc (Nat.le_refl _) _
  go_enter Tryd.func6, Tryd.ntmps6
  go_wp2_with (go_at_call 13; first | ((with_reducible refine (HR1.out _).mono ?_); rintro e w1 ⟨rfl, rfl⟩))
  exact bodyPost_ret (v := .tuple #[.agg #[.bool false, .string ⟨#[]⟩, .int .i64 0], .int .i64 3]) (by simp [results, Tryd.results6, go_sem, x0, x1, x2]) rfl ⟨rfl, bl⟩
set_option maxRecDepth 100000 in
set_option maxHeartbeats 8000000 in
theorem re_p1 (s : ByteArray) (k1 : Nat) (w : World) (h0 : 0 < s.size) (hg : (s[0]).toNat ≠ 45) (hk : 1 < k1) (hks : k1 ≤ s.size) (HR1 : Hid (∀ w, Calls Tryd.prog 13 #[.string s, .int .i64 0] w fun e w' => e = .returned (.int .i64 k1) ∧ w' = w)) (hw : ∀ hh : 0 < s.size, (s[0]).toNat = 48) : Calls Tryd.prog 6 #[.string s] w fun e w' => e = .returned (.tuple #[.agg #[.bool false, .string ⟨#[]⟩, .int .i64 0], .int .i64 3]) ∧ Below w.heap.size w w' := by
  have z1 : (0 : Int) < s.size := by omega
  have z2 : (0 : Int) < s.size := by omega
  have z3 : 0 < s.size := by omega
  have z4 : ((k1 : Int) == 0) = false := by rw [beq_eq_false_iff_ne]; omega
  have z5 : (1 : Int) < k1 := by omega
  have b1 : ((s[0].toNat : Int) == 48) = true := by have := hw z3; rw [beq_iff_eq]; omega
  have b0 : ((s[0].toNat : Int) == 45) = false := by rw [beq_eq_false_iff_ne]; omega
  clear hw
  have x012 := (DC.new w false ⟨#[]⟩ 0).cells
  obtain ⟨x0, x1, x2⟩ := x012
  have y0 := (DC.new w false ⟨#[]⟩ 0).fz 0
  have y1 := (DC.new w false ⟨#[]⟩ 0).fz 1
  have y2 := (DC.new w false ⟨#[]⟩ 0).fz 2
  have bl : Below w.heap.size w (w.alloc (.cells #[.bool false, .string ⟨#[]⟩, .int .i64 0] 24)) := (Below.refl _ _).alloc (Nat.le_refl _) _
  go_enter Tryd.func6, Tryd.ntmps6
  go_wp2_with (go_at_call 13; first | ((with_reducible refine (HR1.out _).mono ?_); rintro e w1 ⟨rfl, rfl⟩))
  exact bodyPost_ret (v := .tuple #[.agg #[.bool false, .string ⟨#[]⟩, .int .i64 0], .int .i64 3]) (by simp [results, Tryd.results6, go_sem, x0, x1, x2]) rfl ⟨rfl, bl⟩
set_option maxRecDepth 100000 in
set_option maxHeartbeats 8000000 in
theorem re_pfz (s a : ByteArray) (k1 : Nat) (w : World) (hs : s.size ≤ 1000) (h0 : 0 < s.size) (hg : (s[0]).toNat ≠ 45) (hi : 0 < k1) (hk : k1 ≤ s.size) (HR1 : Hid (∀ w, Calls Tryd.prog 13 #[.string s, .int .i64 0] w fun e w' => e = .returned (.int .i64 k1) ∧ w' = w)) (ha : s.extract 0 k1 = a) (has : a.size ≤ 1000) (hw : ∀ hh : 0 < s.size, (s[0]).toNat = 48) (hwk : k1 = 1) (p1 : Nat) (hp1 : k1 + 1 = p1) (hfk : ∀ hh : k1 < s.size, (s[k1]'hh).toNat = 46) (hfs : k1 < s.size) (HR2 : Hid (∀ w, Calls Tryd.prog 13 #[.string s, .int .i64 p1] w fun e w' => e = .returned (.int .i64 p1) ∧ w' = w)) : Calls Tryd.prog 6 #[.string s] w fun e w' => e = .returned (.tuple #[.agg #[.bool false, .string ⟨#[]⟩, .int .i64 0], .int .i64 3]) ∧ Below w.heap.size w w' := by
  have z1 : (0 : Int) < s.size := by omega
  have z2 : (0 : Int) < s.size := by omega
  have z3 : 0 < s.size := by omega
  have z4 : ((k1 : Int) == 0) = false := by rw [beq_eq_false_iff_ne]; omega
  have z5 : (0 : Int) ≤ k1 := by omega
  have z6 : (k1 : Int) ≤ s.size := by omega
  have z7 : (0 : Int) ≤ k1 := by omega
  have b0 : ((s[0].toNat : Int) == 45) = false := by rw [beq_eq_false_iff_ne]; omega
  have b1 : ((s[0].toNat : Int) == 48) = true := by have := hw z3; rw [beq_iff_eq]; omega
  have b2 : ¬ (1 : Int) < k1 := by omega
  have f1 : (k1 : Int) < s.size := by omega
  have f2 : ((s[k1].toNat : Int) == 46) = true := by have := hfk hfs; rw [beq_iff_eq]; omega
  have f3 : IntKind.i64.wrap ((k1 : Int) + 1) = (p1 : Int) := by rw [show (k1 : Int) + 1 = (p1 : Int) by omega]; exact IntWalk.i64_in _ (by omega)
  clear hw hwk hfk
  have x012 := (DC.new w false ⟨#[]⟩ 0).cells
  obtain ⟨x0, x1, x2⟩ := x012
  have y0 := (DC.new w false ⟨#[]⟩ 0).fz 0
  have y1 := (DC.new w false ⟨#[]⟩ 0).fz 1
  have y2 := (DC.new w false ⟨#[]⟩ 0).fz 2
  have bl : Below w.heap.size w (w.alloc (.cells #[.bool false, .string ⟨#[]⟩, .int .i64 0] 24)) := (Below.refl _ _).alloc (Nat.le_refl _) _
  go_enter Tryd.func6, Tryd.ntmps6
  go_wp2_with (go_at_call 13; first | ((with_reducible refine (HR1.out _).mono ?_); rintro e w1 ⟨rfl, rfl⟩) | ((with_reducible refine (HR2.out _).mono ?_); rintro e w1 ⟨rfl, rfl⟩))
  exact bodyPost_ret (v := .tuple #[.agg #[.bool false, .string ⟨#[]⟩, .int .i64 0], .int .i64 3]) (by simp [results, Tryd.results6, go_sem, x0, x1, x2]) rfl ⟨rfl, bl⟩
set_option maxRecDepth 100000 in
set_option maxHeartbeats 8000000 in
theorem re_pfn (s a : ByteArray) (k1 : Nat) (w : World) (hs : s.size ≤ 1000) (h0 : 0 < s.size) (hg : (s[0]).toNat ≠ 45) (hi : 0 < k1) (hk : k1 ≤ s.size) (HR1 : Hid (∀ w, Calls Tryd.prog 13 #[.string s, .int .i64 0] w fun e w' => e = .returned (.int .i64 k1) ∧ w' = w)) (ha : s.extract 0 k1 = a) (has : a.size ≤ 1000) (hw : ∀ hh : 0 < s.size, (s[0]).toNat ≠ 48) (p1 : Nat) (hp1 : k1 + 1 = p1) (hfk : ∀ hh : k1 < s.size, (s[k1]'hh).toNat = 46) (hfs : k1 < s.size) (HR2 : Hid (∀ w, Calls Tryd.prog 13 #[.string s, .int .i64 p1] w fun e w' => e = .returned (.int .i64 p1) ∧ w' = w)) : Calls Tryd.prog 6 #[.string s] w fun e w' => e = .returned (.tuple #[.agg #[.bool false, .string ⟨#[]⟩, .int .i64 0], .int .i64 3]) ∧ Below w.heap.size w w' := by
  have z1 : (0 : Int) < s.size := by omega
  have z2 : (0 : Int) < s.size := by omega
  have z3 : 0 < s.size := by omega
  have z4 : ((k1 : Int) == 0) = false := by rw [beq_eq_false_iff_ne]; omega
  have z5 : (0 : Int) ≤ k1 := by omega
  have z6 : (k1 : Int) ≤ s.size := by omega
  have z7 : (0 : Int) ≤ k1 := by omega
  have b0 : ((s[0].toNat : Int) == 45) = false := by rw [beq_eq_false_iff_ne]; omega
  have b1 : ((s[0].toNat : Int) == 48) = false := by have := hw z3; rw [beq_eq_false_iff_ne]; omega
  have f1 : (k1 : Int) < s.size := by omega
  have f2 : ((s[k1].toNat : Int) == 46) = true := by have := hfk hfs; rw [beq_iff_eq]; omega
  have f3 : IntKind.i64.wrap ((k1 : Int) + 1) = (p1 : Int) := by rw [show (k1 : Int) + 1 = (p1 : Int) by omega]; exact IntWalk.i64_in _ (by omega)
  clear hw hfk
  have x012 := (DC.new w false ⟨#[]⟩ 0).cells
  obtain ⟨x0, x1, x2⟩ := x012
  have y0 := (DC.new w false ⟨#[]⟩ 0).fz 0
  have y1 := (DC.new w false ⟨#[]⟩ 0).fz 1
  have y2 := (DC.new w false ⟨#[]⟩ 0).fz 2
  have bl : Below w.heap.size w (w.alloc (.cells #[.bool false, .string ⟨#[]⟩, .int .i64 0] 24)) := (Below.refl _ _).alloc (Nat.le_refl _) _
  go_enter Tryd.func6, Tryd.ntmps6
  go_wp2_with (go_at_call 13; first | ((with_reducible refine (HR1.out _).mono ?_); rintro e w1 ⟨rfl, rfl⟩) | ((with_reducible refine (HR2.out _).mono ?_); rintro e w1 ⟨rfl, rfl⟩))
  exact bodyPost_ret (v := .tuple #[.agg #[.bool false, .string ⟨#[]⟩, .int .i64 0], .int .i64 3]) (by simp [results, Tryd.results6, go_sem, x0, x1, x2]) rfl ⟨rfl, bl⟩
set_option maxRecDepth 100000 in
set_option maxHeartbeats 8000000 in
theorem re_e (w : World) (HR1 : Hid (∀ w, Calls Tryd.prog 13 #[.string ⟨#[]⟩, .int .i64 0] w fun e w' => e = .returned (.int .i64 0) ∧ w' = w)) : Calls Tryd.prog 6 #[.string ⟨#[]⟩] w fun e w' => e = .returned (.tuple #[.agg #[.bool false, .string ⟨#[]⟩, .int .i64 0], .int .i64 3]) ∧ Below w.heap.size w w' := by
  have x012 := (DC.new w false ⟨#[]⟩ 0).cells
  obtain ⟨x0, x1, x2⟩ := x012
  have y0 := (DC.new w false ⟨#[]⟩ 0).fz 0
  have y1 := (DC.new w false ⟨#[]⟩ 0).fz 1
  have y2 := (DC.new w false ⟨#[]⟩ 0).fz 2
  have bl : Below w.heap.size w (w.alloc (.cells #[.bool false, .string ⟨#[]⟩, .int .i64 0] 24)) := (Below.refl _ _).alloc (Nat.le_refl _) _
  go_enter Tryd.func6, Tryd.ntmps6
  go_wp2_with (go_at_call 13; first | ((with_reducible refine (HR1.out _).mono ?_); rintro e w1 ⟨rfl, rfl⟩))
  exact bodyPost_ret (v := .tuple #[.agg #[.bool false, .string ⟨#[]⟩, .int .i64 0], .int .i64 3]) (by simp [results, Tryd.results6, go_sem, x0, x1, x2]) rfl ⟨rfl, bl⟩
theorem head_k (s : ByteArray) (k : Nat) (h : k < s.size) : (s.data.toList.drop k).head? = some (s[k]'h) := by
  rw [List.head?_drop]
  exact List.getElem?_eq_getElem (show k < s.data.toList.length from h)
theorem drop_nil {s : ByteArray} {k : Nat} (hk : k ≤ s.size) : s.data.toList.drop k = [] ↔ k = s.size := by
  rw [List.drop_eq_nil_iff]
  have : s.data.toList.length = s.size := rfl
  omega
theorem rn_digs {s : ByteArray} {k : Nat} (hk : k ≤ s.size) : rn s.data.toList k = s.size ↔ digs (s.data.toList.drop k) = true := by
  rw [← dlL_all, List.length_drop]
  unfold rn
  have : s.data.toList.length = s.size := rfl
  omega
theorem ex_kj (s : ByteArray) (k j : Nat) : (s.extract k j).data.toList = (s.data.toList.drop k).take (j - k) := Lib.extract_data _ _ _
theorem run_at (s : ByteArray) (k r : Nat) (hs : s.size ≤ 1000) (hk : k ≤ s.size) (hr : rn s.data.toList k = r) : Hid (∀ w, Calls Tryd.prog 13 #[.string s, .int .i64 k] w fun e w' => e = .returned (.int .i64 r) ∧ w' = w) := Lib.hid (fun w => by
  have := run_any s k w (by omega) hk
  rwa [hr] at this)
theorem pow_at (s : ByteArray) (k j : Nat) (hs : s.size ≤ 1000) (hd : digs ((s.data.toList.drop k).take (j - k)) = true) : ∃ (q : ByteArray) (v : Nat), s.extract k j = q ∧ v ≤ 1000000000 ∧ Hid (∀ w, Calls Tryd.prog 14 #[.string q] w fun e w' => e = .returned (.int .i64 v) ∧ w' = w) ∧ v = min (val ((s.data.toList.drop k).take (j - k))) 1000000000 := by
  refine ⟨_, min (val ((s.data.toList.drop k).take (j - k))) 1000000000, rfl, by omega, Lib.hid (fun w => ?_), rfl⟩
  have := power_any (s.extract k j) w (by rw [ByteArray.size_extract]; omega) (by rw [ex_kj]; exact hd)
  rwa [ex_kj] at this
theorem wok_0 (s : ByteArray) (kk : Nat) (hs : s.size ≤ 1000) (hk : kk ≤ s.size) (x X : Int) (h : expo 1000000000 (s.data.toList.drop kk) = some x) (hX : X = x) : ((kk = s.size) ∧ X = 0) ∨ (∃ (k3 k4 : Nat) (d1 : kk < s.size), (s[kk]'d1).toNat = 101 ∧ kk + 1 = k3 ∧ (∃ d4 : k3 < s.size, (s[k3]'d4).toNat = 45 ∧ k3 + 1 = k4) ∧ k4 < s.size ∧ Hid (∀ w, Calls Tryd.prog 13 #[.string s, .int .i64 k4] w fun e w' => e = .returned (.int .i64 s.size) ∧ w' = w) ∧ (∃ (q : ByteArray) (v : Nat), s.extract k4 s.size = q ∧ v ≤ 1000000000 ∧ Hid (∀ w, Calls Tryd.prog 14 #[.string q] w fun e w' => e = .returned (.int .i64 v) ∧ w' = w) ∧ X = -(v : Int))) ∨ (∃ (k3 k4 : Nat) (d1 : kk < s.size), (s[kk]'d1).toNat = 101 ∧ kk + 1 = k3 ∧ (∃ d4 : k3 < s.size, (s[k3]'d4).toNat = 43 ∧ k3 + 1 = k4) ∧ k4 < s.size ∧ Hid (∀ w, Calls Tryd.prog 13 #[.string s, .int .i64 k4] w fun e w' => e = .returned (.int .i64 s.size) ∧ w' = w) ∧ (∃ (q : ByteArray) (v : Nat), s.extract k4 s.size = q ∧ v ≤ 1000000000 ∧ Hid (∀ w, Calls Tryd.prog 14 #[.string q] w fun e w' => e = .returned (.int .i64 v) ∧ w' = w) ∧ X = (v : Int))) ∨ (∃ (k3 k4 : Nat) (d1 : kk < s.size), (s[kk]'d1).toNat = 101 ∧ kk + 1 = k3 ∧ (∃ d4 : k3 < s.size, ((s[k3]'d4).toNat ≠ 45 ∧ (s[k3]'d4).toNat ≠ 43) ∧ k3 = k4) ∧ k4 < s.size ∧ Hid (∀ w, Calls Tryd.prog 13 #[.string s, .int .i64 k4] w fun e w' => e = .returned (.int .i64 s.size) ∧ w' = w) ∧ (∃ (q : ByteArray) (v : Nat), s.extract k4 s.size = q ∧ v ≤ 1000000000 ∧ Hid (∀ w, Calls Tryd.prog 14 #[.string q] w fun e w' => e = .returned (.int .i64 v) ∧ w' = w) ∧ X = (v : Int))) ∨ (∃ (k3 k4 : Nat) (d1 : kk < s.size), (s[kk]'d1).toNat = 69 ∧ kk + 1 = k3 ∧ (∃ d4 : k3 < s.size, (s[k3]'d4).toNat = 45 ∧ k3 + 1 = k4) ∧ k4 < s.size ∧ Hid (∀ w, Calls Tryd.prog 13 #[.string s, .int .i64 k4] w fun e w' => e = .returned (.int .i64 s.size) ∧ w' = w) ∧ (∃ (q : ByteArray) (v : Nat), s.extract k4 s.size = q ∧ v ≤ 1000000000 ∧ Hid (∀ w, Calls Tryd.prog 14 #[.string q] w fun e w' => e = .returned (.int .i64 v) ∧ w' = w) ∧ X = -(v : Int))) ∨ (∃ (k3 k4 : Nat) (d1 : kk < s.size), (s[kk]'d1).toNat = 69 ∧ kk + 1 = k3 ∧ (∃ d4 : k3 < s.size, (s[k3]'d4).toNat = 43 ∧ k3 + 1 = k4) ∧ k4 < s.size ∧ Hid (∀ w, Calls Tryd.prog 13 #[.string s, .int .i64 k4] w fun e w' => e = .returned (.int .i64 s.size) ∧ w' = w) ∧ (∃ (q : ByteArray) (v : Nat), s.extract k4 s.size = q ∧ v ≤ 1000000000 ∧ Hid (∀ w, Calls Tryd.prog 14 #[.string q] w fun e w' => e = .returned (.int .i64 v) ∧ w' = w) ∧ X = (v : Int))) ∨ (∃ (k3 k4 : Nat) (d1 : kk < s.size), (s[kk]'d1).toNat = 69 ∧ kk + 1 = k3 ∧ (∃ d4 : k3 < s.size, ((s[k3]'d4).toNat ≠ 45 ∧ (s[k3]'d4).toNat ≠ 43) ∧ k3 = k4) ∧ k4 < s.size ∧ Hid (∀ w, Calls Tryd.prog 13 #[.string s, .int .i64 k4] w fun e w' => e = .returned (.int .i64 s.size) ∧ w' = w) ∧ (∃ (q : ByteArray) (v : Nat), s.extract k4 s.size = q ∧ v ≤ 1000000000 ∧ Hid (∀ w, Calls Tryd.prog 14 #[.string q] w fun e w' => e = .returned (.int .i64 v) ∧ w' = w) ∧ X = (v : Int))) := by
  unfold expo qx at h
  by_cases h0 : s.data.toList.drop kk = []
  · rw [if_pos h0] at h
    have hx := Option.some.inj h
    exact .inl (⟨(drop_nil hk).1 h0, by omega⟩)
  · rw [if_neg h0] at h
    have d1 : kk < s.size := by
      have : kk ≠ s.size := fun e => h0 ((drop_nil hk).2 e)
      omega
    rw [head_k s kk d1, List.drop_drop, List.drop_drop] at h
    obtain ⟨k3, d3⟩ : ∃ k3, kk + 1 = k3 := ⟨_, rfl⟩
    rw [d3, show kk + 2 = k3 + 1 by omega] at h
    by_cases hb : some s[kk] = some (101 : UInt8) ∨ some s[kk] = some 69
    · rw [if_pos hb] at h
      by_cases h3 : k3 < s.size
      · rw [head_k s k3 h3] at h
        by_cases hm : some s[k3] = some (45 : UInt8)
        · have hs4 := Option.some.inj hm
          simp only [hm, true_or, if_true] at h
          by_cases hq : s.data.toList.drop (k3 + 1) = [] ∨ digs (s.data.toList.drop (k3 + 1)) = false
          · rw [if_pos hq] at h; cases h
          · rw [if_neg hq] at h
            have k4s : k3 + 1 ≤ s.size := by omega
            have e1 : k3 + 1 < s.size := by
              have : k3 + 1 ≠ s.size := fun e => hq (.inl ((drop_nil k4s).2 e))
              omega
            have hd : digs (s.data.toList.drop (k3 + 1)) = true := by simpa using fun e => hq (.inr e)
            have HR := run_at s (k3 + 1) s.size hs k4s ((rn_digs k4s).2 hd)
            have htk : (s.data.toList.drop (k3 + 1)).take (s.size - (k3 + 1)) = s.data.toList.drop (k3 + 1) := List.take_of_length_le (by rw [List.length_drop]; exact Nat.le_refl _)
            obtain ⟨q, v, e2, e3, HP, e4⟩ := pow_at s (k3 + 1) s.size hs (by rw [htk]; exact hd)
            rw [htk] at e4
            have hx := Option.some.inj h
            rw [← e4] at hx
            rcases hb with hb | hb
            · exact .inr (.inl (⟨k3, k3 + 1, d1, by rw [Option.some.inj hb]; rfl, d3, ⟨h3, by rw [hs4]; rfl, rfl⟩, e1, HR, q, v, e2, e3, HP, by omega⟩))
            · exact .inr (.inr (.inr (.inr (.inl (⟨k3, k3 + 1, d1, by rw [Option.some.inj hb]; rfl, d3, ⟨h3, by rw [hs4]; rfl, rfl⟩, e1, HR, q, v, e2, e3, HP, by omega⟩)))))
        · by_cases hp : some s[k3] = some (43 : UInt8)
          · have hs4 := Option.some.inj hp
            have hno : ¬ (some (43 : UInt8) = some 45) := by decide
            simp only [hp, or_true, if_true, hno, if_false] at h
            by_cases hq : s.data.toList.drop (k3 + 1) = [] ∨ digs (s.data.toList.drop (k3 + 1)) = false
            · rw [if_pos hq] at h; cases h
            · rw [if_neg hq] at h
              have k4s : k3 + 1 ≤ s.size := by omega
              have e1 : k3 + 1 < s.size := by
                have : k3 + 1 ≠ s.size := fun e => hq (.inl ((drop_nil k4s).2 e))
                omega
              have hd : digs (s.data.toList.drop (k3 + 1)) = true := by simpa using fun e => hq (.inr e)
              have HR := run_at s (k3 + 1) s.size hs k4s ((rn_digs k4s).2 hd)
              have htk : (s.data.toList.drop (k3 + 1)).take (s.size - (k3 + 1)) = s.data.toList.drop (k3 + 1) := List.take_of_length_le (by rw [List.length_drop]; exact Nat.le_refl _)
              obtain ⟨q, v, e2, e3, HP, e4⟩ := pow_at s (k3 + 1) s.size hs (by rw [htk]; exact hd)
              rw [htk] at e4
              have hx := Option.some.inj h
              rw [← e4] at hx
              rcases hb with hb | hb
              · exact .inr (.inr (.inl (⟨k3, k3 + 1, d1, by rw [Option.some.inj hb]; rfl, d3, ⟨h3, by rw [hs4]; rfl, rfl⟩, e1, HR, q, v, e2, e3, HP, by omega⟩)))
              · exact .inr (.inr (.inr (.inr (.inr (.inl (⟨k3, k3 + 1, d1, by rw [Option.some.inj hb]; rfl, d3, ⟨h3, by rw [hs4]; rfl, rfl⟩, e1, HR, q, v, e2, e3, HP, by omega⟩))))))
          · simp only [hm, hp, or_self, if_false] at h
            by_cases hq : s.data.toList.drop (k3) = [] ∨ digs (s.data.toList.drop (k3)) = false
            · rw [if_pos hq] at h; cases h
            · rw [if_neg hq] at h
              have k4s : k3 ≤ s.size := by omega
              have e1 : k3 < s.size := by
                have : k3 ≠ s.size := fun e => hq (.inl ((drop_nil k4s).2 e))
                omega
              have hd : digs (s.data.toList.drop (k3)) = true := by simpa using fun e => hq (.inr e)
              have HR := run_at s (k3) s.size hs k4s ((rn_digs k4s).2 hd)
              have htk : (s.data.toList.drop (k3)).take (s.size - (k3)) = s.data.toList.drop (k3) := List.take_of_length_le (by rw [List.length_drop]; exact Nat.le_refl _)
              obtain ⟨q, v, e2, e3, HP, e4⟩ := pow_at s (k3) s.size hs (by rw [htk]; exact hd)
              rw [htk] at e4
              have hx := Option.some.inj h
              rw [← e4] at hx
              rcases hb with hb | hb
              · exact .inr (.inr (.inr (.inl (⟨k3, k3, d1, by rw [Option.some.inj hb]; rfl, d3, ⟨h3, ⟨fun e => hm (congrArg some (u8_of (by decide) e)), fun e => hp (congrArg some (u8_of (by decide) e))⟩, rfl⟩, e1, HR, q, v, e2, e3, HP, by omega⟩))))
              · exact .inr (.inr (.inr (.inr (.inr (.inr (⟨k3, k3, d1, by rw [Option.some.inj hb]; rfl, d3, ⟨h3, ⟨fun e => hm (congrArg some (u8_of (by decide) e)), fun e => hp (congrArg some (u8_of (by decide) e))⟩, rfl⟩, e1, HR, q, v, e2, e3, HP, by omega⟩))))))
      · have hn : s.data.toList.drop k3 = [] := (drop_nil (by omega)).2 (by omega)
        rw [hn] at h
        simp at h
    · rw [if_neg hb] at h; cases h
theorem wer (s : ByteArray) (kk : Nat) (hs : s.size ≤ 1000) (hk : kk ≤ s.size) (h : expo 1000000000 (s.data.toList.drop kk) = none) : (∃ d1 : kk < s.size, (s[kk]'d1).toNat ≠ 101 ∧ (s[kk]'d1).toNat ≠ 69) ∨ (∃ (k3 k4 : Nat) (d1 : kk < s.size), (s[kk]'d1).toNat = 101 ∧ kk + 1 = k3 ∧ (∃ d4 : k3 < s.size, (s[k3]'d4).toNat = 45 ∧ k3 + 1 = k4) ∧ (∃ j3 : Nat, k4 < j3 ∧ j3 < s.size ∧ Hid (∀ w, Calls Tryd.prog 13 #[.string s, .int .i64 k4] w fun e w' => e = .returned (.int .i64 j3) ∧ w' = w) ∧ (∃ (q : ByteArray) (v : Nat), s.extract k4 j3 = q ∧ v ≤ 1000000000 ∧ Hid (∀ w, Calls Tryd.prog 14 #[.string q] w fun e w' => e = .returned (.int .i64 v) ∧ w' = w)))) ∨ (∃ (k3 k4 : Nat) (d1 : kk < s.size), (s[kk]'d1).toNat = 101 ∧ kk + 1 = k3 ∧ (∃ d4 : k3 < s.size, (s[k3]'d4).toNat = 45 ∧ k3 + 1 = k4) ∧ Hid (∀ w, Calls Tryd.prog 13 #[.string s, .int .i64 k4] w fun e w' => e = .returned (.int .i64 k4) ∧ w' = w)) ∨ (∃ (k3 k4 : Nat) (d1 : kk < s.size), (s[kk]'d1).toNat = 101 ∧ kk + 1 = k3 ∧ (∃ d4 : k3 < s.size, (s[k3]'d4).toNat = 43 ∧ k3 + 1 = k4) ∧ (∃ j3 : Nat, k4 < j3 ∧ j3 < s.size ∧ Hid (∀ w, Calls Tryd.prog 13 #[.string s, .int .i64 k4] w fun e w' => e = .returned (.int .i64 j3) ∧ w' = w) ∧ (∃ (q : ByteArray) (v : Nat), s.extract k4 j3 = q ∧ v ≤ 1000000000 ∧ Hid (∀ w, Calls Tryd.prog 14 #[.string q] w fun e w' => e = .returned (.int .i64 v) ∧ w' = w)))) ∨ (∃ (k3 k4 : Nat) (d1 : kk < s.size), (s[kk]'d1).toNat = 101 ∧ kk + 1 = k3 ∧ (∃ d4 : k3 < s.size, (s[k3]'d4).toNat = 43 ∧ k3 + 1 = k4) ∧ Hid (∀ w, Calls Tryd.prog 13 #[.string s, .int .i64 k4] w fun e w' => e = .returned (.int .i64 k4) ∧ w' = w)) ∨ (∃ (k3 k4 : Nat) (d1 : kk < s.size), (s[kk]'d1).toNat = 101 ∧ kk + 1 = k3 ∧ (∃ d4 : k3 < s.size, ((s[k3]'d4).toNat ≠ 45 ∧ (s[k3]'d4).toNat ≠ 43) ∧ k3 = k4) ∧ (∃ j3 : Nat, k4 < j3 ∧ j3 < s.size ∧ Hid (∀ w, Calls Tryd.prog 13 #[.string s, .int .i64 k4] w fun e w' => e = .returned (.int .i64 j3) ∧ w' = w) ∧ (∃ (q : ByteArray) (v : Nat), s.extract k4 j3 = q ∧ v ≤ 1000000000 ∧ Hid (∀ w, Calls Tryd.prog 14 #[.string q] w fun e w' => e = .returned (.int .i64 v) ∧ w' = w)))) ∨ (∃ (k3 k4 : Nat) (d1 : kk < s.size), (s[kk]'d1).toNat = 101 ∧ kk + 1 = k3 ∧ (∃ d4 : k3 < s.size, ((s[k3]'d4).toNat ≠ 45 ∧ (s[k3]'d4).toNat ≠ 43) ∧ k3 = k4) ∧ Hid (∀ w, Calls Tryd.prog 13 #[.string s, .int .i64 k4] w fun e w' => e = .returned (.int .i64 k4) ∧ w' = w)) ∨ (∃ (k3 : Nat) (d1 : kk < s.size), (s[kk]'d1).toNat = 101 ∧ kk + 1 = k3 ∧ k3 = s.size ∧ Hid (∀ w, Calls Tryd.prog 13 #[.string s, .int .i64 k3] w fun e w' => e = .returned (.int .i64 k3) ∧ w' = w)) ∨ (∃ (k3 k4 : Nat) (d1 : kk < s.size), (s[kk]'d1).toNat = 69 ∧ kk + 1 = k3 ∧ (∃ d4 : k3 < s.size, (s[k3]'d4).toNat = 45 ∧ k3 + 1 = k4) ∧ (∃ j3 : Nat, k4 < j3 ∧ j3 < s.size ∧ Hid (∀ w, Calls Tryd.prog 13 #[.string s, .int .i64 k4] w fun e w' => e = .returned (.int .i64 j3) ∧ w' = w) ∧ (∃ (q : ByteArray) (v : Nat), s.extract k4 j3 = q ∧ v ≤ 1000000000 ∧ Hid (∀ w, Calls Tryd.prog 14 #[.string q] w fun e w' => e = .returned (.int .i64 v) ∧ w' = w)))) ∨ (∃ (k3 k4 : Nat) (d1 : kk < s.size), (s[kk]'d1).toNat = 69 ∧ kk + 1 = k3 ∧ (∃ d4 : k3 < s.size, (s[k3]'d4).toNat = 45 ∧ k3 + 1 = k4) ∧ Hid (∀ w, Calls Tryd.prog 13 #[.string s, .int .i64 k4] w fun e w' => e = .returned (.int .i64 k4) ∧ w' = w)) ∨ (∃ (k3 k4 : Nat) (d1 : kk < s.size), (s[kk]'d1).toNat = 69 ∧ kk + 1 = k3 ∧ (∃ d4 : k3 < s.size, (s[k3]'d4).toNat = 43 ∧ k3 + 1 = k4) ∧ (∃ j3 : Nat, k4 < j3 ∧ j3 < s.size ∧ Hid (∀ w, Calls Tryd.prog 13 #[.string s, .int .i64 k4] w fun e w' => e = .returned (.int .i64 j3) ∧ w' = w) ∧ (∃ (q : ByteArray) (v : Nat), s.extract k4 j3 = q ∧ v ≤ 1000000000 ∧ Hid (∀ w, Calls Tryd.prog 14 #[.string q] w fun e w' => e = .returned (.int .i64 v) ∧ w' = w)))) ∨ (∃ (k3 k4 : Nat) (d1 : kk < s.size), (s[kk]'d1).toNat = 69 ∧ kk + 1 = k3 ∧ (∃ d4 : k3 < s.size, (s[k3]'d4).toNat = 43 ∧ k3 + 1 = k4) ∧ Hid (∀ w, Calls Tryd.prog 13 #[.string s, .int .i64 k4] w fun e w' => e = .returned (.int .i64 k4) ∧ w' = w)) ∨ (∃ (k3 k4 : Nat) (d1 : kk < s.size), (s[kk]'d1).toNat = 69 ∧ kk + 1 = k3 ∧ (∃ d4 : k3 < s.size, ((s[k3]'d4).toNat ≠ 45 ∧ (s[k3]'d4).toNat ≠ 43) ∧ k3 = k4) ∧ (∃ j3 : Nat, k4 < j3 ∧ j3 < s.size ∧ Hid (∀ w, Calls Tryd.prog 13 #[.string s, .int .i64 k4] w fun e w' => e = .returned (.int .i64 j3) ∧ w' = w) ∧ (∃ (q : ByteArray) (v : Nat), s.extract k4 j3 = q ∧ v ≤ 1000000000 ∧ Hid (∀ w, Calls Tryd.prog 14 #[.string q] w fun e w' => e = .returned (.int .i64 v) ∧ w' = w)))) ∨ (∃ (k3 k4 : Nat) (d1 : kk < s.size), (s[kk]'d1).toNat = 69 ∧ kk + 1 = k3 ∧ (∃ d4 : k3 < s.size, ((s[k3]'d4).toNat ≠ 45 ∧ (s[k3]'d4).toNat ≠ 43) ∧ k3 = k4) ∧ Hid (∀ w, Calls Tryd.prog 13 #[.string s, .int .i64 k4] w fun e w' => e = .returned (.int .i64 k4) ∧ w' = w)) ∨ (∃ (k3 : Nat) (d1 : kk < s.size), (s[kk]'d1).toNat = 69 ∧ kk + 1 = k3 ∧ k3 = s.size ∧ Hid (∀ w, Calls Tryd.prog 13 #[.string s, .int .i64 k3] w fun e w' => e = .returned (.int .i64 k3) ∧ w' = w)) := by
  unfold expo qx at h
  by_cases h0 : s.data.toList.drop kk = []
  · rw [if_pos h0] at h; cases h
  · rw [if_neg h0] at h
    have d1 : kk < s.size := by
      have : kk ≠ s.size := fun e => h0 ((drop_nil hk).2 e)
      omega
    rw [head_k s kk d1, List.drop_drop, List.drop_drop] at h
    obtain ⟨k3, d3⟩ : ∃ k3, kk + 1 = k3 := ⟨_, rfl⟩
    rw [d3, show kk + 2 = k3 + 1 by omega] at h
    by_cases hb : some s[kk] = some (101 : UInt8) ∨ some s[kk] = some 69
    · rw [if_pos hb] at h
      by_cases h3 : k3 < s.size
      · rw [head_k s k3 h3] at h
        by_cases hm : some s[k3] = some (45 : UInt8)
        · have hs4 := Option.some.inj hm
          simp only [hm, true_or, if_true] at h
          by_cases hq : s.data.toList.drop (k3 + 1) = [] ∨ digs (s.data.toList.drop (k3 + 1)) = false
          · have k4s : k3 + 1 ≤ s.size := by omega
            have hrn := rn_le (l := s.data.toList) k4s
            by_cases hj : rn s.data.toList (k3 + 1) = k3 + 1
            · have HR := run_at s (k3 + 1) _ hs k4s hj
              rcases hb with hb | hb
              · exact .inr (.inr (.inl (⟨k3, k3 + 1, d1, by rw [Option.some.inj hb]; rfl, d3, ⟨h3, by rw [hs4]; rfl, rfl⟩, HR⟩)))
              · exact .inr (.inr (.inr (.inr (.inr (.inr (.inr (.inr (.inr (.inl (⟨k3, k3 + 1, d1, by rw [Option.some.inj hb]; rfl, d3, ⟨h3, by rw [hs4]; rfl, rfl⟩, HR⟩))))))))))
            · obtain ⟨j3, hj3⟩ : ∃ j3, rn s.data.toList (k3 + 1) = j3 := ⟨_, rfl⟩
              have HR := run_at s (k3 + 1) j3 hs k4s hj3
              have hll : s.data.toList.length = s.size := rfl
              have hlt : j3 < s.size := by
                rcases Nat.lt_or_ge j3 s.size with q1 | q1
                · exact q1
                · have q2 : rn s.data.toList (k3 + 1) = s.size := by omega
                  have q3 := (rn_digs k4s).1 q2
                  rcases hq with hq | hq
                  · have := (drop_nil k4s).1 hq; omega
                  · rw [q3] at hq; cases hq
              have hdd : digs ((s.data.toList.drop (k3 + 1)).take (j3 - (k3 + 1))) = true := by
                rw [← hj3, show rn s.data.toList (k3 + 1) - (k3 + 1) = dlL (s.data.toList.drop (k3 + 1)) by unfold rn; omega]
                exact dlL_digs _
              obtain ⟨q, v, e2, e3, HP, -⟩ := pow_at s (k3 + 1) j3 hs hdd
              rcases hb with hb | hb
              · exact .inr (.inl (⟨k3, k3 + 1, d1, by rw [Option.some.inj hb]; rfl, d3, ⟨h3, by rw [hs4]; rfl, rfl⟩, j3, by omega, hlt, HR, q, v, e2, e3, HP⟩))
              · exact .inr (.inr (.inr (.inr (.inr (.inr (.inr (.inr (.inl (⟨k3, k3 + 1, d1, by rw [Option.some.inj hb]; rfl, d3, ⟨h3, by rw [hs4]; rfl, rfl⟩, j3, by omega, hlt, HR, q, v, e2, e3, HP⟩)))))))))
          · rw [if_neg hq] at h; cases h
        · by_cases hp : some s[k3] = some (43 : UInt8)
          · have hs4 := Option.some.inj hp
            have hno : ¬ (some (43 : UInt8) = some 45) := by decide
            simp only [hp, or_true, if_true, hno, if_false] at h
            by_cases hq : s.data.toList.drop (k3 + 1) = [] ∨ digs (s.data.toList.drop (k3 + 1)) = false
            · have k4s : k3 + 1 ≤ s.size := by omega
              have hrn := rn_le (l := s.data.toList) k4s
              by_cases hj : rn s.data.toList (k3 + 1) = k3 + 1
              · have HR := run_at s (k3 + 1) _ hs k4s hj
                rcases hb with hb | hb
                · exact .inr (.inr (.inr (.inr (.inl (⟨k3, k3 + 1, d1, by rw [Option.some.inj hb]; rfl, d3, ⟨h3, by rw [hs4]; rfl, rfl⟩, HR⟩)))))
                · exact .inr (.inr (.inr (.inr (.inr (.inr (.inr (.inr (.inr (.inr (.inr (.inl (⟨k3, k3 + 1, d1, by rw [Option.some.inj hb]; rfl, d3, ⟨h3, by rw [hs4]; rfl, rfl⟩, HR⟩))))))))))))
              · obtain ⟨j3, hj3⟩ : ∃ j3, rn s.data.toList (k3 + 1) = j3 := ⟨_, rfl⟩
                have HR := run_at s (k3 + 1) j3 hs k4s hj3
                have hll : s.data.toList.length = s.size := rfl
                have hlt : j3 < s.size := by
                  rcases Nat.lt_or_ge j3 s.size with q1 | q1
                  · exact q1
                  · have q2 : rn s.data.toList (k3 + 1) = s.size := by omega
                    have q3 := (rn_digs k4s).1 q2
                    rcases hq with hq | hq
                    · have := (drop_nil k4s).1 hq; omega
                    · rw [q3] at hq; cases hq
                have hdd : digs ((s.data.toList.drop (k3 + 1)).take (j3 - (k3 + 1))) = true := by
                  rw [← hj3, show rn s.data.toList (k3 + 1) - (k3 + 1) = dlL (s.data.toList.drop (k3 + 1)) by unfold rn; omega]
                  exact dlL_digs _
                obtain ⟨q, v, e2, e3, HP, -⟩ := pow_at s (k3 + 1) j3 hs hdd
                rcases hb with hb | hb
                · exact .inr (.inr (.inr (.inl (⟨k3, k3 + 1, d1, by rw [Option.some.inj hb]; rfl, d3, ⟨h3, by rw [hs4]; rfl, rfl⟩, j3, by omega, hlt, HR, q, v, e2, e3, HP⟩))))
                · exact .inr (.inr (.inr (.inr (.inr (.inr (.inr (.inr (.inr (.inr (.inl (⟨k3, k3 + 1, d1, by rw [Option.some.inj hb]; rfl, d3, ⟨h3, by rw [hs4]; rfl, rfl⟩, j3, by omega, hlt, HR, q, v, e2, e3, HP⟩)))))))))))
            · rw [if_neg hq] at h; cases h
          · simp only [hm, hp, or_self, if_false] at h
            by_cases hq : s.data.toList.drop (k3) = [] ∨ digs (s.data.toList.drop (k3)) = false
            · have k4s : k3 ≤ s.size := by omega
              have hrn := rn_le (l := s.data.toList) k4s
              by_cases hj : rn s.data.toList (k3) = k3
              · have HR := run_at s (k3) _ hs k4s hj
                rcases hb with hb | hb
                · exact .inr (.inr (.inr (.inr (.inr (.inr (.inl (⟨k3, k3, d1, by rw [Option.some.inj hb]; rfl, d3, ⟨h3, ⟨fun e => hm (congrArg some (u8_of (by decide) e)), fun e => hp (congrArg some (u8_of (by decide) e))⟩, rfl⟩, HR⟩)))))))
                · exact .inr (.inr (.inr (.inr (.inr (.inr (.inr (.inr (.inr (.inr (.inr (.inr (.inr (.inl (⟨k3, k3, d1, by rw [Option.some.inj hb]; rfl, d3, ⟨h3, ⟨fun e => hm (congrArg some (u8_of (by decide) e)), fun e => hp (congrArg some (u8_of (by decide) e))⟩, rfl⟩, HR⟩))))))))))))))
              · obtain ⟨j3, hj3⟩ : ∃ j3, rn s.data.toList (k3) = j3 := ⟨_, rfl⟩
                have HR := run_at s (k3) j3 hs k4s hj3
                have hll : s.data.toList.length = s.size := rfl
                have hlt : j3 < s.size := by
                  rcases Nat.lt_or_ge j3 s.size with q1 | q1
                  · exact q1
                  · have q2 : rn s.data.toList (k3) = s.size := by omega
                    have q3 := (rn_digs k4s).1 q2
                    rcases hq with hq | hq
                    · have := (drop_nil k4s).1 hq; omega
                    · rw [q3] at hq; cases hq
                have hdd : digs ((s.data.toList.drop (k3)).take (j3 - (k3))) = true := by
                  rw [← hj3, show rn s.data.toList (k3) - (k3) = dlL (s.data.toList.drop (k3)) by unfold rn; omega]
                  exact dlL_digs _
                obtain ⟨q, v, e2, e3, HP, -⟩ := pow_at s (k3) j3 hs hdd
                rcases hb with hb | hb
                · exact .inr (.inr (.inr (.inr (.inr (.inl (⟨k3, k3, d1, by rw [Option.some.inj hb]; rfl, d3, ⟨h3, ⟨fun e => hm (congrArg some (u8_of (by decide) e)), fun e => hp (congrArg some (u8_of (by decide) e))⟩, rfl⟩, j3, by omega, hlt, HR, q, v, e2, e3, HP⟩))))))
                · exact .inr (.inr (.inr (.inr (.inr (.inr (.inr (.inr (.inr (.inr (.inr (.inr (.inl (⟨k3, k3, d1, by rw [Option.some.inj hb]; rfl, d3, ⟨h3, ⟨fun e => hm (congrArg some (u8_of (by decide) e)), fun e => hp (congrArg some (u8_of (by decide) e))⟩, rfl⟩, j3, by omega, hlt, HR, q, v, e2, e3, HP⟩)))))))))))))
            · rw [if_neg hq] at h; cases h
      · have HR := run_at s k3 k3 hs (by omega) (rn_stop (fun hh => absurd hh h3))
        rcases hb with hb | hb
        · exact .inr (.inr (.inr (.inr (.inr (.inr (.inr (.inl (⟨k3, d1, by rw [Option.some.inj hb]; rfl, d3, by omega, HR⟩))))))))
        · exact .inr (.inr (.inr (.inr (.inr (.inr (.inr (.inr (.inr (.inr (.inr (.inr (.inr (.inr (⟨k3, d1, by rw [Option.some.inj hb]; rfl, d3, by omega, HR⟩))))))))))))))
    · exact .inl (⟨d1, fun e => hb (.inl (congrArg some (u8_of (by decide) e))), fun e => hb (.inr (congrArg some (u8_of (by decide) e)))⟩)
theorem wok_1 (s : ByteArray) (kk : Nat) (p1 j : Nat) (hs : s.size ≤ 1000) (hk : kk ≤ s.size) (x X : Int) (h : expo 1000000000 (s.data.toList.drop kk) = some x) (hX : X = ((p1 : Int) - (j : Int)) + x) : ((kk = s.size) ∧ X = ((p1 : Int) - (j : Int))) ∨ (∃ (k3 k4 : Nat) (d1 : kk < s.size), (s[kk]'d1).toNat = 101 ∧ kk + 1 = k3 ∧ (∃ d4 : k3 < s.size, (s[k3]'d4).toNat = 45 ∧ k3 + 1 = k4) ∧ k4 < s.size ∧ Hid (∀ w, Calls Tryd.prog 13 #[.string s, .int .i64 k4] w fun e w' => e = .returned (.int .i64 s.size) ∧ w' = w) ∧ (∃ (q : ByteArray) (v : Nat), s.extract k4 s.size = q ∧ v ≤ 1000000000 ∧ Hid (∀ w, Calls Tryd.prog 14 #[.string q] w fun e w' => e = .returned (.int .i64 v) ∧ w' = w) ∧ X = ((p1 : Int) - (j : Int)) + -(v : Int))) ∨ (∃ (k3 k4 : Nat) (d1 : kk < s.size), (s[kk]'d1).toNat = 101 ∧ kk + 1 = k3 ∧ (∃ d4 : k3 < s.size, (s[k3]'d4).toNat = 43 ∧ k3 + 1 = k4) ∧ k4 < s.size ∧ Hid (∀ w, Calls Tryd.prog 13 #[.string s, .int .i64 k4] w fun e w' => e = .returned (.int .i64 s.size) ∧ w' = w) ∧ (∃ (q : ByteArray) (v : Nat), s.extract k4 s.size = q ∧ v ≤ 1000000000 ∧ Hid (∀ w, Calls Tryd.prog 14 #[.string q] w fun e w' => e = .returned (.int .i64 v) ∧ w' = w) ∧ X = ((p1 : Int) - (j : Int)) + (v : Int))) ∨ (∃ (k3 k4 : Nat) (d1 : kk < s.size), (s[kk]'d1).toNat = 101 ∧ kk + 1 = k3 ∧ (∃ d4 : k3 < s.size, ((s[k3]'d4).toNat ≠ 45 ∧ (s[k3]'d4).toNat ≠ 43) ∧ k3 = k4) ∧ k4 < s.size ∧ Hid (∀ w, Calls Tryd.prog 13 #[.string s, .int .i64 k4] w fun e w' => e = .returned (.int .i64 s.size) ∧ w' = w) ∧ (∃ (q : ByteArray) (v : Nat), s.extract k4 s.size = q ∧ v ≤ 1000000000 ∧ Hid (∀ w, Calls Tryd.prog 14 #[.string q] w fun e w' => e = .returned (.int .i64 v) ∧ w' = w) ∧ X = ((p1 : Int) - (j : Int)) + (v : Int))) ∨ (∃ (k3 k4 : Nat) (d1 : kk < s.size), (s[kk]'d1).toNat = 69 ∧ kk + 1 = k3 ∧ (∃ d4 : k3 < s.size, (s[k3]'d4).toNat = 45 ∧ k3 + 1 = k4) ∧ k4 < s.size ∧ Hid (∀ w, Calls Tryd.prog 13 #[.string s, .int .i64 k4] w fun e w' => e = .returned (.int .i64 s.size) ∧ w' = w) ∧ (∃ (q : ByteArray) (v : Nat), s.extract k4 s.size = q ∧ v ≤ 1000000000 ∧ Hid (∀ w, Calls Tryd.prog 14 #[.string q] w fun e w' => e = .returned (.int .i64 v) ∧ w' = w) ∧ X = ((p1 : Int) - (j : Int)) + -(v : Int))) ∨ (∃ (k3 k4 : Nat) (d1 : kk < s.size), (s[kk]'d1).toNat = 69 ∧ kk + 1 = k3 ∧ (∃ d4 : k3 < s.size, (s[k3]'d4).toNat = 43 ∧ k3 + 1 = k4) ∧ k4 < s.size ∧ Hid (∀ w, Calls Tryd.prog 13 #[.string s, .int .i64 k4] w fun e w' => e = .returned (.int .i64 s.size) ∧ w' = w) ∧ (∃ (q : ByteArray) (v : Nat), s.extract k4 s.size = q ∧ v ≤ 1000000000 ∧ Hid (∀ w, Calls Tryd.prog 14 #[.string q] w fun e w' => e = .returned (.int .i64 v) ∧ w' = w) ∧ X = ((p1 : Int) - (j : Int)) + (v : Int))) ∨ (∃ (k3 k4 : Nat) (d1 : kk < s.size), (s[kk]'d1).toNat = 69 ∧ kk + 1 = k3 ∧ (∃ d4 : k3 < s.size, ((s[k3]'d4).toNat ≠ 45 ∧ (s[k3]'d4).toNat ≠ 43) ∧ k3 = k4) ∧ k4 < s.size ∧ Hid (∀ w, Calls Tryd.prog 13 #[.string s, .int .i64 k4] w fun e w' => e = .returned (.int .i64 s.size) ∧ w' = w) ∧ (∃ (q : ByteArray) (v : Nat), s.extract k4 s.size = q ∧ v ≤ 1000000000 ∧ Hid (∀ w, Calls Tryd.prog 14 #[.string q] w fun e w' => e = .returned (.int .i64 v) ∧ w' = w) ∧ X = ((p1 : Int) - (j : Int)) + (v : Int))) := by
  unfold expo qx at h
  by_cases h0 : s.data.toList.drop kk = []
  · rw [if_pos h0] at h
    have hx := Option.some.inj h
    exact .inl (⟨(drop_nil hk).1 h0, by omega⟩)
  · rw [if_neg h0] at h
    have d1 : kk < s.size := by
      have : kk ≠ s.size := fun e => h0 ((drop_nil hk).2 e)
      omega
    rw [head_k s kk d1, List.drop_drop, List.drop_drop] at h
    obtain ⟨k3, d3⟩ : ∃ k3, kk + 1 = k3 := ⟨_, rfl⟩
    rw [d3, show kk + 2 = k3 + 1 by omega] at h
    by_cases hb : some s[kk] = some (101 : UInt8) ∨ some s[kk] = some 69
    · rw [if_pos hb] at h
      by_cases h3 : k3 < s.size
      · rw [head_k s k3 h3] at h
        by_cases hm : some s[k3] = some (45 : UInt8)
        · have hs4 := Option.some.inj hm
          simp only [hm, true_or, if_true] at h
          by_cases hq : s.data.toList.drop (k3 + 1) = [] ∨ digs (s.data.toList.drop (k3 + 1)) = false
          · rw [if_pos hq] at h; cases h
          · rw [if_neg hq] at h
            have k4s : k3 + 1 ≤ s.size := by omega
            have e1 : k3 + 1 < s.size := by
              have : k3 + 1 ≠ s.size := fun e => hq (.inl ((drop_nil k4s).2 e))
              omega
            have hd : digs (s.data.toList.drop (k3 + 1)) = true := by simpa using fun e => hq (.inr e)
            have HR := run_at s (k3 + 1) s.size hs k4s ((rn_digs k4s).2 hd)
            have htk : (s.data.toList.drop (k3 + 1)).take (s.size - (k3 + 1)) = s.data.toList.drop (k3 + 1) := List.take_of_length_le (by rw [List.length_drop]; exact Nat.le_refl _)
            obtain ⟨q, v, e2, e3, HP, e4⟩ := pow_at s (k3 + 1) s.size hs (by rw [htk]; exact hd)
            rw [htk] at e4
            have hx := Option.some.inj h
            rw [← e4] at hx
            rcases hb with hb | hb
            · exact .inr (.inl (⟨k3, k3 + 1, d1, by rw [Option.some.inj hb]; rfl, d3, ⟨h3, by rw [hs4]; rfl, rfl⟩, e1, HR, q, v, e2, e3, HP, by omega⟩))
            · exact .inr (.inr (.inr (.inr (.inl (⟨k3, k3 + 1, d1, by rw [Option.some.inj hb]; rfl, d3, ⟨h3, by rw [hs4]; rfl, rfl⟩, e1, HR, q, v, e2, e3, HP, by omega⟩)))))
        · by_cases hp : some s[k3] = some (43 : UInt8)
          · have hs4 := Option.some.inj hp
            have hno : ¬ (some (43 : UInt8) = some 45) := by decide
            simp only [hp, or_true, if_true, hno, if_false] at h
            by_cases hq : s.data.toList.drop (k3 + 1) = [] ∨ digs (s.data.toList.drop (k3 + 1)) = false
            · rw [if_pos hq] at h; cases h
            · rw [if_neg hq] at h
              have k4s : k3 + 1 ≤ s.size := by omega
              have e1 : k3 + 1 < s.size := by
                have : k3 + 1 ≠ s.size := fun e => hq (.inl ((drop_nil k4s).2 e))
                omega
              have hd : digs (s.data.toList.drop (k3 + 1)) = true := by simpa using fun e => hq (.inr e)
              have HR := run_at s (k3 + 1) s.size hs k4s ((rn_digs k4s).2 hd)
              have htk : (s.data.toList.drop (k3 + 1)).take (s.size - (k3 + 1)) = s.data.toList.drop (k3 + 1) := List.take_of_length_le (by rw [List.length_drop]; exact Nat.le_refl _)
              obtain ⟨q, v, e2, e3, HP, e4⟩ := pow_at s (k3 + 1) s.size hs (by rw [htk]; exact hd)
              rw [htk] at e4
              have hx := Option.some.inj h
              rw [← e4] at hx
              rcases hb with hb | hb
              · exact .inr (.inr (.inl (⟨k3, k3 + 1, d1, by rw [Option.some.inj hb]; rfl, d3, ⟨h3, by rw [hs4]; rfl, rfl⟩, e1, HR, q, v, e2, e3, HP, by omega⟩)))
              · exact .inr (.inr (.inr (.inr (.inr (.inl (⟨k3, k3 + 1, d1, by rw [Option.some.inj hb]; rfl, d3, ⟨h3, by rw [hs4]; rfl, rfl⟩, e1, HR, q, v, e2, e3, HP, by omega⟩))))))
          · simp only [hm, hp, or_self, if_false] at h
            by_cases hq : s.data.toList.drop (k3) = [] ∨ digs (s.data.toList.drop (k3)) = false
            · rw [if_pos hq] at h; cases h
            · rw [if_neg hq] at h
              have k4s : k3 ≤ s.size := by omega
              have e1 : k3 < s.size := by
                have : k3 ≠ s.size := fun e => hq (.inl ((drop_nil k4s).2 e))
                omega
              have hd : digs (s.data.toList.drop (k3)) = true := by simpa using fun e => hq (.inr e)
              have HR := run_at s (k3) s.size hs k4s ((rn_digs k4s).2 hd)
              have htk : (s.data.toList.drop (k3)).take (s.size - (k3)) = s.data.toList.drop (k3) := List.take_of_length_le (by rw [List.length_drop]; exact Nat.le_refl _)
              obtain ⟨q, v, e2, e3, HP, e4⟩ := pow_at s (k3) s.size hs (by rw [htk]; exact hd)
              rw [htk] at e4
              have hx := Option.some.inj h
              rw [← e4] at hx
              rcases hb with hb | hb
              · exact .inr (.inr (.inr (.inl (⟨k3, k3, d1, by rw [Option.some.inj hb]; rfl, d3, ⟨h3, ⟨fun e => hm (congrArg some (u8_of (by decide) e)), fun e => hp (congrArg some (u8_of (by decide) e))⟩, rfl⟩, e1, HR, q, v, e2, e3, HP, by omega⟩))))
              · exact .inr (.inr (.inr (.inr (.inr (.inr (⟨k3, k3, d1, by rw [Option.some.inj hb]; rfl, d3, ⟨h3, ⟨fun e => hm (congrArg some (u8_of (by decide) e)), fun e => hp (congrArg some (u8_of (by decide) e))⟩, rfl⟩, e1, HR, q, v, e2, e3, HP, by omega⟩))))))
      · have hn : s.data.toList.drop k3 = [] := (drop_nil (by omega)).2 (by omega)
        rw [hn] at h
        simp at h
    · rw [if_neg hb] at h; cases h
end Go.Proofs.YtaikmelefllgpabDoor.Dec
