/-
  Package decimal's reference: Parse, way by way.
-/
import Derived.Test.YtaikmelefllgpabDoorDecBE
namespace Go.Proofs.YtaikmelefllgpabDoor.Dec
open Go.RowKit
set_option linter.unusedVariables false
set_option linter.unusedSimpArgs false
open Go.Proofs.YtaikmelefllgpabDoor.Dig

set_option maxRecDepth 100000 in
set_option maxHeartbeats 8000000 in
theorem rp_mz1_ok (s a : ByteArray) (k1 : Nat) (w : World) (hs : s.size ≤ 1000) (h0 : 0 < s.size) (hg : (s[0]).toNat = 45) (hi : 1 < k1) (hk : k1 ≤ s.size) (HR1 : Hid (∀ w, Calls Tryd.prog 13 #[.string s, .int .i64 1] w fun e w' => e = .returned (.int .i64 k1) ∧ w' = w)) (ha : s.extract 1 k1 = a) (has : a.size ≤ 1000) (hw : ∀ hh : 1 < s.size, (s[1]).toNat = 48) (hwk : k1 = 2) (f : ByteArray) (j p1 : Nat) (hp1 : k1 + 1 = p1) (hfk : ∀ hh : k1 < s.size, (s[k1]'hh).toNat = 46) (hfs : k1 < s.size) (hj : p1 < j) (hjs : j ≤ s.size) (HR2 : Hid (∀ w, Calls Tryd.prog 13 #[.string s, .int .i64 p1] w fun e w' => e = .returned (.int .i64 j) ∧ w' = w)) (hf : s.extract p1 j = f) (hfz : f.size ≤ 1000) (X : Int) (R1 : Bool) (R2 : ByteArray) (R3 R4 : Int) (HW : Hid (((j = s.size) ∧ X = ((p1 : Int) - (j : Int))) ∨ (∃ (k3 k4 : Nat) (d1 : j < s.size), (s[j]'d1).toNat = 101 ∧ j + 1 = k3 ∧ (∃ d4 : k3 < s.size, (s[k3]'d4).toNat = 45 ∧ k3 + 1 = k4) ∧ k4 < s.size ∧ Hid (∀ w, Calls Tryd.prog 13 #[.string s, .int .i64 k4] w fun e w' => e = .returned (.int .i64 s.size) ∧ w' = w) ∧ (∃ (q : ByteArray) (v : Nat), s.extract k4 s.size = q ∧ v ≤ 1000000000 ∧ Hid (∀ w, Calls Tryd.prog 14 #[.string q] w fun e w' => e = .returned (.int .i64 v) ∧ w' = w) ∧ X = ((p1 : Int) - (j : Int)) + -(v : Int))) ∨ (∃ (k3 k4 : Nat) (d1 : j < s.size), (s[j]'d1).toNat = 101 ∧ j + 1 = k3 ∧ (∃ d4 : k3 < s.size, (s[k3]'d4).toNat = 43 ∧ k3 + 1 = k4) ∧ k4 < s.size ∧ Hid (∀ w, Calls Tryd.prog 13 #[.string s, .int .i64 k4] w fun e w' => e = .returned (.int .i64 s.size) ∧ w' = w) ∧ (∃ (q : ByteArray) (v : Nat), s.extract k4 s.size = q ∧ v ≤ 1000000000 ∧ Hid (∀ w, Calls Tryd.prog 14 #[.string q] w fun e w' => e = .returned (.int .i64 v) ∧ w' = w) ∧ X = ((p1 : Int) - (j : Int)) + (v : Int))) ∨ (∃ (k3 k4 : Nat) (d1 : j < s.size), (s[j]'d1).toNat = 101 ∧ j + 1 = k3 ∧ (∃ d4 : k3 < s.size, ((s[k3]'d4).toNat ≠ 45 ∧ (s[k3]'d4).toNat ≠ 43) ∧ k3 = k4) ∧ k4 < s.size ∧ Hid (∀ w, Calls Tryd.prog 13 #[.string s, .int .i64 k4] w fun e w' => e = .returned (.int .i64 s.size) ∧ w' = w) ∧ (∃ (q : ByteArray) (v : Nat), s.extract k4 s.size = q ∧ v ≤ 1000000000 ∧ Hid (∀ w, Calls Tryd.prog 14 #[.string q] w fun e w' => e = .returned (.int .i64 v) ∧ w' = w) ∧ X = ((p1 : Int) - (j : Int)) + (v : Int))) ∨ (∃ (k3 k4 : Nat) (d1 : j < s.size), (s[j]'d1).toNat = 69 ∧ j + 1 = k3 ∧ (∃ d4 : k3 < s.size, (s[k3]'d4).toNat = 45 ∧ k3 + 1 = k4) ∧ k4 < s.size ∧ Hid (∀ w, Calls Tryd.prog 13 #[.string s, .int .i64 k4] w fun e w' => e = .returned (.int .i64 s.size) ∧ w' = w) ∧ (∃ (q : ByteArray) (v : Nat), s.extract k4 s.size = q ∧ v ≤ 1000000000 ∧ Hid (∀ w, Calls Tryd.prog 14 #[.string q] w fun e w' => e = .returned (.int .i64 v) ∧ w' = w) ∧ X = ((p1 : Int) - (j : Int)) + -(v : Int))) ∨ (∃ (k3 k4 : Nat) (d1 : j < s.size), (s[j]'d1).toNat = 69 ∧ j + 1 = k3 ∧ (∃ d4 : k3 < s.size, (s[k3]'d4).toNat = 43 ∧ k3 + 1 = k4) ∧ k4 < s.size ∧ Hid (∀ w, Calls Tryd.prog 13 #[.string s, .int .i64 k4] w fun e w' => e = .returned (.int .i64 s.size) ∧ w' = w) ∧ (∃ (q : ByteArray) (v : Nat), s.extract k4 s.size = q ∧ v ≤ 1000000000 ∧ Hid (∀ w, Calls Tryd.prog 14 #[.string q] w fun e w' => e = .returned (.int .i64 v) ∧ w' = w) ∧ X = ((p1 : Int) - (j : Int)) + (v : Int))) ∨ (∃ (k3 k4 : Nat) (d1 : j < s.size), (s[j]'d1).toNat = 69 ∧ j + 1 = k3 ∧ (∃ d4 : k3 < s.size, ((s[k3]'d4).toNat ≠ 45 ∧ (s[k3]'d4).toNat ≠ 43) ∧ k3 = k4) ∧ k4 < s.size ∧ Hid (∀ w, Calls Tryd.prog 13 #[.string s, .int .i64 k4] w fun e w' => e = .returned (.int .i64 s.size) ∧ w' = w) ∧ (∃ (q : ByteArray) (v : Nat), s.extract k4 s.size = q ∧ v ≤ 1000000000 ∧ Hid (∀ w, Calls Tryd.prog 14 #[.string q] w fun e w' => e = .returned (.int .i64 v) ∧ w' = w) ∧ X = ((p1 : Int) - (j : Int)) + (v : Int))))) (HM : Hid (∀ w, Calls Tryd.prog 15 #[.bool true, .string (a ++ f), .int .i64 X] w fun e w' => e = .returned (.tuple #[.agg #[.bool R1, .string R2, .int .i64 R3], .int .i64 R4]) ∧ Below w.heap.size w w')) : Calls Tryd.prog 6 #[.string s] w fun e w' => e = .returned (.tuple #[.agg #[.bool R1, .string R2, .int .i64 R3], .int .i64 R4]) ∧ Below w.heap.size w w' := by
  have HCC := Lib.hid (DC.new w false ⟨#[]⟩ 0)
  have z1 : (0 : Int) < s.size := by omega
  have z2 : (1 : Int) < s.size := by omega
  have z3 : 1 < s.size := by omega
  have z4 : ((k1 : Int) == 1) = false := by rw [beq_eq_false_iff_ne]; omega
  have z5 : (1 : Int) ≤ k1 := by omega
  have z6 : (k1 : Int) ≤ s.size := by omega
  have z7 : (0 : Int) ≤ k1 := by omega
  have b0 : ((s[0].toNat : Int) == 45) = true := by rw [beq_iff_eq]; omega
  have b1 : ((s[1].toNat : Int) == 48) = true := by have := hw z3; rw [beq_iff_eq]; omega
  have b2 : ¬ (2 : Int) < k1 := by omega
  have f1 : (k1 : Int) < s.size := by omega
  have f2 : ((s[k1].toNat : Int) == 46) = true := by have := hfk hfs; rw [beq_iff_eq]; omega
  have f3 : IntKind.i64.wrap ((k1 : Int) + 1) = (p1 : Int) := by rw [show (k1 : Int) + 1 = (p1 : Int) by omega]; exact IntWalk.i64_in _ (by omega)
  have f4 : ((j : Int) == (p1 : Int)) = false := by rw [beq_eq_false_iff_ne]; omega
  have f5 : (p1 : Int) ≤ j := by omega
  have f6 : (j : Int) ≤ s.size := by omega
  have f7 : (0 : Int) ≤ p1 := by omega
  have f8 : (0 : Int) ≤ j := by omega
  obtain ⟨E, hE⟩ : ∃ E : Int, (p1 : Int) - (j : Int) = E := ⟨_, rfl⟩
  have f9 : IntKind.i64.wrap ((p1 : Int) - (j : Int)) = E := by rw [hE]; exact IntWalk.i64_in _ (by omega)
  have hEb : -1000 ≤ E ∧ E ≤ 0 := by omega
  have g1 : ¬ 9223372036854775807 < a.size + f.size := by omega
  have g2 : a.size + f.size ≤ 9223372036854775807 := by omega
  rw [hE] at HW
  clear hw hwk hfk
  go_enter Tryd.func6, Tryd.ntmps6
  go_upto_region 17 with (go_at_call 13; first | ((with_reducible refine (HR1.out _).mono ?_); rintro e w1 ⟨rfl, rfl⟩) | ((with_reducible refine (HR2.out _).mono ?_); rintro e w1 ⟨rfl, rfl⟩))
  rcases HW.out with ⟨d1, rfl⟩ | ⟨k3, k4, d1, d2, d3, ⟨d4, d5, d6⟩, e1, HR3, q, v, e2, e3, HP, rfl⟩ | ⟨k3, k4, d1, d2, d3, ⟨d4, d5, d6⟩, e1, HR3, q, v, e2, e3, HP, rfl⟩ | ⟨k3, k4, d1, d2, d3, ⟨d4, ⟨d5, d5b⟩, rfl⟩, e1, HR3, q, v, e2, e3, HP, rfl⟩ | ⟨k3, k4, d1, d2, d3, ⟨d4, d5, d6⟩, e1, HR3, q, v, e2, e3, HP, rfl⟩ | ⟨k3, k4, d1, d2, d3, ⟨d4, d5, d6⟩, e1, HR3, q, v, e2, e3, HP, rfl⟩ | ⟨k3, k4, d1, d2, d3, ⟨d4, ⟨d5, d5b⟩, rfl⟩, e1, HR3, q, v, e2, e3, HP, rfl⟩
  · have n1 : ¬ (j : Int) < s.size := by omega
    clear HW d1
    go_wp2_with (first | (go_at_call 13; first | ((with_reducible refine (HR1.out _).mono ?_); rintro e w1 ⟨rfl, rfl⟩) | ((with_reducible refine (HR2.out _).mono ?_); rintro e w1 ⟨rfl, rfl⟩) | fail) | (go_at_call 15; (with_reducible refine (HM.out _).mono ?_); rintro e w1 ⟨rfl, hb⟩; have X := HCC.out.below hb HCC.out.lt; obtain ⟨x0, x1, x2⟩ := X.cells; have y0 := X.fz 0; have y1 := X.fz 1; have y2 := X.fz 2; have bl : Below w.heap.size w w1 := ((Below.refl _ _).alloc (Nat.le_refl _) _).trans (hb.mono (by simp)); clear hb))
    exact bodyPost_ret (v := .tuple #[.agg #[.bool R1, .string R2, .int .i64 R3], .int .i64 R4]) (by simp [results, Tryd.results6, go_sem, x0, x1, x2]) rfl ⟨rfl, ((bl.setCell (by simp) _).setCell (by simp) _).setCell (by simp) _⟩
  · have n1 : (j : Int) < s.size := by omega
    have n2 : ((s[j].toNat : Int) == 101) = true := by rw [beq_iff_eq]; omega
    have n4 : IntKind.i64.wrap ((j : Int) + 1) = (k3 : Int) := by rw [show (j : Int) + 1 = (k3 : Int) by omega]; exact IntWalk.i64_in _ (by omega)
    have n5 : (k3 : Int) < s.size := by omega
    have n6 : ((s[k3].toNat : Int) == 45) = true := by rw [beq_iff_eq]; omega
    have n8 : IntKind.i64.wrap ((k3 : Int) + 1) = (k4 : Int) := by rw [show (k3 : Int) + 1 = (k4 : Int) by omega]; exact IntWalk.i64_in _ (by omega)
    have u1 : ((s.size : Int) == (k4 : Int)) = false := by rw [beq_eq_false_iff_ne]; omega
    have u2 : (k4 : Int) ≤ s.size := by omega
    have u3 : (s.size : Int) ≤ s.size := by omega
    have u4 : (0 : Int) ≤ k4 := by omega
    have u5 : (0 : Int) ≤ s.size := by omega
    have v1 : IntKind.i64.wrap (-(v : Int)) = -(v : Int) := IntWalk.i64_in _ (by omega)
    have v2 : IntKind.i64.wrap (E + -(v : Int)) = E + -(v : Int) := IntWalk.i64_in _ (by omega)
    clear HW d2 d3 d5 d6
    go_wp2_with (first | (go_at_call 13; first | ((with_reducible refine (HR1.out _).mono ?_); rintro e w1 ⟨rfl, rfl⟩) | ((with_reducible refine (HR2.out _).mono ?_); rintro e w1 ⟨rfl, rfl⟩) | ((with_reducible refine (HR3.out _).mono ?_); rintro e w1 ⟨rfl, rfl⟩)) | (go_at_call 14; ((with_reducible refine (HP.out _).mono ?_); rintro e w1 ⟨rfl, rfl⟩)) | (go_at_call 15; (with_reducible refine (HM.out _).mono ?_); rintro e w1 ⟨rfl, hb⟩; have X := HCC.out.below hb HCC.out.lt; obtain ⟨x0, x1, x2⟩ := X.cells; have y0 := X.fz 0; have y1 := X.fz 1; have y2 := X.fz 2; have bl : Below w.heap.size w w1 := ((Below.refl _ _).alloc (Nat.le_refl _) _).trans (hb.mono (by simp)); clear hb))
    exact bodyPost_ret (v := .tuple #[.agg #[.bool R1, .string R2, .int .i64 R3], .int .i64 R4]) (by simp [results, Tryd.results6, go_sem, x0, x1, x2]) rfl ⟨rfl, ((bl.setCell (by simp) _).setCell (by simp) _).setCell (by simp) _⟩
  · have n1 : (j : Int) < s.size := by omega
    have n2 : ((s[j].toNat : Int) == 101) = true := by rw [beq_iff_eq]; omega
    have n4 : IntKind.i64.wrap ((j : Int) + 1) = (k3 : Int) := by rw [show (j : Int) + 1 = (k3 : Int) by omega]; exact IntWalk.i64_in _ (by omega)
    have n5 : (k3 : Int) < s.size := by omega
    have n6 : ((s[k3].toNat : Int) == 45) = false := by rw [beq_eq_false_iff_ne]; omega
    have n7 : ((s[k3].toNat : Int) == 43) = true := by rw [beq_iff_eq]; omega
    have n8 : IntKind.i64.wrap ((k3 : Int) + 1) = (k4 : Int) := by rw [show (k3 : Int) + 1 = (k4 : Int) by omega]; exact IntWalk.i64_in _ (by omega)
    have u1 : ((s.size : Int) == (k4 : Int)) = false := by rw [beq_eq_false_iff_ne]; omega
    have u2 : (k4 : Int) ≤ s.size := by omega
    have u3 : (s.size : Int) ≤ s.size := by omega
    have u4 : (0 : Int) ≤ k4 := by omega
    have u5 : (0 : Int) ≤ s.size := by omega
    have v2 : IntKind.i64.wrap (E + (v : Int)) = E + (v : Int) := IntWalk.i64_in _ (by omega)
    clear HW d2 d3 d5 d6
    go_wp2_with (first | (go_at_call 13; first | ((with_reducible refine (HR1.out _).mono ?_); rintro e w1 ⟨rfl, rfl⟩) | ((with_reducible refine (HR2.out _).mono ?_); rintro e w1 ⟨rfl, rfl⟩) | ((with_reducible refine (HR3.out _).mono ?_); rintro e w1 ⟨rfl, rfl⟩)) | (go_at_call 14; ((with_reducible refine (HP.out _).mono ?_); rintro e w1 ⟨rfl, rfl⟩)) | (go_at_call 15; (with_reducible refine (HM.out _).mono ?_); rintro e w1 ⟨rfl, hb⟩; have X := HCC.out.below hb HCC.out.lt; obtain ⟨x0, x1, x2⟩ := X.cells; have y0 := X.fz 0; have y1 := X.fz 1; have y2 := X.fz 2; have bl : Below w.heap.size w w1 := ((Below.refl _ _).alloc (Nat.le_refl _) _).trans (hb.mono (by simp)); clear hb))
    exact bodyPost_ret (v := .tuple #[.agg #[.bool R1, .string R2, .int .i64 R3], .int .i64 R4]) (by simp [results, Tryd.results6, go_sem, x0, x1, x2]) rfl ⟨rfl, ((bl.setCell (by simp) _).setCell (by simp) _).setCell (by simp) _⟩
  · have n1 : (j : Int) < s.size := by omega
    have n2 : ((s[j].toNat : Int) == 101) = true := by rw [beq_iff_eq]; omega
    have n4 : IntKind.i64.wrap ((j : Int) + 1) = (k3 : Int) := by rw [show (j : Int) + 1 = (k3 : Int) by omega]; exact IntWalk.i64_in _ (by omega)
    have n5 : (k3 : Int) < s.size := by omega
    have n6 : ((s[k3].toNat : Int) == 45) = false := by rw [beq_eq_false_iff_ne]; omega
    have n7 : ((s[k3].toNat : Int) == 43) = false := by rw [beq_eq_false_iff_ne]; omega
    have u1 : ((s.size : Int) == (k3 : Int)) = false := by rw [beq_eq_false_iff_ne]; omega
    have u2 : (k3 : Int) ≤ s.size := by omega
    have u3 : (s.size : Int) ≤ s.size := by omega
    have u4 : (0 : Int) ≤ k3 := by omega
    have u5 : (0 : Int) ≤ s.size := by omega
    have v2 : IntKind.i64.wrap (E + (v : Int)) = E + (v : Int) := IntWalk.i64_in _ (by omega)
    clear HW d2 d3 d5 d5b
    go_wp2_with (first | (go_at_call 13; first | ((with_reducible refine (HR1.out _).mono ?_); rintro e w1 ⟨rfl, rfl⟩) | ((with_reducible refine (HR2.out _).mono ?_); rintro e w1 ⟨rfl, rfl⟩) | ((with_reducible refine (HR3.out _).mono ?_); rintro e w1 ⟨rfl, rfl⟩)) | (go_at_call 14; ((with_reducible refine (HP.out _).mono ?_); rintro e w1 ⟨rfl, rfl⟩)) | (go_at_call 15; (with_reducible refine (HM.out _).mono ?_); rintro e w1 ⟨rfl, hb⟩; have X := HCC.out.below hb HCC.out.lt; obtain ⟨x0, x1, x2⟩ := X.cells; have y0 := X.fz 0; have y1 := X.fz 1; have y2 := X.fz 2; have bl : Below w.heap.size w w1 := ((Below.refl _ _).alloc (Nat.le_refl _) _).trans (hb.mono (by simp)); clear hb))
    exact bodyPost_ret (v := .tuple #[.agg #[.bool R1, .string R2, .int .i64 R3], .int .i64 R4]) (by simp [results, Tryd.results6, go_sem, x0, x1, x2]) rfl ⟨rfl, ((bl.setCell (by simp) _).setCell (by simp) _).setCell (by simp) _⟩
  · have n1 : (j : Int) < s.size := by omega
    have n2 : ((s[j].toNat : Int) == 101) = false := by rw [beq_eq_false_iff_ne]; omega
    have n3 : ((s[j].toNat : Int) == 69) = true := by rw [beq_iff_eq]; omega
    have n4 : IntKind.i64.wrap ((j : Int) + 1) = (k3 : Int) := by rw [show (j : Int) + 1 = (k3 : Int) by omega]; exact IntWalk.i64_in _ (by omega)
    have n5 : (k3 : Int) < s.size := by omega
    have n6 : ((s[k3].toNat : Int) == 45) = true := by rw [beq_iff_eq]; omega
    have n8 : IntKind.i64.wrap ((k3 : Int) + 1) = (k4 : Int) := by rw [show (k3 : Int) + 1 = (k4 : Int) by omega]; exact IntWalk.i64_in _ (by omega)
    have u1 : ((s.size : Int) == (k4 : Int)) = false := by rw [beq_eq_false_iff_ne]; omega
    have u2 : (k4 : Int) ≤ s.size := by omega
    have u3 : (s.size : Int) ≤ s.size := by omega
    have u4 : (0 : Int) ≤ k4 := by omega
    have u5 : (0 : Int) ≤ s.size := by omega
    have v1 : IntKind.i64.wrap (-(v : Int)) = -(v : Int) := IntWalk.i64_in _ (by omega)
    have v2 : IntKind.i64.wrap (E + -(v : Int)) = E + -(v : Int) := IntWalk.i64_in _ (by omega)
    clear HW d2 d3 d5 d6
    go_wp2_with (first | (go_at_call 13; first | ((with_reducible refine (HR1.out _).mono ?_); rintro e w1 ⟨rfl, rfl⟩) | ((with_reducible refine (HR2.out _).mono ?_); rintro e w1 ⟨rfl, rfl⟩) | ((with_reducible refine (HR3.out _).mono ?_); rintro e w1 ⟨rfl, rfl⟩)) | (go_at_call 14; ((with_reducible refine (HP.out _).mono ?_); rintro e w1 ⟨rfl, rfl⟩)) | (go_at_call 15; (with_reducible refine (HM.out _).mono ?_); rintro e w1 ⟨rfl, hb⟩; have X := HCC.out.below hb HCC.out.lt; obtain ⟨x0, x1, x2⟩ := X.cells; have y0 := X.fz 0; have y1 := X.fz 1; have y2 := X.fz 2; have bl : Below w.heap.size w w1 := ((Below.refl _ _).alloc (Nat.le_refl _) _).trans (hb.mono (by simp)); clear hb))
    exact bodyPost_ret (v := .tuple #[.agg #[.bool R1, .string R2, .int .i64 R3], .int .i64 R4]) (by simp [results, Tryd.results6, go_sem, x0, x1, x2]) rfl ⟨rfl, ((bl.setCell (by simp) _).setCell (by simp) _).setCell (by simp) _⟩
  · have n1 : (j : Int) < s.size := by omega
    have n2 : ((s[j].toNat : Int) == 101) = false := by rw [beq_eq_false_iff_ne]; omega
    have n3 : ((s[j].toNat : Int) == 69) = true := by rw [beq_iff_eq]; omega
    have n4 : IntKind.i64.wrap ((j : Int) + 1) = (k3 : Int) := by rw [show (j : Int) + 1 = (k3 : Int) by omega]; exact IntWalk.i64_in _ (by omega)
    have n5 : (k3 : Int) < s.size := by omega
    have n6 : ((s[k3].toNat : Int) == 45) = false := by rw [beq_eq_false_iff_ne]; omega
    have n7 : ((s[k3].toNat : Int) == 43) = true := by rw [beq_iff_eq]; omega
    have n8 : IntKind.i64.wrap ((k3 : Int) + 1) = (k4 : Int) := by rw [show (k3 : Int) + 1 = (k4 : Int) by omega]; exact IntWalk.i64_in _ (by omega)
    have u1 : ((s.size : Int) == (k4 : Int)) = false := by rw [beq_eq_false_iff_ne]; omega
    have u2 : (k4 : Int) ≤ s.size := by omega
    have u3 : (s.size : Int) ≤ s.size := by omega
    have u4 : (0 : Int) ≤ k4 := by omega
    have u5 : (0 : Int) ≤ s.size := by omega
    have v2 : IntKind.i64.wrap (E + (v : Int)) = E + (v : Int) := IntWalk.i64_in _ (by omega)
    clear HW d2 d3 d5 d6
    go_wp2_with (first | (go_at_call 13; first | ((with_reducible refine (HR1.out _).mono ?_); rintro e w1 ⟨rfl, rfl⟩) | ((with_reducible refine (HR2.out _).mono ?_); rintro e w1 ⟨rfl, rfl⟩) | ((with_reducible refine (HR3.out _).mono ?_); rintro e w1 ⟨rfl, rfl⟩)) | (go_at_call 14; ((with_reducible refine (HP.out _).mono ?_); rintro e w1 ⟨rfl, rfl⟩)) | (go_at_call 15; (with_reducible refine (HM.out _).mono ?_); rintro e w1 ⟨rfl, hb⟩; have X := HCC.out.below hb HCC.out.lt; obtain ⟨x0, x1, x2⟩ := X.cells; have y0 := X.fz 0; have y1 := X.fz 1; have y2 := X.fz 2; have bl : Below w.heap.size w w1 := ((Below.refl _ _).alloc (Nat.le_refl _) _).trans (hb.mono (by simp)); clear hb))
    exact bodyPost_ret (v := .tuple #[.agg #[.bool R1, .string R2, .int .i64 R3], .int .i64 R4]) (by simp [results, Tryd.results6, go_sem, x0, x1, x2]) rfl ⟨rfl, ((bl.setCell (by simp) _).setCell (by simp) _).setCell (by simp) _⟩
  · have n1 : (j : Int) < s.size := by omega
    have n2 : ((s[j].toNat : Int) == 101) = false := by rw [beq_eq_false_iff_ne]; omega
    have n3 : ((s[j].toNat : Int) == 69) = true := by rw [beq_iff_eq]; omega
    have n4 : IntKind.i64.wrap ((j : Int) + 1) = (k3 : Int) := by rw [show (j : Int) + 1 = (k3 : Int) by omega]; exact IntWalk.i64_in _ (by omega)
    have n5 : (k3 : Int) < s.size := by omega
    have n6 : ((s[k3].toNat : Int) == 45) = false := by rw [beq_eq_false_iff_ne]; omega
    have n7 : ((s[k3].toNat : Int) == 43) = false := by rw [beq_eq_false_iff_ne]; omega
    have u1 : ((s.size : Int) == (k3 : Int)) = false := by rw [beq_eq_false_iff_ne]; omega
    have u2 : (k3 : Int) ≤ s.size := by omega
    have u3 : (s.size : Int) ≤ s.size := by omega
    have u4 : (0 : Int) ≤ k3 := by omega
    have u5 : (0 : Int) ≤ s.size := by omega
    have v2 : IntKind.i64.wrap (E + (v : Int)) = E + (v : Int) := IntWalk.i64_in _ (by omega)
    clear HW d2 d3 d5 d5b
    go_wp2_with (first | (go_at_call 13; first | ((with_reducible refine (HR1.out _).mono ?_); rintro e w1 ⟨rfl, rfl⟩) | ((with_reducible refine (HR2.out _).mono ?_); rintro e w1 ⟨rfl, rfl⟩) | ((with_reducible refine (HR3.out _).mono ?_); rintro e w1 ⟨rfl, rfl⟩)) | (go_at_call 14; ((with_reducible refine (HP.out _).mono ?_); rintro e w1 ⟨rfl, rfl⟩)) | (go_at_call 15; (with_reducible refine (HM.out _).mono ?_); rintro e w1 ⟨rfl, hb⟩; have X := HCC.out.below hb HCC.out.lt; obtain ⟨x0, x1, x2⟩ := X.cells; have y0 := X.fz 0; have y1 := X.fz 1; have y2 := X.fz 2; have bl : Below w.heap.size w w1 := ((Below.refl _ _).alloc (Nat.le_refl _) _).trans (hb.mono (by simp)); clear hb))
    exact bodyPost_ret (v := .tuple #[.agg #[.bool R1, .string R2, .int .i64 R3], .int .i64 R4]) (by simp [results, Tryd.results6, go_sem, x0, x1, x2]) rfl ⟨rfl, ((bl.setCell (by simp) _).setCell (by simp) _).setCell (by simp) _⟩
set_option maxRecDepth 100000 in
set_option maxHeartbeats 8000000 in
theorem rp_mz1_er (s a : ByteArray) (k1 : Nat) (w : World) (hs : s.size ≤ 1000) (h0 : 0 < s.size) (hg : (s[0]).toNat = 45) (hi : 1 < k1) (hk : k1 ≤ s.size) (HR1 : Hid (∀ w, Calls Tryd.prog 13 #[.string s, .int .i64 1] w fun e w' => e = .returned (.int .i64 k1) ∧ w' = w)) (ha : s.extract 1 k1 = a) (has : a.size ≤ 1000) (hw : ∀ hh : 1 < s.size, (s[1]).toNat = 48) (hwk : k1 = 2) (f : ByteArray) (j p1 : Nat) (hp1 : k1 + 1 = p1) (hfk : ∀ hh : k1 < s.size, (s[k1]'hh).toNat = 46) (hfs : k1 < s.size) (hj : p1 < j) (hjs : j ≤ s.size) (HR2 : Hid (∀ w, Calls Tryd.prog 13 #[.string s, .int .i64 p1] w fun e w' => e = .returned (.int .i64 j) ∧ w' = w)) (hf : s.extract p1 j = f) (hfz : f.size ≤ 1000) (HW : Hid ((∃ d1 : j < s.size, (s[j]'d1).toNat ≠ 101 ∧ (s[j]'d1).toNat ≠ 69) ∨ (∃ (k3 k4 : Nat) (d1 : j < s.size), (s[j]'d1).toNat = 101 ∧ j + 1 = k3 ∧ (∃ d4 : k3 < s.size, (s[k3]'d4).toNat = 45 ∧ k3 + 1 = k4) ∧ (∃ j3 : Nat, k4 < j3 ∧ j3 < s.size ∧ Hid (∀ w, Calls Tryd.prog 13 #[.string s, .int .i64 k4] w fun e w' => e = .returned (.int .i64 j3) ∧ w' = w) ∧ (∃ (q : ByteArray) (v : Nat), s.extract k4 j3 = q ∧ v ≤ 1000000000 ∧ Hid (∀ w, Calls Tryd.prog 14 #[.string q] w fun e w' => e = .returned (.int .i64 v) ∧ w' = w)))) ∨ (∃ (k3 k4 : Nat) (d1 : j < s.size), (s[j]'d1).toNat = 101 ∧ j + 1 = k3 ∧ (∃ d4 : k3 < s.size, (s[k3]'d4).toNat = 45 ∧ k3 + 1 = k4) ∧ Hid (∀ w, Calls Tryd.prog 13 #[.string s, .int .i64 k4] w fun e w' => e = .returned (.int .i64 k4) ∧ w' = w)) ∨ (∃ (k3 k4 : Nat) (d1 : j < s.size), (s[j]'d1).toNat = 101 ∧ j + 1 = k3 ∧ (∃ d4 : k3 < s.size, (s[k3]'d4).toNat = 43 ∧ k3 + 1 = k4) ∧ (∃ j3 : Nat, k4 < j3 ∧ j3 < s.size ∧ Hid (∀ w, Calls Tryd.prog 13 #[.string s, .int .i64 k4] w fun e w' => e = .returned (.int .i64 j3) ∧ w' = w) ∧ (∃ (q : ByteArray) (v : Nat), s.extract k4 j3 = q ∧ v ≤ 1000000000 ∧ Hid (∀ w, Calls Tryd.prog 14 #[.string q] w fun e w' => e = .returned (.int .i64 v) ∧ w' = w)))) ∨ (∃ (k3 k4 : Nat) (d1 : j < s.size), (s[j]'d1).toNat = 101 ∧ j + 1 = k3 ∧ (∃ d4 : k3 < s.size, (s[k3]'d4).toNat = 43 ∧ k3 + 1 = k4) ∧ Hid (∀ w, Calls Tryd.prog 13 #[.string s, .int .i64 k4] w fun e w' => e = .returned (.int .i64 k4) ∧ w' = w)) ∨ (∃ (k3 k4 : Nat) (d1 : j < s.size), (s[j]'d1).toNat = 101 ∧ j + 1 = k3 ∧ (∃ d4 : k3 < s.size, ((s[k3]'d4).toNat ≠ 45 ∧ (s[k3]'d4).toNat ≠ 43) ∧ k3 = k4) ∧ (∃ j3 : Nat, k4 < j3 ∧ j3 < s.size ∧ Hid (∀ w, Calls Tryd.prog 13 #[.string s, .int .i64 k4] w fun e w' => e = .returned (.int .i64 j3) ∧ w' = w) ∧ (∃ (q : ByteArray) (v : Nat), s.extract k4 j3 = q ∧ v ≤ 1000000000 ∧ Hid (∀ w, Calls Tryd.prog 14 #[.string q] w fun e w' => e = .returned (.int .i64 v) ∧ w' = w)))) ∨ (∃ (k3 k4 : Nat) (d1 : j < s.size), (s[j]'d1).toNat = 101 ∧ j + 1 = k3 ∧ (∃ d4 : k3 < s.size, ((s[k3]'d4).toNat ≠ 45 ∧ (s[k3]'d4).toNat ≠ 43) ∧ k3 = k4) ∧ Hid (∀ w, Calls Tryd.prog 13 #[.string s, .int .i64 k4] w fun e w' => e = .returned (.int .i64 k4) ∧ w' = w)) ∨ (∃ (k3 : Nat) (d1 : j < s.size), (s[j]'d1).toNat = 101 ∧ j + 1 = k3 ∧ k3 = s.size ∧ Hid (∀ w, Calls Tryd.prog 13 #[.string s, .int .i64 k3] w fun e w' => e = .returned (.int .i64 k3) ∧ w' = w)) ∨ (∃ (k3 k4 : Nat) (d1 : j < s.size), (s[j]'d1).toNat = 69 ∧ j + 1 = k3 ∧ (∃ d4 : k3 < s.size, (s[k3]'d4).toNat = 45 ∧ k3 + 1 = k4) ∧ (∃ j3 : Nat, k4 < j3 ∧ j3 < s.size ∧ Hid (∀ w, Calls Tryd.prog 13 #[.string s, .int .i64 k4] w fun e w' => e = .returned (.int .i64 j3) ∧ w' = w) ∧ (∃ (q : ByteArray) (v : Nat), s.extract k4 j3 = q ∧ v ≤ 1000000000 ∧ Hid (∀ w, Calls Tryd.prog 14 #[.string q] w fun e w' => e = .returned (.int .i64 v) ∧ w' = w)))) ∨ (∃ (k3 k4 : Nat) (d1 : j < s.size), (s[j]'d1).toNat = 69 ∧ j + 1 = k3 ∧ (∃ d4 : k3 < s.size, (s[k3]'d4).toNat = 45 ∧ k3 + 1 = k4) ∧ Hid (∀ w, Calls Tryd.prog 13 #[.string s, .int .i64 k4] w fun e w' => e = .returned (.int .i64 k4) ∧ w' = w)) ∨ (∃ (k3 k4 : Nat) (d1 : j < s.size), (s[j]'d1).toNat = 69 ∧ j + 1 = k3 ∧ (∃ d4 : k3 < s.size, (s[k3]'d4).toNat = 43 ∧ k3 + 1 = k4) ∧ (∃ j3 : Nat, k4 < j3 ∧ j3 < s.size ∧ Hid (∀ w, Calls Tryd.prog 13 #[.string s, .int .i64 k4] w fun e w' => e = .returned (.int .i64 j3) ∧ w' = w) ∧ (∃ (q : ByteArray) (v : Nat), s.extract k4 j3 = q ∧ v ≤ 1000000000 ∧ Hid (∀ w, Calls Tryd.prog 14 #[.string q] w fun e w' => e = .returned (.int .i64 v) ∧ w' = w)))) ∨ (∃ (k3 k4 : Nat) (d1 : j < s.size), (s[j]'d1).toNat = 69 ∧ j + 1 = k3 ∧ (∃ d4 : k3 < s.size, (s[k3]'d4).toNat = 43 ∧ k3 + 1 = k4) ∧ Hid (∀ w, Calls Tryd.prog 13 #[.string s, .int .i64 k4] w fun e w' => e = .returned (.int .i64 k4) ∧ w' = w)) ∨ (∃ (k3 k4 : Nat) (d1 : j < s.size), (s[j]'d1).toNat = 69 ∧ j + 1 = k3 ∧ (∃ d4 : k3 < s.size, ((s[k3]'d4).toNat ≠ 45 ∧ (s[k3]'d4).toNat ≠ 43) ∧ k3 = k4) ∧ (∃ j3 : Nat, k4 < j3 ∧ j3 < s.size ∧ Hid (∀ w, Calls Tryd.prog 13 #[.string s, .int .i64 k4] w fun e w' => e = .returned (.int .i64 j3) ∧ w' = w) ∧ (∃ (q : ByteArray) (v : Nat), s.extract k4 j3 = q ∧ v ≤ 1000000000 ∧ Hid (∀ w, Calls Tryd.prog 14 #[.string q] w fun e w' => e = .returned (.int .i64 v) ∧ w' = w)))) ∨ (∃ (k3 k4 : Nat) (d1 : j < s.size), (s[j]'d1).toNat = 69 ∧ j + 1 = k3 ∧ (∃ d4 : k3 < s.size, ((s[k3]'d4).toNat ≠ 45 ∧ (s[k3]'d4).toNat ≠ 43) ∧ k3 = k4) ∧ Hid (∀ w, Calls Tryd.prog 13 #[.string s, .int .i64 k4] w fun e w' => e = .returned (.int .i64 k4) ∧ w' = w)) ∨ (∃ (k3 : Nat) (d1 : j < s.size), (s[j]'d1).toNat = 69 ∧ j + 1 = k3 ∧ k3 = s.size ∧ Hid (∀ w, Calls Tryd.prog 13 #[.string s, .int .i64 k3] w fun e w' => e = .returned (.int .i64 k3) ∧ w' = w)))) : Calls Tryd.prog 6 #[.string s] w fun e w' => e = .returned (.tuple #[.agg #[.bool false, .string ⟨#[]⟩, .int .i64 0], .int .i64 3]) ∧ Below w.heap.size w w' := by
  have HCC := Lib.hid (DC.new w false ⟨#[]⟩ 0)
  have z1 : (0 : Int) < s.size := by omega
  have z2 : (1 : Int) < s.size := by omega
  have z3 : 1 < s.size := by omega
  have z4 : ((k1 : Int) == 1) = false := by rw [beq_eq_false_iff_ne]; omega
  have z5 : (1 : Int) ≤ k1 := by omega
  have z6 : (k1 : Int) ≤ s.size := by omega
  have z7 : (0 : Int) ≤ k1 := by omega
  have b0 : ((s[0].toNat : Int) == 45) = true := by rw [beq_iff_eq]; omega
  have b1 : ((s[1].toNat : Int) == 48) = true := by have := hw z3; rw [beq_iff_eq]; omega
  have b2 : ¬ (2 : Int) < k1 := by omega
  have f1 : (k1 : Int) < s.size := by omega
  have f2 : ((s[k1].toNat : Int) == 46) = true := by have := hfk hfs; rw [beq_iff_eq]; omega
  have f3 : IntKind.i64.wrap ((k1 : Int) + 1) = (p1 : Int) := by rw [show (k1 : Int) + 1 = (p1 : Int) by omega]; exact IntWalk.i64_in _ (by omega)
  have f4 : ((j : Int) == (p1 : Int)) = false := by rw [beq_eq_false_iff_ne]; omega
  have f5 : (p1 : Int) ≤ j := by omega
  have f6 : (j : Int) ≤ s.size := by omega
  have f7 : (0 : Int) ≤ p1 := by omega
  have f8 : (0 : Int) ≤ j := by omega
  obtain ⟨E, hE⟩ : ∃ E : Int, (p1 : Int) - (j : Int) = E := ⟨_, rfl⟩
  have f9 : IntKind.i64.wrap ((p1 : Int) - (j : Int)) = E := by rw [hE]; exact IntWalk.i64_in _ (by omega)
  have hEb : -1000 ≤ E ∧ E ≤ 0 := by omega
  have g1 : ¬ 9223372036854775807 < a.size + f.size := by omega
  have g2 : a.size + f.size ≤ 9223372036854775807 := by omega
  clear hw hwk hfk
  go_enter Tryd.func6, Tryd.ntmps6
  go_upto_region 17 with (go_at_call 13; first | ((with_reducible refine (HR1.out _).mono ?_); rintro e w1 ⟨rfl, rfl⟩) | ((with_reducible refine (HR2.out _).mono ?_); rintro e w1 ⟨rfl, rfl⟩))
  rcases HW.out with ⟨d1, d2, d3⟩ | ⟨k3, k4, d1, d2, d3, ⟨d4, d5, d6⟩, j3, e0, e1, HR3, q, v, e2, e3, HP⟩ | ⟨k3, k4, d1, d2, d3, ⟨d4, d5, d6⟩, HR3⟩ | ⟨k3, k4, d1, d2, d3, ⟨d4, d5, d6⟩, j3, e0, e1, HR3, q, v, e2, e3, HP⟩ | ⟨k3, k4, d1, d2, d3, ⟨d4, d5, d6⟩, HR3⟩ | ⟨k3, k4, d1, d2, d3, ⟨d4, ⟨d5, d5b⟩, rfl⟩, j3, e0, e1, HR3, q, v, e2, e3, HP⟩ | ⟨k3, k4, d1, d2, d3, ⟨d4, ⟨d5, d5b⟩, rfl⟩, HR3⟩ | ⟨k3, d1, d2, d3, d4, HR3⟩ | ⟨k3, k4, d1, d2, d3, ⟨d4, d5, d6⟩, j3, e0, e1, HR3, q, v, e2, e3, HP⟩ | ⟨k3, k4, d1, d2, d3, ⟨d4, d5, d6⟩, HR3⟩ | ⟨k3, k4, d1, d2, d3, ⟨d4, d5, d6⟩, j3, e0, e1, HR3, q, v, e2, e3, HP⟩ | ⟨k3, k4, d1, d2, d3, ⟨d4, d5, d6⟩, HR3⟩ | ⟨k3, k4, d1, d2, d3, ⟨d4, ⟨d5, d5b⟩, rfl⟩, j3, e0, e1, HR3, q, v, e2, e3, HP⟩ | ⟨k3, k4, d1, d2, d3, ⟨d4, ⟨d5, d5b⟩, rfl⟩, HR3⟩ | ⟨k3, d1, d2, d3, d4, HR3⟩
  · have n1 : (j : Int) < s.size := by omega
    have n2 : ((s[j].toNat : Int) == 101) = false := by rw [beq_eq_false_iff_ne]; omega
    have n3 : ((s[j].toNat : Int) == 69) = false := by rw [beq_eq_false_iff_ne]; omega
    clear HW d2 d3
    have x012 := (DC.new w false ⟨#[]⟩ 0).cells
    obtain ⟨x0, x1, x2⟩ := x012
    have y0 := (DC.new w false ⟨#[]⟩ 0).fz 0
    have y1 := (DC.new w false ⟨#[]⟩ 0).fz 1
    have y2 := (DC.new w false ⟨#[]⟩ 0).fz 2
    have bl : Below w.heap.size w (w.alloc (.cells #[.bool false, .string ⟨#[]⟩, .int .i64 0] 24)) := (Below.refl _ _).alloc (Nat.le_refl _) _
    go_wp2_with (first | (go_at_call 13; first | ((with_reducible refine (HR1.out _).mono ?_); rintro e w1 ⟨rfl, rfl⟩) | ((with_reducible refine (HR2.out _).mono ?_); rintro e w1 ⟨rfl, rfl⟩) | fail))
    exact bodyPost_ret (v := .tuple #[.agg #[.bool false, .string ⟨#[]⟩, .int .i64 0], .int .i64 3]) (by simp [results, Tryd.results6, go_sem, x0, x1, x2]) rfl ⟨rfl, bl⟩
  · have n1 : (j : Int) < s.size := by omega
    have n2 : ((s[j].toNat : Int) == 101) = true := by rw [beq_iff_eq]; omega
    have n4 : IntKind.i64.wrap ((j : Int) + 1) = (k3 : Int) := by rw [show (j : Int) + 1 = (k3 : Int) by omega]; exact IntWalk.i64_in _ (by omega)
    have n5 : (k3 : Int) < s.size := by omega
    have n6 : ((s[k3].toNat : Int) == 45) = true := by rw [beq_iff_eq]; omega
    have n8 : IntKind.i64.wrap ((k3 : Int) + 1) = (k4 : Int) := by rw [show (k3 : Int) + 1 = (k4 : Int) by omega]; exact IntWalk.i64_in _ (by omega)
    have u1 : ((j3 : Int) == (k4 : Int)) = false := by rw [beq_eq_false_iff_ne]; omega
    have u2 : (k4 : Int) ≤ j3 := by omega
    have u3 : (j3 : Int) ≤ s.size := by omega
    have u4 : (0 : Int) ≤ k4 := by omega
    have u5 : (0 : Int) ≤ j3 := by omega
    have v1 : IntKind.i64.wrap (-(v : Int)) = -(v : Int) := IntWalk.i64_in _ (by omega)
    have v2 : IntKind.i64.wrap (E + -(v : Int)) = E + -(v : Int) := IntWalk.i64_in _ (by omega)
    have u6 : (j3 : Int) < s.size := by omega
    clear HW d2 d3 d5 d6
    have x012 := (DC.new w false ⟨#[]⟩ 0).cells
    obtain ⟨x0, x1, x2⟩ := x012
    have y0 := (DC.new w false ⟨#[]⟩ 0).fz 0
    have y1 := (DC.new w false ⟨#[]⟩ 0).fz 1
    have y2 := (DC.new w false ⟨#[]⟩ 0).fz 2
    have bl : Below w.heap.size w (w.alloc (.cells #[.bool false, .string ⟨#[]⟩, .int .i64 0] 24)) := (Below.refl _ _).alloc (Nat.le_refl _) _
    go_wp2_with (first | (go_at_call 13; first | ((with_reducible refine (HR1.out _).mono ?_); rintro e w1 ⟨rfl, rfl⟩) | ((with_reducible refine (HR2.out _).mono ?_); rintro e w1 ⟨rfl, rfl⟩) | ((with_reducible refine (HR3.out _).mono ?_); rintro e w1 ⟨rfl, rfl⟩)) | (go_at_call 14; ((with_reducible refine (HP.out _).mono ?_); rintro e w1 ⟨rfl, rfl⟩)))
    exact bodyPost_ret (v := .tuple #[.agg #[.bool false, .string ⟨#[]⟩, .int .i64 0], .int .i64 3]) (by simp [results, Tryd.results6, go_sem, x0, x1, x2]) rfl ⟨rfl, bl⟩
  · have n1 : (j : Int) < s.size := by omega
    have n2 : ((s[j].toNat : Int) == 101) = true := by rw [beq_iff_eq]; omega
    have n4 : IntKind.i64.wrap ((j : Int) + 1) = (k3 : Int) := by rw [show (j : Int) + 1 = (k3 : Int) by omega]; exact IntWalk.i64_in _ (by omega)
    have n5 : (k3 : Int) < s.size := by omega
    have n6 : ((s[k3].toNat : Int) == 45) = true := by rw [beq_iff_eq]; omega
    have n8 : IntKind.i64.wrap ((k3 : Int) + 1) = (k4 : Int) := by rw [show (k3 : Int) + 1 = (k4 : Int) by omega]; exact IntWalk.i64_in _ (by omega)
    clear HW d2 d3 d5 d6
    have x012 := (DC.new w false ⟨#[]⟩ 0).cells
    obtain ⟨x0, x1, x2⟩ := x012
    have y0 := (DC.new w false ⟨#[]⟩ 0).fz 0
    have y1 := (DC.new w false ⟨#[]⟩ 0).fz 1
    have y2 := (DC.new w false ⟨#[]⟩ 0).fz 2
    have bl : Below w.heap.size w (w.alloc (.cells #[.bool false, .string ⟨#[]⟩, .int .i64 0] 24)) := (Below.refl _ _).alloc (Nat.le_refl _) _
    go_wp2_with (first | (go_at_call 13; first | ((with_reducible refine (HR1.out _).mono ?_); rintro e w1 ⟨rfl, rfl⟩) | ((with_reducible refine (HR2.out _).mono ?_); rintro e w1 ⟨rfl, rfl⟩) | ((with_reducible refine (HR3.out _).mono ?_); rintro e w1 ⟨rfl, rfl⟩)))
    exact bodyPost_ret (v := .tuple #[.agg #[.bool false, .string ⟨#[]⟩, .int .i64 0], .int .i64 3]) (by simp [results, Tryd.results6, go_sem, x0, x1, x2]) rfl ⟨rfl, bl⟩
  · have n1 : (j : Int) < s.size := by omega
    have n2 : ((s[j].toNat : Int) == 101) = true := by rw [beq_iff_eq]; omega
    have n4 : IntKind.i64.wrap ((j : Int) + 1) = (k3 : Int) := by rw [show (j : Int) + 1 = (k3 : Int) by omega]; exact IntWalk.i64_in _ (by omega)
    have n5 : (k3 : Int) < s.size := by omega
    have n6 : ((s[k3].toNat : Int) == 45) = false := by rw [beq_eq_false_iff_ne]; omega
    have n7 : ((s[k3].toNat : Int) == 43) = true := by rw [beq_iff_eq]; omega
    have n8 : IntKind.i64.wrap ((k3 : Int) + 1) = (k4 : Int) := by rw [show (k3 : Int) + 1 = (k4 : Int) by omega]; exact IntWalk.i64_in _ (by omega)
    have u1 : ((j3 : Int) == (k4 : Int)) = false := by rw [beq_eq_false_iff_ne]; omega
    have u2 : (k4 : Int) ≤ j3 := by omega
    have u3 : (j3 : Int) ≤ s.size := by omega
    have u4 : (0 : Int) ≤ k4 := by omega
    have u5 : (0 : Int) ≤ j3 := by omega
    have v2 : IntKind.i64.wrap (E + (v : Int)) = E + (v : Int) := IntWalk.i64_in _ (by omega)
    have u6 : (j3 : Int) < s.size := by omega
    clear HW d2 d3 d5 d6
    have x012 := (DC.new w false ⟨#[]⟩ 0).cells
    obtain ⟨x0, x1, x2⟩ := x012
    have y0 := (DC.new w false ⟨#[]⟩ 0).fz 0
    have y1 := (DC.new w false ⟨#[]⟩ 0).fz 1
    have y2 := (DC.new w false ⟨#[]⟩ 0).fz 2
    have bl : Below w.heap.size w (w.alloc (.cells #[.bool false, .string ⟨#[]⟩, .int .i64 0] 24)) := (Below.refl _ _).alloc (Nat.le_refl _) _
    go_wp2_with (first | (go_at_call 13; first | ((with_reducible refine (HR1.out _).mono ?_); rintro e w1 ⟨rfl, rfl⟩) | ((with_reducible refine (HR2.out _).mono ?_); rintro e w1 ⟨rfl, rfl⟩) | ((with_reducible refine (HR3.out _).mono ?_); rintro e w1 ⟨rfl, rfl⟩)) | (go_at_call 14; ((with_reducible refine (HP.out _).mono ?_); rintro e w1 ⟨rfl, rfl⟩)))
    exact bodyPost_ret (v := .tuple #[.agg #[.bool false, .string ⟨#[]⟩, .int .i64 0], .int .i64 3]) (by simp [results, Tryd.results6, go_sem, x0, x1, x2]) rfl ⟨rfl, bl⟩
  · have n1 : (j : Int) < s.size := by omega
    have n2 : ((s[j].toNat : Int) == 101) = true := by rw [beq_iff_eq]; omega
    have n4 : IntKind.i64.wrap ((j : Int) + 1) = (k3 : Int) := by rw [show (j : Int) + 1 = (k3 : Int) by omega]; exact IntWalk.i64_in _ (by omega)
    have n5 : (k3 : Int) < s.size := by omega
    have n6 : ((s[k3].toNat : Int) == 45) = false := by rw [beq_eq_false_iff_ne]; omega
    have n7 : ((s[k3].toNat : Int) == 43) = true := by rw [beq_iff_eq]; omega
    have n8 : IntKind.i64.wrap ((k3 : Int) + 1) = (k4 : Int) := by rw [show (k3 : Int) + 1 = (k4 : Int) by omega]; exact IntWalk.i64_in _ (by omega)
    clear HW d2 d3 d5 d6
    have x012 := (DC.new w false ⟨#[]⟩ 0).cells
    obtain ⟨x0, x1, x2⟩ := x012
    have y0 := (DC.new w false ⟨#[]⟩ 0).fz 0
    have y1 := (DC.new w false ⟨#[]⟩ 0).fz 1
    have y2 := (DC.new w false ⟨#[]⟩ 0).fz 2
    have bl : Below w.heap.size w (w.alloc (.cells #[.bool false, .string ⟨#[]⟩, .int .i64 0] 24)) := (Below.refl _ _).alloc (Nat.le_refl _) _
    go_wp2_with (first | (go_at_call 13; first | ((with_reducible refine (HR1.out _).mono ?_); rintro e w1 ⟨rfl, rfl⟩) | ((with_reducible refine (HR2.out _).mono ?_); rintro e w1 ⟨rfl, rfl⟩) | ((with_reducible refine (HR3.out _).mono ?_); rintro e w1 ⟨rfl, rfl⟩)))
    exact bodyPost_ret (v := .tuple #[.agg #[.bool false, .string ⟨#[]⟩, .int .i64 0], .int .i64 3]) (by simp [results, Tryd.results6, go_sem, x0, x1, x2]) rfl ⟨rfl, bl⟩
  · have n1 : (j : Int) < s.size := by omega
    have n2 : ((s[j].toNat : Int) == 101) = true := by rw [beq_iff_eq]; omega
    have n4 : IntKind.i64.wrap ((j : Int) + 1) = (k3 : Int) := by rw [show (j : Int) + 1 = (k3 : Int) by omega]; exact IntWalk.i64_in _ (by omega)
    have n5 : (k3 : Int) < s.size := by omega
    have n6 : ((s[k3].toNat : Int) == 45) = false := by rw [beq_eq_false_iff_ne]; omega
    have n7 : ((s[k3].toNat : Int) == 43) = false := by rw [beq_eq_false_iff_ne]; omega
    have u1 : ((j3 : Int) == (k3 : Int)) = false := by rw [beq_eq_false_iff_ne]; omega
    have u2 : (k3 : Int) ≤ j3 := by omega
    have u3 : (j3 : Int) ≤ s.size := by omega
    have u4 : (0 : Int) ≤ k3 := by omega
    have u5 : (0 : Int) ≤ j3 := by omega
    have v2 : IntKind.i64.wrap (E + (v : Int)) = E + (v : Int) := IntWalk.i64_in _ (by omega)
    have u6 : (j3 : Int) < s.size := by omega
    clear HW d2 d3 d5 d5b
    have x012 := (DC.new w false ⟨#[]⟩ 0).cells
    obtain ⟨x0, x1, x2⟩ := x012
    have y0 := (DC.new w false ⟨#[]⟩ 0).fz 0
    have y1 := (DC.new w false ⟨#[]⟩ 0).fz 1
    have y2 := (DC.new w false ⟨#[]⟩ 0).fz 2
    have bl : Below w.heap.size w (w.alloc (.cells #[.bool false, .string ⟨#[]⟩, .int .i64 0] 24)) := (Below.refl _ _).alloc (Nat.le_refl _) _
    go_wp2_with (first | (go_at_call 13; first | ((with_reducible refine (HR1.out _).mono ?_); rintro e w1 ⟨rfl, rfl⟩) | ((with_reducible refine (HR2.out _).mono ?_); rintro e w1 ⟨rfl, rfl⟩) | ((with_reducible refine (HR3.out _).mono ?_); rintro e w1 ⟨rfl, rfl⟩)) | (go_at_call 14; ((with_reducible refine (HP.out _).mono ?_); rintro e w1 ⟨rfl, rfl⟩)))
    exact bodyPost_ret (v := .tuple #[.agg #[.bool false, .string ⟨#[]⟩, .int .i64 0], .int .i64 3]) (by simp [results, Tryd.results6, go_sem, x0, x1, x2]) rfl ⟨rfl, bl⟩
  · have n1 : (j : Int) < s.size := by omega
    have n2 : ((s[j].toNat : Int) == 101) = true := by rw [beq_iff_eq]; omega
    have n4 : IntKind.i64.wrap ((j : Int) + 1) = (k3 : Int) := by rw [show (j : Int) + 1 = (k3 : Int) by omega]; exact IntWalk.i64_in _ (by omega)
    have n5 : (k3 : Int) < s.size := by omega
    have n6 : ((s[k3].toNat : Int) == 45) = false := by rw [beq_eq_false_iff_ne]; omega
    have n7 : ((s[k3].toNat : Int) == 43) = false := by rw [beq_eq_false_iff_ne]; omega
    clear HW d2 d3 d5 d5b
    have x012 := (DC.new w false ⟨#[]⟩ 0).cells
    obtain ⟨x0, x1, x2⟩ := x012
    have y0 := (DC.new w false ⟨#[]⟩ 0).fz 0
    have y1 := (DC.new w false ⟨#[]⟩ 0).fz 1
    have y2 := (DC.new w false ⟨#[]⟩ 0).fz 2
    have bl : Below w.heap.size w (w.alloc (.cells #[.bool false, .string ⟨#[]⟩, .int .i64 0] 24)) := (Below.refl _ _).alloc (Nat.le_refl _) _
    go_wp2_with (first | (go_at_call 13; first | ((with_reducible refine (HR1.out _).mono ?_); rintro e w1 ⟨rfl, rfl⟩) | ((with_reducible refine (HR2.out _).mono ?_); rintro e w1 ⟨rfl, rfl⟩) | ((with_reducible refine (HR3.out _).mono ?_); rintro e w1 ⟨rfl, rfl⟩)))
    exact bodyPost_ret (v := .tuple #[.agg #[.bool false, .string ⟨#[]⟩, .int .i64 0], .int .i64 3]) (by simp [results, Tryd.results6, go_sem, x0, x1, x2]) rfl ⟨rfl, bl⟩
  · have n1 : (j : Int) < s.size := by omega
    have n2 : ((s[j].toNat : Int) == 101) = true := by rw [beq_iff_eq]; omega
    have n4 : IntKind.i64.wrap ((j : Int) + 1) = (k3 : Int) := by rw [show (j : Int) + 1 = (k3 : Int) by omega]; exact IntWalk.i64_in _ (by omega)
    have n5 : ¬ (k3 : Int) < s.size := by omega
    clear HW d2 d3 d4
    have x012 := (DC.new w false ⟨#[]⟩ 0).cells
    obtain ⟨x0, x1, x2⟩ := x012
    have y0 := (DC.new w false ⟨#[]⟩ 0).fz 0
    have y1 := (DC.new w false ⟨#[]⟩ 0).fz 1
    have y2 := (DC.new w false ⟨#[]⟩ 0).fz 2
    have bl : Below w.heap.size w (w.alloc (.cells #[.bool false, .string ⟨#[]⟩, .int .i64 0] 24)) := (Below.refl _ _).alloc (Nat.le_refl _) _
    go_wp2_with (first | (go_at_call 13; first | ((with_reducible refine (HR1.out _).mono ?_); rintro e w1 ⟨rfl, rfl⟩) | ((with_reducible refine (HR2.out _).mono ?_); rintro e w1 ⟨rfl, rfl⟩) | ((with_reducible refine (HR3.out _).mono ?_); rintro e w1 ⟨rfl, rfl⟩)))
    exact bodyPost_ret (v := .tuple #[.agg #[.bool false, .string ⟨#[]⟩, .int .i64 0], .int .i64 3]) (by simp [results, Tryd.results6, go_sem, x0, x1, x2]) rfl ⟨rfl, bl⟩
  · have n1 : (j : Int) < s.size := by omega
    have n2 : ((s[j].toNat : Int) == 101) = false := by rw [beq_eq_false_iff_ne]; omega
    have n3 : ((s[j].toNat : Int) == 69) = true := by rw [beq_iff_eq]; omega
    have n4 : IntKind.i64.wrap ((j : Int) + 1) = (k3 : Int) := by rw [show (j : Int) + 1 = (k3 : Int) by omega]; exact IntWalk.i64_in _ (by omega)
    have n5 : (k3 : Int) < s.size := by omega
    have n6 : ((s[k3].toNat : Int) == 45) = true := by rw [beq_iff_eq]; omega
    have n8 : IntKind.i64.wrap ((k3 : Int) + 1) = (k4 : Int) := by rw [show (k3 : Int) + 1 = (k4 : Int) by omega]; exact IntWalk.i64_in _ (by omega)
    have u1 : ((j3 : Int) == (k4 : Int)) = false := by rw [beq_eq_false_iff_ne]; omega
    have u2 : (k4 : Int) ≤ j3 := by omega
    have u3 : (j3 : Int) ≤ s.size := by omega
    have u4 : (0 : Int) ≤ k4 := by omega
    have u5 : (0 : Int) ≤ j3 := by omega
    have v1 : IntKind.i64.wrap (-(v : Int)) = -(v : Int) := IntWalk.i64_in _ (by omega)
    have v2 : IntKind.i64.wrap (E + -(v : Int)) = E + -(v : Int) := IntWalk.i64_in _ (by omega)
    have u6 : (j3 : Int) < s.size := by omega
    clear HW d2 d3 d5 d6
    have x012 := (DC.new w false ⟨#[]⟩ 0).cells
    obtain ⟨x0, x1, x2⟩ := x012
    have y0 := (DC.new w false ⟨#[]⟩ 0).fz 0
    have y1 := (DC.new w false ⟨#[]⟩ 0).fz 1
    have y2 := (DC.new w false ⟨#[]⟩ 0).fz 2
    have bl : Below w.heap.size w (w.alloc (.cells #[.bool false, .string ⟨#[]⟩, .int .i64 0] 24)) := (Below.refl _ _).alloc (Nat.le_refl _) _
    go_wp2_with (first | (go_at_call 13; first | ((with_reducible refine (HR1.out _).mono ?_); rintro e w1 ⟨rfl, rfl⟩) | ((with_reducible refine (HR2.out _).mono ?_); rintro e w1 ⟨rfl, rfl⟩) | ((with_reducible refine (HR3.out _).mono ?_); rintro e w1 ⟨rfl, rfl⟩)) | (go_at_call 14; ((with_reducible refine (HP.out _).mono ?_); rintro e w1 ⟨rfl, rfl⟩)))
    exact bodyPost_ret (v := .tuple #[.agg #[.bool false, .string ⟨#[]⟩, .int .i64 0], .int .i64 3]) (by simp [results, Tryd.results6, go_sem, x0, x1, x2]) rfl ⟨rfl, bl⟩
  · have n1 : (j : Int) < s.size := by omega
    have n2 : ((s[j].toNat : Int) == 101) = false := by rw [beq_eq_false_iff_ne]; omega
    have n3 : ((s[j].toNat : Int) == 69) = true := by rw [beq_iff_eq]; omega
    have n4 : IntKind.i64.wrap ((j : Int) + 1) = (k3 : Int) := by rw [show (j : Int) + 1 = (k3 : Int) by omega]; exact IntWalk.i64_in _ (by omega)
    have n5 : (k3 : Int) < s.size := by omega
    have n6 : ((s[k3].toNat : Int) == 45) = true := by rw [beq_iff_eq]; omega
    have n8 : IntKind.i64.wrap ((k3 : Int) + 1) = (k4 : Int) := by rw [show (k3 : Int) + 1 = (k4 : Int) by omega]; exact IntWalk.i64_in _ (by omega)
    clear HW d2 d3 d5 d6
    have x012 := (DC.new w false ⟨#[]⟩ 0).cells
    obtain ⟨x0, x1, x2⟩ := x012
    have y0 := (DC.new w false ⟨#[]⟩ 0).fz 0
    have y1 := (DC.new w false ⟨#[]⟩ 0).fz 1
    have y2 := (DC.new w false ⟨#[]⟩ 0).fz 2
    have bl : Below w.heap.size w (w.alloc (.cells #[.bool false, .string ⟨#[]⟩, .int .i64 0] 24)) := (Below.refl _ _).alloc (Nat.le_refl _) _
    go_wp2_with (first | (go_at_call 13; first | ((with_reducible refine (HR1.out _).mono ?_); rintro e w1 ⟨rfl, rfl⟩) | ((with_reducible refine (HR2.out _).mono ?_); rintro e w1 ⟨rfl, rfl⟩) | ((with_reducible refine (HR3.out _).mono ?_); rintro e w1 ⟨rfl, rfl⟩)))
    exact bodyPost_ret (v := .tuple #[.agg #[.bool false, .string ⟨#[]⟩, .int .i64 0], .int .i64 3]) (by simp [results, Tryd.results6, go_sem, x0, x1, x2]) rfl ⟨rfl, bl⟩
  · have n1 : (j : Int) < s.size := by omega
    have n2 : ((s[j].toNat : Int) == 101) = false := by rw [beq_eq_false_iff_ne]; omega
    have n3 : ((s[j].toNat : Int) == 69) = true := by rw [beq_iff_eq]; omega
    have n4 : IntKind.i64.wrap ((j : Int) + 1) = (k3 : Int) := by rw [show (j : Int) + 1 = (k3 : Int) by omega]; exact IntWalk.i64_in _ (by omega)
    have n5 : (k3 : Int) < s.size := by omega
    have n6 : ((s[k3].toNat : Int) == 45) = false := by rw [beq_eq_false_iff_ne]; omega
    have n7 : ((s[k3].toNat : Int) == 43) = true := by rw [beq_iff_eq]; omega
    have n8 : IntKind.i64.wrap ((k3 : Int) + 1) = (k4 : Int) := by rw [show (k3 : Int) + 1 = (k4 : Int) by omega]; exact IntWalk.i64_in _ (by omega)
    have u1 : ((j3 : Int) == (k4 : Int)) = false := by rw [beq_eq_false_iff_ne]; omega
    have u2 : (k4 : Int) ≤ j3 := by omega
    have u3 : (j3 : Int) ≤ s.size := by omega
    have u4 : (0 : Int) ≤ k4 := by omega
    have u5 : (0 : Int) ≤ j3 := by omega
    have v2 : IntKind.i64.wrap (E + (v : Int)) = E + (v : Int) := IntWalk.i64_in _ (by omega)
    have u6 : (j3 : Int) < s.size := by omega
    clear HW d2 d3 d5 d6
    have x012 := (DC.new w false ⟨#[]⟩ 0).cells
    obtain ⟨x0, x1, x2⟩ := x012
    have y0 := (DC.new w false ⟨#[]⟩ 0).fz 0
    have y1 := (DC.new w false ⟨#[]⟩ 0).fz 1
    have y2 := (DC.new w false ⟨#[]⟩ 0).fz 2
    have bl : Below w.heap.size w (w.alloc (.cells #[.bool false, .string ⟨#[]⟩, .int .i64 0] 24)) := (Below.refl _ _).alloc (Nat.le_refl _) _
    go_wp2_with (first | (go_at_call 13; first | ((with_reducible refine (HR1.out _).mono ?_); rintro e w1 ⟨rfl, rfl⟩) | ((with_reducible refine (HR2.out _).mono ?_); rintro e w1 ⟨rfl, rfl⟩) | ((with_reducible refine (HR3.out _).mono ?_); rintro e w1 ⟨rfl, rfl⟩)) | (go_at_call 14; ((with_reducible refine (HP.out _).mono ?_); rintro e w1 ⟨rfl, rfl⟩)))
    exact bodyPost_ret (v := .tuple #[.agg #[.bool false, .string ⟨#[]⟩, .int .i64 0], .int .i64 3]) (by simp [results, Tryd.results6, go_sem, x0, x1, x2]) rfl ⟨rfl, bl⟩
  · have n1 : (j : Int) < s.size := by omega
    have n2 : ((s[j].toNat : Int) == 101) = false := by rw [beq_eq_false_iff_ne]; omega
    have n3 : ((s[j].toNat : Int) == 69) = true := by rw [beq_iff_eq]; omega
    have n4 : IntKind.i64.wrap ((j : Int) + 1) = (k3 : Int) := by rw [show (j : Int) + 1 = (k3 : Int) by omega]; exact IntWalk.i64_in _ (by omega)
    have n5 : (k3 : Int) < s.size := by omega
    have n6 : ((s[k3].toNat : Int) == 45) = false := by rw [beq_eq_false_iff_ne]; omega
    have n7 : ((s[k3].toNat : Int) == 43) = true := by rw [beq_iff_eq]; omega
    have n8 : IntKind.i64.wrap ((k3 : Int) + 1) = (k4 : Int) := by rw [show (k3 : Int) + 1 = (k4 : Int) by omega]; exact IntWalk.i64_in _ (by omega)
    clear HW d2 d3 d5 d6
    have x012 := (DC.new w false ⟨#[]⟩ 0).cells
    obtain ⟨x0, x1, x2⟩ := x012
    have y0 := (DC.new w false ⟨#[]⟩ 0).fz 0
    have y1 := (DC.new w false ⟨#[]⟩ 0).fz 1
    have y2 := (DC.new w false ⟨#[]⟩ 0).fz 2
    have bl : Below w.heap.size w (w.alloc (.cells #[.bool false, .string ⟨#[]⟩, .int .i64 0] 24)) := (Below.refl _ _).alloc (Nat.le_refl _) _
    go_wp2_with (first | (go_at_call 13; first | ((with_reducible refine (HR1.out _).mono ?_); rintro e w1 ⟨rfl, rfl⟩) | ((with_reducible refine (HR2.out _).mono ?_); rintro e w1 ⟨rfl, rfl⟩) | ((with_reducible refine (HR3.out _).mono ?_); rintro e w1 ⟨rfl, rfl⟩)))
    exact bodyPost_ret (v := .tuple #[.agg #[.bool false, .string ⟨#[]⟩, .int .i64 0], .int .i64 3]) (by simp [results, Tryd.results6, go_sem, x0, x1, x2]) rfl ⟨rfl, bl⟩
  · have n1 : (j : Int) < s.size := by omega
    have n2 : ((s[j].toNat : Int) == 101) = false := by rw [beq_eq_false_iff_ne]; omega
    have n3 : ((s[j].toNat : Int) == 69) = true := by rw [beq_iff_eq]; omega
    have n4 : IntKind.i64.wrap ((j : Int) + 1) = (k3 : Int) := by rw [show (j : Int) + 1 = (k3 : Int) by omega]; exact IntWalk.i64_in _ (by omega)
    have n5 : (k3 : Int) < s.size := by omega
    have n6 : ((s[k3].toNat : Int) == 45) = false := by rw [beq_eq_false_iff_ne]; omega
    have n7 : ((s[k3].toNat : Int) == 43) = false := by rw [beq_eq_false_iff_ne]; omega
    have u1 : ((j3 : Int) == (k3 : Int)) = false := by rw [beq_eq_false_iff_ne]; omega
    have u2 : (k3 : Int) ≤ j3 := by omega
    have u3 : (j3 : Int) ≤ s.size := by omega
    have u4 : (0 : Int) ≤ k3 := by omega
    have u5 : (0 : Int) ≤ j3 := by omega
    have v2 : IntKind.i64.wrap (E + (v : Int)) = E + (v : Int) := IntWalk.i64_in _ (by omega)
    have u6 : (j3 : Int) < s.size := by omega
    clear HW d2 d3 d5 d5b
    have x012 := (DC.new w false ⟨#[]⟩ 0).cells
    obtain ⟨x0, x1, x2⟩ := x012
    have y0 := (DC.new w false ⟨#[]⟩ 0).fz 0
    have y1 := (DC.new w false ⟨#[]⟩ 0).fz 1
    have y2 := (DC.new w false ⟨#[]⟩ 0).fz 2
    have bl : Below w.heap.size w (w.alloc (.cells #[.bool false, .string ⟨#[]⟩, .int .i64 0] 24)) := (Below.refl _ _).alloc (Nat.le_refl _) _
    go_wp2_with (first | (go_at_call 13; first | ((with_reducible refine (HR1.out _).mono ?_); rintro e w1 ⟨rfl, rfl⟩) | ((with_reducible refine (HR2.out _).mono ?_); rintro e w1 ⟨rfl, rfl⟩) | ((with_reducible refine (HR3.out _).mono ?_); rintro e w1 ⟨rfl, rfl⟩)) | (go_at_call 14; ((with_reducible refine (HP.out _).mono ?_); rintro e w1 ⟨rfl, rfl⟩)))
    exact bodyPost_ret (v := .tuple #[.agg #[.bool false, .string ⟨#[]⟩, .int .i64 0], .int .i64 3]) (by simp [results, Tryd.results6, go_sem, x0, x1, x2]) rfl ⟨rfl, bl⟩
  · have n1 : (j : Int) < s.size := by omega
    have n2 : ((s[j].toNat : Int) == 101) = false := by rw [beq_eq_false_iff_ne]; omega
    have n3 : ((s[j].toNat : Int) == 69) = true := by rw [beq_iff_eq]; omega
    have n4 : IntKind.i64.wrap ((j : Int) + 1) = (k3 : Int) := by rw [show (j : Int) + 1 = (k3 : Int) by omega]; exact IntWalk.i64_in _ (by omega)
    have n5 : (k3 : Int) < s.size := by omega
    have n6 : ((s[k3].toNat : Int) == 45) = false := by rw [beq_eq_false_iff_ne]; omega
    have n7 : ((s[k3].toNat : Int) == 43) = false := by rw [beq_eq_false_iff_ne]; omega
    clear HW d2 d3 d5 d5b
    have x012 := (DC.new w false ⟨#[]⟩ 0).cells
    obtain ⟨x0, x1, x2⟩ := x012
    have y0 := (DC.new w false ⟨#[]⟩ 0).fz 0
    have y1 := (DC.new w false ⟨#[]⟩ 0).fz 1
    have y2 := (DC.new w false ⟨#[]⟩ 0).fz 2
    have bl : Below w.heap.size w (w.alloc (.cells #[.bool false, .string ⟨#[]⟩, .int .i64 0] 24)) := (Below.refl _ _).alloc (Nat.le_refl _) _
    go_wp2_with (first | (go_at_call 13; first | ((with_reducible refine (HR1.out _).mono ?_); rintro e w1 ⟨rfl, rfl⟩) | ((with_reducible refine (HR2.out _).mono ?_); rintro e w1 ⟨rfl, rfl⟩) | ((with_reducible refine (HR3.out _).mono ?_); rintro e w1 ⟨rfl, rfl⟩)))
    exact bodyPost_ret (v := .tuple #[.agg #[.bool false, .string ⟨#[]⟩, .int .i64 0], .int .i64 3]) (by simp [results, Tryd.results6, go_sem, x0, x1, x2]) rfl ⟨rfl, bl⟩
  · have n1 : (j : Int) < s.size := by omega
    have n2 : ((s[j].toNat : Int) == 101) = false := by rw [beq_eq_false_iff_ne]; omega
    have n3 : ((s[j].toNat : Int) == 69) = true := by rw [beq_iff_eq]; omega
    have n4 : IntKind.i64.wrap ((j : Int) + 1) = (k3 : Int) := by rw [show (j : Int) + 1 = (k3 : Int) by omega]; exact IntWalk.i64_in _ (by omega)
    have n5 : ¬ (k3 : Int) < s.size := by omega
    clear HW d2 d3 d4
    have x012 := (DC.new w false ⟨#[]⟩ 0).cells
    obtain ⟨x0, x1, x2⟩ := x012
    have y0 := (DC.new w false ⟨#[]⟩ 0).fz 0
    have y1 := (DC.new w false ⟨#[]⟩ 0).fz 1
    have y2 := (DC.new w false ⟨#[]⟩ 0).fz 2
    have bl : Below w.heap.size w (w.alloc (.cells #[.bool false, .string ⟨#[]⟩, .int .i64 0] 24)) := (Below.refl _ _).alloc (Nat.le_refl _) _
    go_wp2_with (first | (go_at_call 13; first | ((with_reducible refine (HR1.out _).mono ?_); rintro e w1 ⟨rfl, rfl⟩) | ((with_reducible refine (HR2.out _).mono ?_); rintro e w1 ⟨rfl, rfl⟩) | ((with_reducible refine (HR3.out _).mono ?_); rintro e w1 ⟨rfl, rfl⟩)))
    exact bodyPost_ret (v := .tuple #[.agg #[.bool false, .string ⟨#[]⟩, .int .i64 0], .int .i64 3]) (by simp [results, Tryd.results6, go_sem, x0, x1, x2]) rfl ⟨rfl, bl⟩
set_option maxRecDepth 100000 in
set_option maxHeartbeats 8000000 in
theorem rp_mn1_ok (s a : ByteArray) (k1 : Nat) (w : World) (hs : s.size ≤ 1000) (h0 : 0 < s.size) (hg : (s[0]).toNat = 45) (hi : 1 < k1) (hk : k1 ≤ s.size) (HR1 : Hid (∀ w, Calls Tryd.prog 13 #[.string s, .int .i64 1] w fun e w' => e = .returned (.int .i64 k1) ∧ w' = w)) (ha : s.extract 1 k1 = a) (has : a.size ≤ 1000) (hw : ∀ hh : 1 < s.size, (s[1]).toNat ≠ 48) (f : ByteArray) (j p1 : Nat) (hp1 : k1 + 1 = p1) (hfk : ∀ hh : k1 < s.size, (s[k1]'hh).toNat = 46) (hfs : k1 < s.size) (hj : p1 < j) (hjs : j ≤ s.size) (HR2 : Hid (∀ w, Calls Tryd.prog 13 #[.string s, .int .i64 p1] w fun e w' => e = .returned (.int .i64 j) ∧ w' = w)) (hf : s.extract p1 j = f) (hfz : f.size ≤ 1000) (X : Int) (R1 : Bool) (R2 : ByteArray) (R3 R4 : Int) (HW : Hid (((j = s.size) ∧ X = ((p1 : Int) - (j : Int))) ∨ (∃ (k3 k4 : Nat) (d1 : j < s.size), (s[j]'d1).toNat = 101 ∧ j + 1 = k3 ∧ (∃ d4 : k3 < s.size, (s[k3]'d4).toNat = 45 ∧ k3 + 1 = k4) ∧ k4 < s.size ∧ Hid (∀ w, Calls Tryd.prog 13 #[.string s, .int .i64 k4] w fun e w' => e = .returned (.int .i64 s.size) ∧ w' = w) ∧ (∃ (q : ByteArray) (v : Nat), s.extract k4 s.size = q ∧ v ≤ 1000000000 ∧ Hid (∀ w, Calls Tryd.prog 14 #[.string q] w fun e w' => e = .returned (.int .i64 v) ∧ w' = w) ∧ X = ((p1 : Int) - (j : Int)) + -(v : Int))) ∨ (∃ (k3 k4 : Nat) (d1 : j < s.size), (s[j]'d1).toNat = 101 ∧ j + 1 = k3 ∧ (∃ d4 : k3 < s.size, (s[k3]'d4).toNat = 43 ∧ k3 + 1 = k4) ∧ k4 < s.size ∧ Hid (∀ w, Calls Tryd.prog 13 #[.string s, .int .i64 k4] w fun e w' => e = .returned (.int .i64 s.size) ∧ w' = w) ∧ (∃ (q : ByteArray) (v : Nat), s.extract k4 s.size = q ∧ v ≤ 1000000000 ∧ Hid (∀ w, Calls Tryd.prog 14 #[.string q] w fun e w' => e = .returned (.int .i64 v) ∧ w' = w) ∧ X = ((p1 : Int) - (j : Int)) + (v : Int))) ∨ (∃ (k3 k4 : Nat) (d1 : j < s.size), (s[j]'d1).toNat = 101 ∧ j + 1 = k3 ∧ (∃ d4 : k3 < s.size, ((s[k3]'d4).toNat ≠ 45 ∧ (s[k3]'d4).toNat ≠ 43) ∧ k3 = k4) ∧ k4 < s.size ∧ Hid (∀ w, Calls Tryd.prog 13 #[.string s, .int .i64 k4] w fun e w' => e = .returned (.int .i64 s.size) ∧ w' = w) ∧ (∃ (q : ByteArray) (v : Nat), s.extract k4 s.size = q ∧ v ≤ 1000000000 ∧ Hid (∀ w, Calls Tryd.prog 14 #[.string q] w fun e w' => e = .returned (.int .i64 v) ∧ w' = w) ∧ X = ((p1 : Int) - (j : Int)) + (v : Int))) ∨ (∃ (k3 k4 : Nat) (d1 : j < s.size), (s[j]'d1).toNat = 69 ∧ j + 1 = k3 ∧ (∃ d4 : k3 < s.size, (s[k3]'d4).toNat = 45 ∧ k3 + 1 = k4) ∧ k4 < s.size ∧ Hid (∀ w, Calls Tryd.prog 13 #[.string s, .int .i64 k4] w fun e w' => e = .returned (.int .i64 s.size) ∧ w' = w) ∧ (∃ (q : ByteArray) (v : Nat), s.extract k4 s.size = q ∧ v ≤ 1000000000 ∧ Hid (∀ w, Calls Tryd.prog 14 #[.string q] w fun e w' => e = .returned (.int .i64 v) ∧ w' = w) ∧ X = ((p1 : Int) - (j : Int)) + -(v : Int))) ∨ (∃ (k3 k4 : Nat) (d1 : j < s.size), (s[j]'d1).toNat = 69 ∧ j + 1 = k3 ∧ (∃ d4 : k3 < s.size, (s[k3]'d4).toNat = 43 ∧ k3 + 1 = k4) ∧ k4 < s.size ∧ Hid (∀ w, Calls Tryd.prog 13 #[.string s, .int .i64 k4] w fun e w' => e = .returned (.int .i64 s.size) ∧ w' = w) ∧ (∃ (q : ByteArray) (v : Nat), s.extract k4 s.size = q ∧ v ≤ 1000000000 ∧ Hid (∀ w, Calls Tryd.prog 14 #[.string q] w fun e w' => e = .returned (.int .i64 v) ∧ w' = w) ∧ X = ((p1 : Int) - (j : Int)) + (v : Int))) ∨ (∃ (k3 k4 : Nat) (d1 : j < s.size), (s[j]'d1).toNat = 69 ∧ j + 1 = k3 ∧ (∃ d4 : k3 < s.size, ((s[k3]'d4).toNat ≠ 45 ∧ (s[k3]'d4).toNat ≠ 43) ∧ k3 = k4) ∧ k4 < s.size ∧ Hid (∀ w, Calls Tryd.prog 13 #[.string s, .int .i64 k4] w fun e w' => e = .returned (.int .i64 s.size) ∧ w' = w) ∧ (∃ (q : ByteArray) (v : Nat), s.extract k4 s.size = q ∧ v ≤ 1000000000 ∧ Hid (∀ w, Calls Tryd.prog 14 #[.string q] w fun e w' => e = .returned (.int .i64 v) ∧ w' = w) ∧ X = ((p1 : Int) - (j : Int)) + (v : Int))))) (HM : Hid (∀ w, Calls Tryd.prog 15 #[.bool true, .string (a ++ f), .int .i64 X] w fun e w' => e = .returned (.tuple #[.agg #[.bool R1, .string R2, .int .i64 R3], .int .i64 R4]) ∧ Below w.heap.size w w')) : Calls Tryd.prog 6 #[.string s] w fun e w' => e = .returned (.tuple #[.agg #[.bool R1, .string R2, .int .i64 R3], .int .i64 R4]) ∧ Below w.heap.size w w' := by
  have HCC := Lib.hid (DC.new w false ⟨#[]⟩ 0)
  have z1 : (0 : Int) < s.size := by omega
  have z2 : (1 : Int) < s.size := by omega
  have z3 : 1 < s.size := by omega
  have z4 : ((k1 : Int) == 1) = false := by rw [beq_eq_false_iff_ne]; omega
  have z5 : (1 : Int) ≤ k1 := by omega
  have z6 : (k1 : Int) ≤ s.size := by omega
  have z7 : (0 : Int) ≤ k1 := by omega
  have b0 : ((s[0].toNat : Int) == 45) = true := by rw [beq_iff_eq]; omega
  have b1 : ((s[1].toNat : Int) == 48) = false := by have := hw z3; rw [beq_eq_false_iff_ne]; omega
  have f1 : (k1 : Int) < s.size := by omega
  have f2 : ((s[k1].toNat : Int) == 46) = true := by have := hfk hfs; rw [beq_iff_eq]; omega
  have f3 : IntKind.i64.wrap ((k1 : Int) + 1) = (p1 : Int) := by rw [show (k1 : Int) + 1 = (p1 : Int) by omega]; exact IntWalk.i64_in _ (by omega)
  have f4 : ((j : Int) == (p1 : Int)) = false := by rw [beq_eq_false_iff_ne]; omega
  have f5 : (p1 : Int) ≤ j := by omega
  have f6 : (j : Int) ≤ s.size := by omega
  have f7 : (0 : Int) ≤ p1 := by omega
  have f8 : (0 : Int) ≤ j := by omega
  obtain ⟨E, hE⟩ : ∃ E : Int, (p1 : Int) - (j : Int) = E := ⟨_, rfl⟩
  have f9 : IntKind.i64.wrap ((p1 : Int) - (j : Int)) = E := by rw [hE]; exact IntWalk.i64_in _ (by omega)
  have hEb : -1000 ≤ E ∧ E ≤ 0 := by omega
  have g1 : ¬ 9223372036854775807 < a.size + f.size := by omega
  have g2 : a.size + f.size ≤ 9223372036854775807 := by omega
  rw [hE] at HW
  clear hw hfk
  go_enter Tryd.func6, Tryd.ntmps6
  go_upto_region 17 with (go_at_call 13; first | ((with_reducible refine (HR1.out _).mono ?_); rintro e w1 ⟨rfl, rfl⟩) | ((with_reducible refine (HR2.out _).mono ?_); rintro e w1 ⟨rfl, rfl⟩))
  rcases HW.out with ⟨d1, rfl⟩ | ⟨k3, k4, d1, d2, d3, ⟨d4, d5, d6⟩, e1, HR3, q, v, e2, e3, HP, rfl⟩ | ⟨k3, k4, d1, d2, d3, ⟨d4, d5, d6⟩, e1, HR3, q, v, e2, e3, HP, rfl⟩ | ⟨k3, k4, d1, d2, d3, ⟨d4, ⟨d5, d5b⟩, rfl⟩, e1, HR3, q, v, e2, e3, HP, rfl⟩ | ⟨k3, k4, d1, d2, d3, ⟨d4, d5, d6⟩, e1, HR3, q, v, e2, e3, HP, rfl⟩ | ⟨k3, k4, d1, d2, d3, ⟨d4, d5, d6⟩, e1, HR3, q, v, e2, e3, HP, rfl⟩ | ⟨k3, k4, d1, d2, d3, ⟨d4, ⟨d5, d5b⟩, rfl⟩, e1, HR3, q, v, e2, e3, HP, rfl⟩
  · have n1 : ¬ (j : Int) < s.size := by omega
    clear HW d1
    go_wp2_with (first | (go_at_call 13; first | ((with_reducible refine (HR1.out _).mono ?_); rintro e w1 ⟨rfl, rfl⟩) | ((with_reducible refine (HR2.out _).mono ?_); rintro e w1 ⟨rfl, rfl⟩) | fail) | (go_at_call 15; (with_reducible refine (HM.out _).mono ?_); rintro e w1 ⟨rfl, hb⟩; have X := HCC.out.below hb HCC.out.lt; obtain ⟨x0, x1, x2⟩ := X.cells; have y0 := X.fz 0; have y1 := X.fz 1; have y2 := X.fz 2; have bl : Below w.heap.size w w1 := ((Below.refl _ _).alloc (Nat.le_refl _) _).trans (hb.mono (by simp)); clear hb))
    exact bodyPost_ret (v := .tuple #[.agg #[.bool R1, .string R2, .int .i64 R3], .int .i64 R4]) (by simp [results, Tryd.results6, go_sem, x0, x1, x2]) rfl ⟨rfl, ((bl.setCell (by simp) _).setCell (by simp) _).setCell (by simp) _⟩
  · have n1 : (j : Int) < s.size := by omega
    have n2 : ((s[j].toNat : Int) == 101) = true := by rw [beq_iff_eq]; omega
    have n4 : IntKind.i64.wrap ((j : Int) + 1) = (k3 : Int) := by rw [show (j : Int) + 1 = (k3 : Int) by omega]; exact IntWalk.i64_in _ (by omega)
    have n5 : (k3 : Int) < s.size := by omega
    have n6 : ((s[k3].toNat : Int) == 45) = true := by rw [beq_iff_eq]; omega
    have n8 : IntKind.i64.wrap ((k3 : Int) + 1) = (k4 : Int) := by rw [show (k3 : Int) + 1 = (k4 : Int) by omega]; exact IntWalk.i64_in _ (by omega)
    have u1 : ((s.size : Int) == (k4 : Int)) = false := by rw [beq_eq_false_iff_ne]; omega
    have u2 : (k4 : Int) ≤ s.size := by omega
    have u3 : (s.size : Int) ≤ s.size := by omega
    have u4 : (0 : Int) ≤ k4 := by omega
    have u5 : (0 : Int) ≤ s.size := by omega
    have v1 : IntKind.i64.wrap (-(v : Int)) = -(v : Int) := IntWalk.i64_in _ (by omega)
    have v2 : IntKind.i64.wrap (E + -(v : Int)) = E + -(v : Int) := IntWalk.i64_in _ (by omega)
    clear HW d2 d3 d5 d6
    go_wp2_with (first | (go_at_call 13; first | ((with_reducible refine (HR1.out _).mono ?_); rintro e w1 ⟨rfl, rfl⟩) | ((with_reducible refine (HR2.out _).mono ?_); rintro e w1 ⟨rfl, rfl⟩) | ((with_reducible refine (HR3.out _).mono ?_); rintro e w1 ⟨rfl, rfl⟩)) | (go_at_call 14; ((with_reducible refine (HP.out _).mono ?_); rintro e w1 ⟨rfl, rfl⟩)) | (go_at_call 15; (with_reducible refine (HM.out _).mono ?_); rintro e w1 ⟨rfl, hb⟩; have X := HCC.out.below hb HCC.out.lt; obtain ⟨x0, x1, x2⟩ := X.cells; have y0 := X.fz 0; have y1 := X.fz 1; have y2 := X.fz 2; have bl : Below w.heap.size w w1 := ((Below.refl _ _).alloc (Nat.le_refl _) _).trans (hb.mono (by simp)); clear hb))
    exact bodyPost_ret (v := .tuple #[.agg #[.bool R1, .string R2, .int .i64 R3], .int .i64 R4]) (by simp [results, Tryd.results6, go_sem, x0, x1, x2]) rfl ⟨rfl, ((bl.setCell (by simp) _).setCell (by simp) _).setCell (by simp) _⟩
  · have n1 : (j : Int) < s.size := by omega
    have n2 : ((s[j].toNat : Int) == 101) = true := by rw [beq_iff_eq]; omega
    have n4 : IntKind.i64.wrap ((j : Int) + 1) = (k3 : Int) := by rw [show (j : Int) + 1 = (k3 : Int) by omega]; exact IntWalk.i64_in _ (by omega)
    have n5 : (k3 : Int) < s.size := by omega
    have n6 : ((s[k3].toNat : Int) == 45) = false := by rw [beq_eq_false_iff_ne]; omega
    have n7 : ((s[k3].toNat : Int) == 43) = true := by rw [beq_iff_eq]; omega
    have n8 : IntKind.i64.wrap ((k3 : Int) + 1) = (k4 : Int) := by rw [show (k3 : Int) + 1 = (k4 : Int) by omega]; exact IntWalk.i64_in _ (by omega)
    have u1 : ((s.size : Int) == (k4 : Int)) = false := by rw [beq_eq_false_iff_ne]; omega
    have u2 : (k4 : Int) ≤ s.size := by omega
    have u3 : (s.size : Int) ≤ s.size := by omega
    have u4 : (0 : Int) ≤ k4 := by omega
    have u5 : (0 : Int) ≤ s.size := by omega
    have v2 : IntKind.i64.wrap (E + (v : Int)) = E + (v : Int) := IntWalk.i64_in _ (by omega)
    clear HW d2 d3 d5 d6
    go_wp2_with (first | (go_at_call 13; first | ((with_reducible refine (HR1.out _).mono ?_); rintro e w1 ⟨rfl, rfl⟩) | ((with_reducible refine (HR2.out _).mono ?_); rintro e w1 ⟨rfl, rfl⟩) | ((with_reducible refine (HR3.out _).mono ?_); rintro e w1 ⟨rfl, rfl⟩)) | (go_at_call 14; ((with_reducible refine (HP.out _).mono ?_); rintro e w1 ⟨rfl, rfl⟩)) | (go_at_call 15; (with_reducible refine (HM.out _).mono ?_); rintro e w1 ⟨rfl, hb⟩; have X := HCC.out.below hb HCC.out.lt; obtain ⟨x0, x1, x2⟩ := X.cells; have y0 := X.fz 0; have y1 := X.fz 1; have y2 := X.fz 2; have bl : Below w.heap.size w w1 := ((Below.refl _ _).alloc (Nat.le_refl _) _).trans (hb.mono (by simp)); clear hb))
    exact bodyPost_ret (v := .tuple #[.agg #[.bool R1, .string R2, .int .i64 R3], .int .i64 R4]) (by simp [results, Tryd.results6, go_sem, x0, x1, x2]) rfl ⟨rfl, ((bl.setCell (by simp) _).setCell (by simp) _).setCell (by simp) _⟩
  · have n1 : (j : Int) < s.size := by omega
    have n2 : ((s[j].toNat : Int) == 101) = true := by rw [beq_iff_eq]; omega
    have n4 : IntKind.i64.wrap ((j : Int) + 1) = (k3 : Int) := by rw [show (j : Int) + 1 = (k3 : Int) by omega]; exact IntWalk.i64_in _ (by omega)
    have n5 : (k3 : Int) < s.size := by omega
    have n6 : ((s[k3].toNat : Int) == 45) = false := by rw [beq_eq_false_iff_ne]; omega
    have n7 : ((s[k3].toNat : Int) == 43) = false := by rw [beq_eq_false_iff_ne]; omega
    have u1 : ((s.size : Int) == (k3 : Int)) = false := by rw [beq_eq_false_iff_ne]; omega
    have u2 : (k3 : Int) ≤ s.size := by omega
    have u3 : (s.size : Int) ≤ s.size := by omega
    have u4 : (0 : Int) ≤ k3 := by omega
    have u5 : (0 : Int) ≤ s.size := by omega
    have v2 : IntKind.i64.wrap (E + (v : Int)) = E + (v : Int) := IntWalk.i64_in _ (by omega)
    clear HW d2 d3 d5 d5b
    go_wp2_with (first | (go_at_call 13; first | ((with_reducible refine (HR1.out _).mono ?_); rintro e w1 ⟨rfl, rfl⟩) | ((with_reducible refine (HR2.out _).mono ?_); rintro e w1 ⟨rfl, rfl⟩) | ((with_reducible refine (HR3.out _).mono ?_); rintro e w1 ⟨rfl, rfl⟩)) | (go_at_call 14; ((with_reducible refine (HP.out _).mono ?_); rintro e w1 ⟨rfl, rfl⟩)) | (go_at_call 15; (with_reducible refine (HM.out _).mono ?_); rintro e w1 ⟨rfl, hb⟩; have X := HCC.out.below hb HCC.out.lt; obtain ⟨x0, x1, x2⟩ := X.cells; have y0 := X.fz 0; have y1 := X.fz 1; have y2 := X.fz 2; have bl : Below w.heap.size w w1 := ((Below.refl _ _).alloc (Nat.le_refl _) _).trans (hb.mono (by simp)); clear hb))
    exact bodyPost_ret (v := .tuple #[.agg #[.bool R1, .string R2, .int .i64 R3], .int .i64 R4]) (by simp [results, Tryd.results6, go_sem, x0, x1, x2]) rfl ⟨rfl, ((bl.setCell (by simp) _).setCell (by simp) _).setCell (by simp) _⟩
  · have n1 : (j : Int) < s.size := by omega
    have n2 : ((s[j].toNat : Int) == 101) = false := by rw [beq_eq_false_iff_ne]; omega
    have n3 : ((s[j].toNat : Int) == 69) = true := by rw [beq_iff_eq]; omega
    have n4 : IntKind.i64.wrap ((j : Int) + 1) = (k3 : Int) := by rw [show (j : Int) + 1 = (k3 : Int) by omega]; exact IntWalk.i64_in _ (by omega)
    have n5 : (k3 : Int) < s.size := by omega
    have n6 : ((s[k3].toNat : Int) == 45) = true := by rw [beq_iff_eq]; omega
    have n8 : IntKind.i64.wrap ((k3 : Int) + 1) = (k4 : Int) := by rw [show (k3 : Int) + 1 = (k4 : Int) by omega]; exact IntWalk.i64_in _ (by omega)
    have u1 : ((s.size : Int) == (k4 : Int)) = false := by rw [beq_eq_false_iff_ne]; omega
    have u2 : (k4 : Int) ≤ s.size := by omega
    have u3 : (s.size : Int) ≤ s.size := by omega
    have u4 : (0 : Int) ≤ k4 := by omega
    have u5 : (0 : Int) ≤ s.size := by omega
    have v1 : IntKind.i64.wrap (-(v : Int)) = -(v : Int) := IntWalk.i64_in _ (by omega)
    have v2 : IntKind.i64.wrap (E + -(v : Int)) = E + -(v : Int) := IntWalk.i64_in _ (by omega)
    clear HW d2 d3 d5 d6
    go_wp2_with (first | (go_at_call 13; first | ((with_reducible refine (HR1.out _).mono ?_); rintro e w1 ⟨rfl, rfl⟩) | ((with_reducible refine (HR2.out _).mono ?_); rintro e w1 ⟨rfl, rfl⟩) | ((with_reducible refine (HR3.out _).mono ?_); rintro e w1 ⟨rfl, rfl⟩)) | (go_at_call 14; ((with_reducible refine (HP.out _).mono ?_); rintro e w1 ⟨rfl, rfl⟩)) | (go_at_call 15; (with_reducible refine (HM.out _).mono ?_); rintro e w1 ⟨rfl, hb⟩; have X := HCC.out.below hb HCC.out.lt; obtain ⟨x0, x1, x2⟩ := X.cells; have y0 := X.fz 0; have y1 := X.fz 1; have y2 := X.fz 2; have bl : Below w.heap.size w w1 := ((Below.refl _ _).alloc (Nat.le_refl _) _).trans (hb.mono (by simp)); clear hb))
    exact bodyPost_ret (v := .tuple #[.agg #[.bool R1, .string R2, .int .i64 R3], .int .i64 R4]) (by simp [results, Tryd.results6, go_sem, x0, x1, x2]) rfl ⟨rfl, ((bl.setCell (by simp) _).setCell (by simp) _).setCell (by simp) _⟩
  · have n1 : (j : Int) < s.size := by omega
    have n2 : ((s[j].toNat : Int) == 101) = false := by rw [beq_eq_false_iff_ne]; omega
    have n3 : ((s[j].toNat : Int) == 69) = true := by rw [beq_iff_eq]; omega
    have n4 : IntKind.i64.wrap ((j : Int) + 1) = (k3 : Int) := by rw [show (j : Int) + 1 = (k3 : Int) by omega]; exact IntWalk.i64_in _ (by omega)
    have n5 : (k3 : Int) < s.size := by omega
    have n6 : ((s[k3].toNat : Int) == 45) = false := by rw [beq_eq_false_iff_ne]; omega
    have n7 : ((s[k3].toNat : Int) == 43) = true := by rw [beq_iff_eq]; omega
    have n8 : IntKind.i64.wrap ((k3 : Int) + 1) = (k4 : Int) := by rw [show (k3 : Int) + 1 = (k4 : Int) by omega]; exact IntWalk.i64_in _ (by omega)
    have u1 : ((s.size : Int) == (k4 : Int)) = false := by rw [beq_eq_false_iff_ne]; omega
    have u2 : (k4 : Int) ≤ s.size := by omega
    have u3 : (s.size : Int) ≤ s.size := by omega
    have u4 : (0 : Int) ≤ k4 := by omega
    have u5 : (0 : Int) ≤ s.size := by omega
    have v2 : IntKind.i64.wrap (E + (v : Int)) = E + (v : Int) := IntWalk.i64_in _ (by omega)
    clear HW d2 d3 d5 d6
    go_wp2_with (first | (go_at_call 13; first | ((with_reducible refine (HR1.out _).mono ?_); rintro e w1 ⟨rfl, rfl⟩) | ((with_reducible refine (HR2.out _).mono ?_); rintro e w1 ⟨rfl, rfl⟩) | ((with_reducible refine (HR3.out _).mono ?_); rintro e w1 ⟨rfl, rfl⟩)) | (go_at_call 14; ((with_reducible refine (HP.out _).mono ?_); rintro e w1 ⟨rfl, rfl⟩)) | (go_at_call 15; (with_reducible refine (HM.out _).mono ?_); rintro e w1 ⟨rfl, hb⟩; have X := HCC.out.below hb HCC.out.lt; obtain ⟨x0, x1, x2⟩ := X.cells; have y0 := X.fz 0; have y1 := X.fz 1; have y2 := X.fz 2; have bl : Below w.heap.size w w1 := ((Below.refl _ _).alloc (Nat.le_refl _) _).trans (hb.mono (by simp)); clear hb))
    exact bodyPost_ret (v := .tuple #[.agg #[.bool R1, .string R2, .int .i64 R3], .int .i64 R4]) (by simp [results, Tryd.results6, go_sem, x0, x1, x2]) rfl ⟨rfl, ((bl.setCell (by simp) _).setCell (by simp) _).setCell (by simp) _⟩
  · have n1 : (j : Int) < s.size := by omega
    have n2 : ((s[j].toNat : Int) == 101) = false := by rw [beq_eq_false_iff_ne]; omega
    have n3 : ((s[j].toNat : Int) == 69) = true := by rw [beq_iff_eq]; omega
    have n4 : IntKind.i64.wrap ((j : Int) + 1) = (k3 : Int) := by rw [show (j : Int) + 1 = (k3 : Int) by omega]; exact IntWalk.i64_in _ (by omega)
    have n5 : (k3 : Int) < s.size := by omega
    have n6 : ((s[k3].toNat : Int) == 45) = false := by rw [beq_eq_false_iff_ne]; omega
    have n7 : ((s[k3].toNat : Int) == 43) = false := by rw [beq_eq_false_iff_ne]; omega
    have u1 : ((s.size : Int) == (k3 : Int)) = false := by rw [beq_eq_false_iff_ne]; omega
    have u2 : (k3 : Int) ≤ s.size := by omega
    have u3 : (s.size : Int) ≤ s.size := by omega
    have u4 : (0 : Int) ≤ k3 := by omega
    have u5 : (0 : Int) ≤ s.size := by omega
    have v2 : IntKind.i64.wrap (E + (v : Int)) = E + (v : Int) := IntWalk.i64_in _ (by omega)
    clear HW d2 d3 d5 d5b
    go_wp2_with (first | (go_at_call 13; first | ((with_reducible refine (HR1.out _).mono ?_); rintro e w1 ⟨rfl, rfl⟩) | ((with_reducible refine (HR2.out _).mono ?_); rintro e w1 ⟨rfl, rfl⟩) | ((with_reducible refine (HR3.out _).mono ?_); rintro e w1 ⟨rfl, rfl⟩)) | (go_at_call 14; ((with_reducible refine (HP.out _).mono ?_); rintro e w1 ⟨rfl, rfl⟩)) | (go_at_call 15; (with_reducible refine (HM.out _).mono ?_); rintro e w1 ⟨rfl, hb⟩; have X := HCC.out.below hb HCC.out.lt; obtain ⟨x0, x1, x2⟩ := X.cells; have y0 := X.fz 0; have y1 := X.fz 1; have y2 := X.fz 2; have bl : Below w.heap.size w w1 := ((Below.refl _ _).alloc (Nat.le_refl _) _).trans (hb.mono (by simp)); clear hb))
    exact bodyPost_ret (v := .tuple #[.agg #[.bool R1, .string R2, .int .i64 R3], .int .i64 R4]) (by simp [results, Tryd.results6, go_sem, x0, x1, x2]) rfl ⟨rfl, ((bl.setCell (by simp) _).setCell (by simp) _).setCell (by simp) _⟩
set_option maxRecDepth 100000 in
set_option maxHeartbeats 8000000 in
theorem rp_mn1_er (s a : ByteArray) (k1 : Nat) (w : World) (hs : s.size ≤ 1000) (h0 : 0 < s.size) (hg : (s[0]).toNat = 45) (hi : 1 < k1) (hk : k1 ≤ s.size) (HR1 : Hid (∀ w, Calls Tryd.prog 13 #[.string s, .int .i64 1] w fun e w' => e = .returned (.int .i64 k1) ∧ w' = w)) (ha : s.extract 1 k1 = a) (has : a.size ≤ 1000) (hw : ∀ hh : 1 < s.size, (s[1]).toNat ≠ 48) (f : ByteArray) (j p1 : Nat) (hp1 : k1 + 1 = p1) (hfk : ∀ hh : k1 < s.size, (s[k1]'hh).toNat = 46) (hfs : k1 < s.size) (hj : p1 < j) (hjs : j ≤ s.size) (HR2 : Hid (∀ w, Calls Tryd.prog 13 #[.string s, .int .i64 p1] w fun e w' => e = .returned (.int .i64 j) ∧ w' = w)) (hf : s.extract p1 j = f) (hfz : f.size ≤ 1000) (HW : Hid ((∃ d1 : j < s.size, (s[j]'d1).toNat ≠ 101 ∧ (s[j]'d1).toNat ≠ 69) ∨ (∃ (k3 k4 : Nat) (d1 : j < s.size), (s[j]'d1).toNat = 101 ∧ j + 1 = k3 ∧ (∃ d4 : k3 < s.size, (s[k3]'d4).toNat = 45 ∧ k3 + 1 = k4) ∧ (∃ j3 : Nat, k4 < j3 ∧ j3 < s.size ∧ Hid (∀ w, Calls Tryd.prog 13 #[.string s, .int .i64 k4] w fun e w' => e = .returned (.int .i64 j3) ∧ w' = w) ∧ (∃ (q : ByteArray) (v : Nat), s.extract k4 j3 = q ∧ v ≤ 1000000000 ∧ Hid (∀ w, Calls Tryd.prog 14 #[.string q] w fun e w' => e = .returned (.int .i64 v) ∧ w' = w)))) ∨ (∃ (k3 k4 : Nat) (d1 : j < s.size), (s[j]'d1).toNat = 101 ∧ j + 1 = k3 ∧ (∃ d4 : k3 < s.size, (s[k3]'d4).toNat = 45 ∧ k3 + 1 = k4) ∧ Hid (∀ w, Calls Tryd.prog 13 #[.string s, .int .i64 k4] w fun e w' => e = .returned (.int .i64 k4) ∧ w' = w)) ∨ (∃ (k3 k4 : Nat) (d1 : j < s.size), (s[j]'d1).toNat = 101 ∧ j + 1 = k3 ∧ (∃ d4 : k3 < s.size, (s[k3]'d4).toNat = 43 ∧ k3 + 1 = k4) ∧ (∃ j3 : Nat, k4 < j3 ∧ j3 < s.size ∧ Hid (∀ w, Calls Tryd.prog 13 #[.string s, .int .i64 k4] w fun e w' => e = .returned (.int .i64 j3) ∧ w' = w) ∧ (∃ (q : ByteArray) (v : Nat), s.extract k4 j3 = q ∧ v ≤ 1000000000 ∧ Hid (∀ w, Calls Tryd.prog 14 #[.string q] w fun e w' => e = .returned (.int .i64 v) ∧ w' = w)))) ∨ (∃ (k3 k4 : Nat) (d1 : j < s.size), (s[j]'d1).toNat = 101 ∧ j + 1 = k3 ∧ (∃ d4 : k3 < s.size, (s[k3]'d4).toNat = 43 ∧ k3 + 1 = k4) ∧ Hid (∀ w, Calls Tryd.prog 13 #[.string s, .int .i64 k4] w fun e w' => e = .returned (.int .i64 k4) ∧ w' = w)) ∨ (∃ (k3 k4 : Nat) (d1 : j < s.size), (s[j]'d1).toNat = 101 ∧ j + 1 = k3 ∧ (∃ d4 : k3 < s.size, ((s[k3]'d4).toNat ≠ 45 ∧ (s[k3]'d4).toNat ≠ 43) ∧ k3 = k4) ∧ (∃ j3 : Nat, k4 < j3 ∧ j3 < s.size ∧ Hid (∀ w, Calls Tryd.prog 13 #[.string s, .int .i64 k4] w fun e w' => e = .returned (.int .i64 j3) ∧ w' = w) ∧ (∃ (q : ByteArray) (v : Nat), s.extract k4 j3 = q ∧ v ≤ 1000000000 ∧ Hid (∀ w, Calls Tryd.prog 14 #[.string q] w fun e w' => e = .returned (.int .i64 v) ∧ w' = w)))) ∨ (∃ (k3 k4 : Nat) (d1 : j < s.size), (s[j]'d1).toNat = 101 ∧ j + 1 = k3 ∧ (∃ d4 : k3 < s.size, ((s[k3]'d4).toNat ≠ 45 ∧ (s[k3]'d4).toNat ≠ 43) ∧ k3 = k4) ∧ Hid (∀ w, Calls Tryd.prog 13 #[.string s, .int .i64 k4] w fun e w' => e = .returned (.int .i64 k4) ∧ w' = w)) ∨ (∃ (k3 : Nat) (d1 : j < s.size), (s[j]'d1).toNat = 101 ∧ j + 1 = k3 ∧ k3 = s.size ∧ Hid (∀ w, Calls Tryd.prog 13 #[.string s, .int .i64 k3] w fun e w' => e = .returned (.int .i64 k3) ∧ w' = w)) ∨ (∃ (k3 k4 : Nat) (d1 : j < s.size), (s[j]'d1).toNat = 69 ∧ j + 1 = k3 ∧ (∃ d4 : k3 < s.size, (s[k3]'d4).toNat = 45 ∧ k3 + 1 = k4) ∧ (∃ j3 : Nat, k4 < j3 ∧ j3 < s.size ∧ Hid (∀ w, Calls Tryd.prog 13 #[.string s, .int .i64 k4] w fun e w' => e = .returned (.int .i64 j3) ∧ w' = w) ∧ (∃ (q : ByteArray) (v : Nat), s.extract k4 j3 = q ∧ v ≤ 1000000000 ∧ Hid (∀ w, Calls Tryd.prog 14 #[.string q] w fun e w' => e = .returned (.int .i64 v) ∧ w' = w)))) ∨ (∃ (k3 k4 : Nat) (d1 : j < s.size), (s[j]'d1).toNat = 69 ∧ j + 1 = k3 ∧ (∃ d4 : k3 < s.size, (s[k3]'d4).toNat = 45 ∧ k3 + 1 = k4) ∧ Hid (∀ w, Calls Tryd.prog 13 #[.string s, .int .i64 k4] w fun e w' => e = .returned (.int .i64 k4) ∧ w' = w)) ∨ (∃ (k3 k4 : Nat) (d1 : j < s.size), (s[j]'d1).toNat = 69 ∧ j + 1 = k3 ∧ (∃ d4 : k3 < s.size, (s[k3]'d4).toNat = 43 ∧ k3 + 1 = k4) ∧ (∃ j3 : Nat, k4 < j3 ∧ j3 < s.size ∧ Hid (∀ w, Calls Tryd.prog 13 #[.string s, .int .i64 k4] w fun e w' => e = .returned (.int .i64 j3) ∧ w' = w) ∧ (∃ (q : ByteArray) (v : Nat), s.extract k4 j3 = q ∧ v ≤ 1000000000 ∧ Hid (∀ w, Calls Tryd.prog 14 #[.string q] w fun e w' => e = .returned (.int .i64 v) ∧ w' = w)))) ∨ (∃ (k3 k4 : Nat) (d1 : j < s.size), (s[j]'d1).toNat = 69 ∧ j + 1 = k3 ∧ (∃ d4 : k3 < s.size, (s[k3]'d4).toNat = 43 ∧ k3 + 1 = k4) ∧ Hid (∀ w, Calls Tryd.prog 13 #[.string s, .int .i64 k4] w fun e w' => e = .returned (.int .i64 k4) ∧ w' = w)) ∨ (∃ (k3 k4 : Nat) (d1 : j < s.size), (s[j]'d1).toNat = 69 ∧ j + 1 = k3 ∧ (∃ d4 : k3 < s.size, ((s[k3]'d4).toNat ≠ 45 ∧ (s[k3]'d4).toNat ≠ 43) ∧ k3 = k4) ∧ (∃ j3 : Nat, k4 < j3 ∧ j3 < s.size ∧ Hid (∀ w, Calls Tryd.prog 13 #[.string s, .int .i64 k4] w fun e w' => e = .returned (.int .i64 j3) ∧ w' = w) ∧ (∃ (q : ByteArray) (v : Nat), s.extract k4 j3 = q ∧ v ≤ 1000000000 ∧ Hid (∀ w, Calls Tryd.prog 14 #[.string q] w fun e w' => e = .returned (.int .i64 v) ∧ w' = w)))) ∨ (∃ (k3 k4 : Nat) (d1 : j < s.size), (s[j]'d1).toNat = 69 ∧ j + 1 = k3 ∧ (∃ d4 : k3 < s.size, ((s[k3]'d4).toNat ≠ 45 ∧ (s[k3]'d4).toNat ≠ 43) ∧ k3 = k4) ∧ Hid (∀ w, Calls Tryd.prog 13 #[.string s, .int .i64 k4] w fun e w' => e = .returned (.int .i64 k4) ∧ w' = w)) ∨ (∃ (k3 : Nat) (d1 : j < s.size), (s[j]'d1).toNat = 69 ∧ j + 1 = k3 ∧ k3 = s.size ∧ Hid (∀ w, Calls Tryd.prog 13 #[.string s, .int .i64 k3] w fun e w' => e = .returned (.int .i64 k3) ∧ w' = w)))) : Calls Tryd.prog 6 #[.string s] w fun e w' => e = .returned (.tuple #[.agg #[.bool false, .string ⟨#[]⟩, .int .i64 0], .int .i64 3]) ∧ Below w.heap.size w w' := by
  have HCC := Lib.hid (DC.new w false ⟨#[]⟩ 0)
  have z1 : (0 : Int) < s.size := by omega
  have z2 : (1 : Int) < s.size := by omega
  have z3 : 1 < s.size := by omega
  have z4 : ((k1 : Int) == 1) = false := by rw [beq_eq_false_iff_ne]; omega
  have z5 : (1 : Int) ≤ k1 := by omega
  have z6 : (k1 : Int) ≤ s.size := by omega
  have z7 : (0 : Int) ≤ k1 := by omega
  have b0 : ((s[0].toNat : Int) == 45) = true := by rw [beq_iff_eq]; omega
  have b1 : ((s[1].toNat : Int) == 48) = false := by have := hw z3; rw [beq_eq_false_iff_ne]; omega
  have f1 : (k1 : Int) < s.size := by omega
  have f2 : ((s[k1].toNat : Int) == 46) = true := by have := hfk hfs; rw [beq_iff_eq]; omega
  have f3 : IntKind.i64.wrap ((k1 : Int) + 1) = (p1 : Int) := by rw [show (k1 : Int) + 1 = (p1 : Int) by omega]; exact IntWalk.i64_in _ (by omega)
  have f4 : ((j : Int) == (p1 : Int)) = false := by rw [beq_eq_false_iff_ne]; omega
  have f5 : (p1 : Int) ≤ j := by omega
  have f6 : (j : Int) ≤ s.size := by omega
  have f7 : (0 : Int) ≤ p1 := by omega
  have f8 : (0 : Int) ≤ j := by omega
  obtain ⟨E, hE⟩ : ∃ E : Int, (p1 : Int) - (j : Int) = E := ⟨_, rfl⟩
  have f9 : IntKind.i64.wrap ((p1 : Int) - (j : Int)) = E := by rw [hE]; exact IntWalk.i64_in _ (by omega)
  have hEb : -1000 ≤ E ∧ E ≤ 0 := by omega
  have g1 : ¬ 9223372036854775807 < a.size + f.size := by omega
  have g2 : a.size + f.size ≤ 9223372036854775807 := by omega
  clear hw hfk
  go_enter Tryd.func6, Tryd.ntmps6
  go_upto_region 17 with (go_at_call 13; first | ((with_reducible refine (HR1.out _).mono ?_); rintro e w1 ⟨rfl, rfl⟩) | ((with_reducible refine (HR2.out _).mono ?_); rintro e w1 ⟨rfl, rfl⟩))
  rcases HW.out with ⟨d1, d2, d3⟩ | ⟨k3, k4, d1, d2, d3, ⟨d4, d5, d6⟩, j3, e0, e1, HR3, q, v, e2, e3, HP⟩ | ⟨k3, k4, d1, d2, d3, ⟨d4, d5, d6⟩, HR3⟩ | ⟨k3, k4, d1, d2, d3, ⟨d4, d5, d6⟩, j3, e0, e1, HR3, q, v, e2, e3, HP⟩ | ⟨k3, k4, d1, d2, d3, ⟨d4, d5, d6⟩, HR3⟩ | ⟨k3, k4, d1, d2, d3, ⟨d4, ⟨d5, d5b⟩, rfl⟩, j3, e0, e1, HR3, q, v, e2, e3, HP⟩ | ⟨k3, k4, d1, d2, d3, ⟨d4, ⟨d5, d5b⟩, rfl⟩, HR3⟩ | ⟨k3, d1, d2, d3, d4, HR3⟩ | ⟨k3, k4, d1, d2, d3, ⟨d4, d5, d6⟩, j3, e0, e1, HR3, q, v, e2, e3, HP⟩ | ⟨k3, k4, d1, d2, d3, ⟨d4, d5, d6⟩, HR3⟩ | ⟨k3, k4, d1, d2, d3, ⟨d4, d5, d6⟩, j3, e0, e1, HR3, q, v, e2, e3, HP⟩ | ⟨k3, k4, d1, d2, d3, ⟨d4, d5, d6⟩, HR3⟩ | ⟨k3, k4, d1, d2, d3, ⟨d4, ⟨d5, d5b⟩, rfl⟩, j3, e0, e1, HR3, q, v, e2, e3, HP⟩ | ⟨k3, k4, d1, d2, d3, ⟨d4, ⟨d5, d5b⟩, rfl⟩, HR3⟩ | ⟨k3, d1, d2, d3, d4, HR3⟩
  · have n1 : (j : Int) < s.size := by omega
    have n2 : ((s[j].toNat : Int) == 101) = false := by rw [beq_eq_false_iff_ne]; omega
    have n3 : ((s[j].toNat : Int) == 69) = false := by rw [beq_eq_false_iff_ne]; omega
    clear HW d2 d3
    have x012 := (DC.new w false ⟨#[]⟩ 0).cells
    obtain ⟨x0, x1, x2⟩ := x012
    have y0 := (DC.new w false ⟨#[]⟩ 0).fz 0
    have y1 := (DC.new w false ⟨#[]⟩ 0).fz 1
    have y2 := (DC.new w false ⟨#[]⟩ 0).fz 2
    have bl : Below w.heap.size w (w.alloc (.cells #[.bool false, .string ⟨#[]⟩, .int .i64 0] 24)) := (Below.refl _ _).alloc (Nat.le_refl _) _
    go_wp2_with (first | (go_at_call 13; first | ((with_reducible refine (HR1.out _).mono ?_); rintro e w1 ⟨rfl, rfl⟩) | ((with_reducible refine (HR2.out _).mono ?_); rintro e w1 ⟨rfl, rfl⟩) | fail))
    exact bodyPost_ret (v := .tuple #[.agg #[.bool false, .string ⟨#[]⟩, .int .i64 0], .int .i64 3]) (by simp [results, Tryd.results6, go_sem, x0, x1, x2]) rfl ⟨rfl, bl⟩
  · have n1 : (j : Int) < s.size := by omega
    have n2 : ((s[j].toNat : Int) == 101) = true := by rw [beq_iff_eq]; omega
    have n4 : IntKind.i64.wrap ((j : Int) + 1) = (k3 : Int) := by rw [show (j : Int) + 1 = (k3 : Int) by omega]; exact IntWalk.i64_in _ (by omega)
    have n5 : (k3 : Int) < s.size := by omega
    have n6 : ((s[k3].toNat : Int) == 45) = true := by rw [beq_iff_eq]; omega
    have n8 : IntKind.i64.wrap ((k3 : Int) + 1) = (k4 : Int) := by rw [show (k3 : Int) + 1 = (k4 : Int) by omega]; exact IntWalk.i64_in _ (by omega)
    have u1 : ((j3 : Int) == (k4 : Int)) = false := by rw [beq_eq_false_iff_ne]; omega
    have u2 : (k4 : Int) ≤ j3 := by omega
    have u3 : (j3 : Int) ≤ s.size := by omega
    have u4 : (0 : Int) ≤ k4 := by omega
    have u5 : (0 : Int) ≤ j3 := by omega
    have v1 : IntKind.i64.wrap (-(v : Int)) = -(v : Int) := IntWalk.i64_in _ (by omega)
    have v2 : IntKind.i64.wrap (E + -(v : Int)) = E + -(v : Int) := IntWalk.i64_in _ (by omega)
    have u6 : (j3 : Int) < s.size := by omega
    clear HW d2 d3 d5 d6
    have x012 := (DC.new w false ⟨#[]⟩ 0).cells
    obtain ⟨x0, x1, x2⟩ := x012
    have y0 := (DC.new w false ⟨#[]⟩ 0).fz 0
    have y1 := (DC.new w false ⟨#[]⟩ 0).fz 1
    have y2 := (DC.new w false ⟨#[]⟩ 0).fz 2
    have bl : Below w.heap.size w (w.alloc (.cells #[.bool false, .string ⟨#[]⟩, .int .i64 0] 24)) := (Below.refl _ _).alloc (Nat.le_refl _) _
    go_wp2_with (first | (go_at_call 13; first | ((with_reducible refine (HR1.out _).mono ?_); rintro e w1 ⟨rfl, rfl⟩) | ((with_reducible refine (HR2.out _).mono ?_); rintro e w1 ⟨rfl, rfl⟩) | ((with_reducible refine (HR3.out _).mono ?_); rintro e w1 ⟨rfl, rfl⟩)) | (go_at_call 14; ((with_reducible refine (HP.out _).mono ?_); rintro e w1 ⟨rfl, rfl⟩)))
    exact bodyPost_ret (v := .tuple #[.agg #[.bool false, .string ⟨#[]⟩, .int .i64 0], .int .i64 3]) (by simp [results, Tryd.results6, go_sem, x0, x1, x2]) rfl ⟨rfl, bl⟩
  · have n1 : (j : Int) < s.size := by omega
    have n2 : ((s[j].toNat : Int) == 101) = true := by rw [beq_iff_eq]; omega
    have n4 : IntKind.i64.wrap ((j : Int) + 1) = (k3 : Int) := by rw [show (j : Int) + 1 = (k3 : Int) by omega]; exact IntWalk.i64_in _ (by omega)
    have n5 : (k3 : Int) < s.size := by omega
    have n6 : ((s[k3].toNat : Int) == 45) = true := by rw [beq_iff_eq]; omega
    have n8 : IntKind.i64.wrap ((k3 : Int) + 1) = (k4 : Int) := by rw [show (k3 : Int) + 1 = (k4 : Int) by omega]; exact IntWalk.i64_in _ (by omega)
    clear HW d2 d3 d5 d6
    have x012 := (DC.new w false ⟨#[]⟩ 0).cells
    obtain ⟨x0, x1, x2⟩ := x012
    have y0 := (DC.new w false ⟨#[]⟩ 0).fz 0
    have y1 := (DC.new w false ⟨#[]⟩ 0).fz 1
    have y2 := (DC.new w false ⟨#[]⟩ 0).fz 2
    have bl : Below w.heap.size w (w.alloc (.cells #[.bool false, .string ⟨#[]⟩, .int .i64 0] 24)) := (Below.refl _ _).alloc (Nat.le_refl _) _
    go_wp2_with (first | (go_at_call 13; first | ((with_reducible refine (HR1.out _).mono ?_); rintro e w1 ⟨rfl, rfl⟩) | ((with_reducible refine (HR2.out _).mono ?_); rintro e w1 ⟨rfl, rfl⟩) | ((with_reducible refine (HR3.out _).mono ?_); rintro e w1 ⟨rfl, rfl⟩)))
    exact bodyPost_ret (v := .tuple #[.agg #[.bool false, .string ⟨#[]⟩, .int .i64 0], .int .i64 3]) (by simp [results, Tryd.results6, go_sem, x0, x1, x2]) rfl ⟨rfl, bl⟩
  · have n1 : (j : Int) < s.size := by omega
    have n2 : ((s[j].toNat : Int) == 101) = true := by rw [beq_iff_eq]; omega
    have n4 : IntKind.i64.wrap ((j : Int) + 1) = (k3 : Int) := by rw [show (j : Int) + 1 = (k3 : Int) by omega]; exact IntWalk.i64_in _ (by omega)
    have n5 : (k3 : Int) < s.size := by omega
    have n6 : ((s[k3].toNat : Int) == 45) = false := by rw [beq_eq_false_iff_ne]; omega
    have n7 : ((s[k3].toNat : Int) == 43) = true := by rw [beq_iff_eq]; omega
    have n8 : IntKind.i64.wrap ((k3 : Int) + 1) = (k4 : Int) := by rw [show (k3 : Int) + 1 = (k4 : Int) by omega]; exact IntWalk.i64_in _ (by omega)
    have u1 : ((j3 : Int) == (k4 : Int)) = false := by rw [beq_eq_false_iff_ne]; omega
    have u2 : (k4 : Int) ≤ j3 := by omega
    have u3 : (j3 : Int) ≤ s.size := by omega
    have u4 : (0 : Int) ≤ k4 := by omega
    have u5 : (0 : Int) ≤ j3 := by omega
    have v2 : IntKind.i64.wrap (E + (v : Int)) = E + (v : Int) := IntWalk.i64_in _ (by omega)
    have u6 : (j3 : Int) < s.size := by omega
    clear HW d2 d3 d5 d6
    have x012 := (DC.new w false ⟨#[]⟩ 0).cells
    obtain ⟨x0, x1, x2⟩ := x012
    have y0 := (DC.new w false ⟨#[]⟩ 0).fz 0
    have y1 := (DC.new w false ⟨#[]⟩ 0).fz 1
    have y2 := (DC.new w false ⟨#[]⟩ 0).fz 2
    have bl : Below w.heap.size w (w.alloc (.cells #[.bool false, .string ⟨#[]⟩, .int .i64 0] 24)) := (Below.refl _ _).alloc (Nat.le_refl _) _
    go_wp2_with (first | (go_at_call 13; first | ((with_reducible refine (HR1.out _).mono ?_); rintro e w1 ⟨rfl, rfl⟩) | ((with_reducible refine (HR2.out _).mono ?_); rintro e w1 ⟨rfl, rfl⟩) | ((with_reducible refine (HR3.out _).mono ?_); rintro e w1 ⟨rfl, rfl⟩)) | (go_at_call 14; ((with_reducible refine (HP.out _).mono ?_); rintro e w1 ⟨rfl, rfl⟩)))
    exact bodyPost_ret (v := .tuple #[.agg #[.bool false, .string ⟨#[]⟩, .int .i64 0], .int .i64 3]) (by simp [results, Tryd.results6, go_sem, x0, x1, x2]) rfl ⟨rfl, bl⟩
  · have n1 : (j : Int) < s.size := by omega
    have n2 : ((s[j].toNat : Int) == 101) = true := by rw [beq_iff_eq]; omega
    have n4 : IntKind.i64.wrap ((j : Int) + 1) = (k3 : Int) := by rw [show (j : Int) + 1 = (k3 : Int) by omega]; exact IntWalk.i64_in _ (by omega)
    have n5 : (k3 : Int) < s.size := by omega
    have n6 : ((s[k3].toNat : Int) == 45) = false := by rw [beq_eq_false_iff_ne]; omega
    have n7 : ((s[k3].toNat : Int) == 43) = true := by rw [beq_iff_eq]; omega
    have n8 : IntKind.i64.wrap ((k3 : Int) + 1) = (k4 : Int) := by rw [show (k3 : Int) + 1 = (k4 : Int) by omega]; exact IntWalk.i64_in _ (by omega)
    clear HW d2 d3 d5 d6
    have x012 := (DC.new w false ⟨#[]⟩ 0).cells
    obtain ⟨x0, x1, x2⟩ := x012
    have y0 := (DC.new w false ⟨#[]⟩ 0).fz 0
    have y1 := (DC.new w false ⟨#[]⟩ 0).fz 1
    have y2 := (DC.new w false ⟨#[]⟩ 0).fz 2
    have bl : Below w.heap.size w (w.alloc (.cells #[.bool false, .string ⟨#[]⟩, .int .i64 0] 24)) := (Below.refl _ _).alloc (Nat.le_refl _) _
    go_wp2_with (first | (go_at_call 13; first | ((with_reducible refine (HR1.out _).mono ?_); rintro e w1 ⟨rfl, rfl⟩) | ((with_reducible refine (HR2.out _).mono ?_); rintro e w1 ⟨rfl, rfl⟩) | ((with_reducible refine (HR3.out _).mono ?_); rintro e w1 ⟨rfl, rfl⟩)))
    exact bodyPost_ret (v := .tuple #[.agg #[.bool false, .string ⟨#[]⟩, .int .i64 0], .int .i64 3]) (by simp [results, Tryd.results6, go_sem, x0, x1, x2]) rfl ⟨rfl, bl⟩
  · have n1 : (j : Int) < s.size := by omega
    have n2 : ((s[j].toNat : Int) == 101) = true := by rw [beq_iff_eq]; omega
    have n4 : IntKind.i64.wrap ((j : Int) + 1) = (k3 : Int) := by rw [show (j : Int) + 1 = (k3 : Int) by omega]; exact IntWalk.i64_in _ (by omega)
    have n5 : (k3 : Int) < s.size := by omega
    have n6 : ((s[k3].toNat : Int) == 45) = false := by rw [beq_eq_false_iff_ne]; omega
    have n7 : ((s[k3].toNat : Int) == 43) = false := by rw [beq_eq_false_iff_ne]; omega
    have u1 : ((j3 : Int) == (k3 : Int)) = false := by rw [beq_eq_false_iff_ne]; omega
    have u2 : (k3 : Int) ≤ j3 := by omega
    have u3 : (j3 : Int) ≤ s.size := by omega
    have u4 : (0 : Int) ≤ k3 := by omega
    have u5 : (0 : Int) ≤ j3 := by omega
    have v2 : IntKind.i64.wrap (E + (v : Int)) = E + (v : Int) := IntWalk.i64_in _ (by omega)
    have u6 : (j3 : Int) < s.size := by omega
    clear HW d2 d3 d5 d5b
    have x012 := (DC.new w false ⟨#[]⟩ 0).cells
    obtain ⟨x0, x1, x2⟩ := x012
    have y0 := (DC.new w false ⟨#[]⟩ 0).fz 0
    have y1 := (DC.new w false ⟨#[]⟩ 0).fz 1
    have y2 := (DC.new w false ⟨#[]⟩ 0).fz 2
    have bl : Below w.heap.size w (w.alloc (.cells #[.bool false, .string ⟨#[]⟩, .int .i64 0] 24)) := (Below.refl _ _).alloc (Nat.le_refl _) _
    go_wp2_with (first | (go_at_call 13; first | ((with_reducible refine (HR1.out _).mono ?_); rintro e w1 ⟨rfl, rfl⟩) | ((with_reducible refine (HR2.out _).mono ?_); rintro e w1 ⟨rfl, rfl⟩) | ((with_reducible refine (HR3.out _).mono ?_); rintro e w1 ⟨rfl, rfl⟩)) | (go_at_call 14; ((with_reducible refine (HP.out _).mono ?_); rintro e w1 ⟨rfl, rfl⟩)))
    exact bodyPost_ret (v := .tuple #[.agg #[.bool false, .string ⟨#[]⟩, .int .i64 0], .int .i64 3]) (by simp [results, Tryd.results6, go_sem, x0, x1, x2]) rfl ⟨rfl, bl⟩
  · have n1 : (j : Int) < s.size := by omega
    have n2 : ((s[j].toNat : Int) == 101) = true := by rw [beq_iff_eq]; omega
    have n4 : IntKind.i64.wrap ((j : Int) + 1) = (k3 : Int) := by rw [show (j : Int) + 1 = (k3 : Int) by omega]; exact IntWalk.i64_in _ (by omega)
    have n5 : (k3 : Int) < s.size := by omega
    have n6 : ((s[k3].toNat : Int) == 45) = false := by rw [beq_eq_false_iff_ne]; omega
    have n7 : ((s[k3].toNat : Int) == 43) = false := by rw [beq_eq_false_iff_ne]; omega
    clear HW d2 d3 d5 d5b
    have x012 := (DC.new w false ⟨#[]⟩ 0).cells
    obtain ⟨x0, x1, x2⟩ := x012
    have y0 := (DC.new w false ⟨#[]⟩ 0).fz 0
    have y1 := (DC.new w false ⟨#[]⟩ 0).fz 1
    have y2 := (DC.new w false ⟨#[]⟩ 0).fz 2
    have bl : Below w.heap.size w (w.alloc (.cells #[.bool false, .string ⟨#[]⟩, .int .i64 0] 24)) := (Below.refl _ _).alloc (Nat.le_refl _) _
    go_wp2_with (first | (go_at_call 13; first | ((with_reducible refine (HR1.out _).mono ?_); rintro e w1 ⟨rfl, rfl⟩) | ((with_reducible refine (HR2.out _).mono ?_); rintro e w1 ⟨rfl, rfl⟩) | ((with_reducible refine (HR3.out _).mono ?_); rintro e w1 ⟨rfl, rfl⟩)))
    exact bodyPost_ret (v := .tuple #[.agg #[.bool false, .string ⟨#[]⟩, .int .i64 0], .int .i64 3]) (by simp [results, Tryd.results6, go_sem, x0, x1, x2]) rfl ⟨rfl, bl⟩
  · have n1 : (j : Int) < s.size := by omega
    have n2 : ((s[j].toNat : Int) == 101) = true := by rw [beq_iff_eq]; omega
    have n4 : IntKind.i64.wrap ((j : Int) + 1) = (k3 : Int) := by rw [show (j : Int) + 1 = (k3 : Int) by omega]; exact IntWalk.i64_in _ (by omega)
    have n5 : ¬ (k3 : Int) < s.size := by omega
    clear HW d2 d3 d4
    have x012 := (DC.new w false ⟨#[]⟩ 0).cells
    obtain ⟨x0, x1, x2⟩ := x012
    have y0 := (DC.new w false ⟨#[]⟩ 0).fz 0
    have y1 := (DC.new w false ⟨#[]⟩ 0).fz 1
    have y2 := (DC.new w false ⟨#[]⟩ 0).fz 2
    have bl : Below w.heap.size w (w.alloc (.cells #[.bool false, .string ⟨#[]⟩, .int .i64 0] 24)) := (Below.refl _ _).alloc (Nat.le_refl _) _
    go_wp2_with (first | (go_at_call 13; first | ((with_reducible refine (HR1.out _).mono ?_); rintro e w1 ⟨rfl, rfl⟩) | ((with_reducible refine (HR2.out _).mono ?_); rintro e w1 ⟨rfl, rfl⟩) | ((with_reducible refine (HR3.out _).mono ?_); rintro e w1 ⟨rfl, rfl⟩)))
    exact bodyPost_ret (v := .tuple #[.agg #[.bool false, .string ⟨#[]⟩, .int .i64 0], .int .i64 3]) (by simp [results, Tryd.results6, go_sem, x0, x1, x2]) rfl ⟨rfl, bl⟩
  · have n1 : (j : Int) < s.size := by omega
    have n2 : ((s[j].toNat : Int) == 101) = false := by rw [beq_eq_false_iff_ne]; omega
    have n3 : ((s[j].toNat : Int) == 69) = true := by rw [beq_iff_eq]; omega
    have n4 : IntKind.i64.wrap ((j : Int) + 1) = (k3 : Int) := by rw [show (j : Int) + 1 = (k3 : Int) by omega]; exact IntWalk.i64_in _ (by omega)
    have n5 : (k3 : Int) < s.size := by omega
    have n6 : ((s[k3].toNat : Int) == 45) = true := by rw [beq_iff_eq]; omega
    have n8 : IntKind.i64.wrap ((k3 : Int) + 1) = (k4 : Int) := by rw [show (k3 : Int) + 1 = (k4 : Int) by omega]; exact IntWalk.i64_in _ (by omega)
    have u1 : ((j3 : Int) == (k4 : Int)) = false := by rw [beq_eq_false_iff_ne]; omega
    have u2 : (k4 : Int) ≤ j3 := by omega
    have u3 : (j3 : Int) ≤ s.size := by omega
    have u4 : (0 : Int) ≤ k4 := by omega
    have u5 : (0 : Int) ≤ j3 := by omega
    have v1 : IntKind.i64.wrap (-(v : Int)) = -(v : Int) := IntWalk.i64_in _ (by omega)
    have v2 : IntKind.i64.wrap (E + -(v : Int)) = E + -(v : Int) := IntWalk.i64_in _ (by omega)
    have u6 : (j3 : Int) < s.size := by omega
    clear HW d2 d3 d5 d6
    have x012 := (DC.new w false ⟨#[]⟩ 0).cells
    obtain ⟨x0, x1, x2⟩ := x012
    have y0 := (DC.new w false ⟨#[]⟩ 0).fz 0
    have y1 := (DC.new w false ⟨#[]⟩ 0).fz 1
    have y2 := (DC.new w false ⟨#[]⟩ 0).fz 2
    have bl : Below w.heap.size w (w.alloc (.cells #[.bool false, .string ⟨#[]⟩, .int .i64 0] 24)) := (Below.refl _ _).alloc (Nat.le_refl _) _
    go_wp2_with (first | (go_at_call 13; first | ((with_reducible refine (HR1.out _).mono ?_); rintro e w1 ⟨rfl, rfl⟩) | ((with_reducible refine (HR2.out _).mono ?_); rintro e w1 ⟨rfl, rfl⟩) | ((with_reducible refine (HR3.out _).mono ?_); rintro e w1 ⟨rfl, rfl⟩)) | (go_at_call 14; ((with_reducible refine (HP.out _).mono ?_); rintro e w1 ⟨rfl, rfl⟩)))
    exact bodyPost_ret (v := .tuple #[.agg #[.bool false, .string ⟨#[]⟩, .int .i64 0], .int .i64 3]) (by simp [results, Tryd.results6, go_sem, x0, x1, x2]) rfl ⟨rfl, bl⟩
  · have n1 : (j : Int) < s.size := by omega
    have n2 : ((s[j].toNat : Int) == 101) = false := by rw [beq_eq_false_iff_ne]; omega
    have n3 : ((s[j].toNat : Int) == 69) = true := by rw [beq_iff_eq]; omega
    have n4 : IntKind.i64.wrap ((j : Int) + 1) = (k3 : Int) := by rw [show (j : Int) + 1 = (k3 : Int) by omega]; exact IntWalk.i64_in _ (by omega)
    have n5 : (k3 : Int) < s.size := by omega
    have n6 : ((s[k3].toNat : Int) == 45) = true := by rw [beq_iff_eq]; omega
    have n8 : IntKind.i64.wrap ((k3 : Int) + 1) = (k4 : Int) := by rw [show (k3 : Int) + 1 = (k4 : Int) by omega]; exact IntWalk.i64_in _ (by omega)
    clear HW d2 d3 d5 d6
    have x012 := (DC.new w false ⟨#[]⟩ 0).cells
    obtain ⟨x0, x1, x2⟩ := x012
    have y0 := (DC.new w false ⟨#[]⟩ 0).fz 0
    have y1 := (DC.new w false ⟨#[]⟩ 0).fz 1
    have y2 := (DC.new w false ⟨#[]⟩ 0).fz 2
    have bl : Below w.heap.size w (w.alloc (.cells #[.bool false, .string ⟨#[]⟩, .int .i64 0] 24)) := (Below.refl _ _).alloc (Nat.le_refl _) _
    go_wp2_with (first | (go_at_call 13; first | ((with_reducible refine (HR1.out _).mono ?_); rintro e w1 ⟨rfl, rfl⟩) | ((with_reducible refine (HR2.out _).mono ?_); rintro e w1 ⟨rfl, rfl⟩) | ((with_reducible refine (HR3.out _).mono ?_); rintro e w1 ⟨rfl, rfl⟩)))
    exact bodyPost_ret (v := .tuple #[.agg #[.bool false, .string ⟨#[]⟩, .int .i64 0], .int .i64 3]) (by simp [results, Tryd.results6, go_sem, x0, x1, x2]) rfl ⟨rfl, bl⟩
  · have n1 : (j : Int) < s.size := by omega
    have n2 : ((s[j].toNat : Int) == 101) = false := by rw [beq_eq_false_iff_ne]; omega
    have n3 : ((s[j].toNat : Int) == 69) = true := by rw [beq_iff_eq]; omega
    have n4 : IntKind.i64.wrap ((j : Int) + 1) = (k3 : Int) := by rw [show (j : Int) + 1 = (k3 : Int) by omega]; exact IntWalk.i64_in _ (by omega)
    have n5 : (k3 : Int) < s.size := by omega
    have n6 : ((s[k3].toNat : Int) == 45) = false := by rw [beq_eq_false_iff_ne]; omega
    have n7 : ((s[k3].toNat : Int) == 43) = true := by rw [beq_iff_eq]; omega
    have n8 : IntKind.i64.wrap ((k3 : Int) + 1) = (k4 : Int) := by rw [show (k3 : Int) + 1 = (k4 : Int) by omega]; exact IntWalk.i64_in _ (by omega)
    have u1 : ((j3 : Int) == (k4 : Int)) = false := by rw [beq_eq_false_iff_ne]; omega
    have u2 : (k4 : Int) ≤ j3 := by omega
    have u3 : (j3 : Int) ≤ s.size := by omega
    have u4 : (0 : Int) ≤ k4 := by omega
    have u5 : (0 : Int) ≤ j3 := by omega
    have v2 : IntKind.i64.wrap (E + (v : Int)) = E + (v : Int) := IntWalk.i64_in _ (by omega)
    have u6 : (j3 : Int) < s.size := by omega
    clear HW d2 d3 d5 d6
    have x012 := (DC.new w false ⟨#[]⟩ 0).cells
    obtain ⟨x0, x1, x2⟩ := x012
    have y0 := (DC.new w false ⟨#[]⟩ 0).fz 0
    have y1 := (DC.new w false ⟨#[]⟩ 0).fz 1
    have y2 := (DC.new w false ⟨#[]⟩ 0).fz 2
    have bl : Below w.heap.size w (w.alloc (.cells #[.bool false, .string ⟨#[]⟩, .int .i64 0] 24)) := (Below.refl _ _).alloc (Nat.le_refl _) _
    go_wp2_with (first | (go_at_call 13; first | ((with_reducible refine (HR1.out _).mono ?_); rintro e w1 ⟨rfl, rfl⟩) | ((with_reducible refine (HR2.out _).mono ?_); rintro e w1 ⟨rfl, rfl⟩) | ((with_reducible refine (HR3.out _).mono ?_); rintro e w1 ⟨rfl, rfl⟩)) | (go_at_call 14; ((with_reducible refine (HP.out _).mono ?_); rintro e w1 ⟨rfl, rfl⟩)))
    exact bodyPost_ret (v := .tuple #[.agg #[.bool false, .string ⟨#[]⟩, .int .i64 0], .int .i64 3]) (by simp [results, Tryd.results6, go_sem, x0, x1, x2]) rfl ⟨rfl, bl⟩
  · have n1 : (j : Int) < s.size := by omega
    have n2 : ((s[j].toNat : Int) == 101) = false := by rw [beq_eq_false_iff_ne]; omega
    have n3 : ((s[j].toNat : Int) == 69) = true := by rw [beq_iff_eq]; omega
    have n4 : IntKind.i64.wrap ((j : Int) + 1) = (k3 : Int) := by rw [show (j : Int) + 1 = (k3 : Int) by omega]; exact IntWalk.i64_in _ (by omega)
    have n5 : (k3 : Int) < s.size := by omega
    have n6 : ((s[k3].toNat : Int) == 45) = false := by rw [beq_eq_false_iff_ne]; omega
    have n7 : ((s[k3].toNat : Int) == 43) = true := by rw [beq_iff_eq]; omega
    have n8 : IntKind.i64.wrap ((k3 : Int) + 1) = (k4 : Int) := by rw [show (k3 : Int) + 1 = (k4 : Int) by omega]; exact IntWalk.i64_in _ (by omega)
    clear HW d2 d3 d5 d6
    have x012 := (DC.new w false ⟨#[]⟩ 0).cells
    obtain ⟨x0, x1, x2⟩ := x012
    have y0 := (DC.new w false ⟨#[]⟩ 0).fz 0
    have y1 := (DC.new w false ⟨#[]⟩ 0).fz 1
    have y2 := (DC.new w false ⟨#[]⟩ 0).fz 2
    have bl : Below w.heap.size w (w.alloc (.cells #[.bool false, .string ⟨#[]⟩, .int .i64 0] 24)) := (Below.refl _ _).alloc (Nat.le_refl _) _
    go_wp2_with (first | (go_at_call 13; first | ((with_reducible refine (HR1.out _).mono ?_); rintro e w1 ⟨rfl, rfl⟩) | ((with_reducible refine (HR2.out _).mono ?_); rintro e w1 ⟨rfl, rfl⟩) | ((with_reducible refine (HR3.out _).mono ?_); rintro e w1 ⟨rfl, rfl⟩)))
    exact bodyPost_ret (v := .tuple #[.agg #[.bool false, .string ⟨#[]⟩, .int .i64 0], .int .i64 3]) (by simp [results, Tryd.results6, go_sem, x0, x1, x2]) rfl ⟨rfl, bl⟩
  · have n1 : (j : Int) < s.size := by omega
    have n2 : ((s[j].toNat : Int) == 101) = false := by rw [beq_eq_false_iff_ne]; omega
    have n3 : ((s[j].toNat : Int) == 69) = true := by rw [beq_iff_eq]; omega
    have n4 : IntKind.i64.wrap ((j : Int) + 1) = (k3 : Int) := by rw [show (j : Int) + 1 = (k3 : Int) by omega]; exact IntWalk.i64_in _ (by omega)
    have n5 : (k3 : Int) < s.size := by omega
    have n6 : ((s[k3].toNat : Int) == 45) = false := by rw [beq_eq_false_iff_ne]; omega
    have n7 : ((s[k3].toNat : Int) == 43) = false := by rw [beq_eq_false_iff_ne]; omega
    have u1 : ((j3 : Int) == (k3 : Int)) = false := by rw [beq_eq_false_iff_ne]; omega
    have u2 : (k3 : Int) ≤ j3 := by omega
    have u3 : (j3 : Int) ≤ s.size := by omega
    have u4 : (0 : Int) ≤ k3 := by omega
    have u5 : (0 : Int) ≤ j3 := by omega
    have v2 : IntKind.i64.wrap (E + (v : Int)) = E + (v : Int) := IntWalk.i64_in _ (by omega)
    have u6 : (j3 : Int) < s.size := by omega
    clear HW d2 d3 d5 d5b
    have x012 := (DC.new w false ⟨#[]⟩ 0).cells
    obtain ⟨x0, x1, x2⟩ := x012
    have y0 := (DC.new w false ⟨#[]⟩ 0).fz 0
    have y1 := (DC.new w false ⟨#[]⟩ 0).fz 1
    have y2 := (DC.new w false ⟨#[]⟩ 0).fz 2
    have bl : Below w.heap.size w (w.alloc (.cells #[.bool false, .string ⟨#[]⟩, .int .i64 0] 24)) := (Below.refl _ _).alloc (Nat.le_refl _) _
    go_wp2_with (first | (go_at_call 13; first | ((with_reducible refine (HR1.out _).mono ?_); rintro e w1 ⟨rfl, rfl⟩) | ((with_reducible refine (HR2.out _).mono ?_); rintro e w1 ⟨rfl, rfl⟩) | ((with_reducible refine (HR3.out _).mono ?_); rintro e w1 ⟨rfl, rfl⟩)) | (go_at_call 14; ((with_reducible refine (HP.out _).mono ?_); rintro e w1 ⟨rfl, rfl⟩)))
    exact bodyPost_ret (v := .tuple #[.agg #[.bool false, .string ⟨#[]⟩, .int .i64 0], .int .i64 3]) (by simp [results, Tryd.results6, go_sem, x0, x1, x2]) rfl ⟨rfl, bl⟩
  · have n1 : (j : Int) < s.size := by omega
    have n2 : ((s[j].toNat : Int) == 101) = false := by rw [beq_eq_false_iff_ne]; omega
    have n3 : ((s[j].toNat : Int) == 69) = true := by rw [beq_iff_eq]; omega
    have n4 : IntKind.i64.wrap ((j : Int) + 1) = (k3 : Int) := by rw [show (j : Int) + 1 = (k3 : Int) by omega]; exact IntWalk.i64_in _ (by omega)
    have n5 : (k3 : Int) < s.size := by omega
    have n6 : ((s[k3].toNat : Int) == 45) = false := by rw [beq_eq_false_iff_ne]; omega
    have n7 : ((s[k3].toNat : Int) == 43) = false := by rw [beq_eq_false_iff_ne]; omega
    clear HW d2 d3 d5 d5b
    have x012 := (DC.new w false ⟨#[]⟩ 0).cells
    obtain ⟨x0, x1, x2⟩ := x012
    have y0 := (DC.new w false ⟨#[]⟩ 0).fz 0
    have y1 := (DC.new w false ⟨#[]⟩ 0).fz 1
    have y2 := (DC.new w false ⟨#[]⟩ 0).fz 2
    have bl : Below w.heap.size w (w.alloc (.cells #[.bool false, .string ⟨#[]⟩, .int .i64 0] 24)) := (Below.refl _ _).alloc (Nat.le_refl _) _
    go_wp2_with (first | (go_at_call 13; first | ((with_reducible refine (HR1.out _).mono ?_); rintro e w1 ⟨rfl, rfl⟩) | ((with_reducible refine (HR2.out _).mono ?_); rintro e w1 ⟨rfl, rfl⟩) | ((with_reducible refine (HR3.out _).mono ?_); rintro e w1 ⟨rfl, rfl⟩)))
    exact bodyPost_ret (v := .tuple #[.agg #[.bool false, .string ⟨#[]⟩, .int .i64 0], .int .i64 3]) (by simp [results, Tryd.results6, go_sem, x0, x1, x2]) rfl ⟨rfl, bl⟩
  · have n1 : (j : Int) < s.size := by omega
    have n2 : ((s[j].toNat : Int) == 101) = false := by rw [beq_eq_false_iff_ne]; omega
    have n3 : ((s[j].toNat : Int) == 69) = true := by rw [beq_iff_eq]; omega
    have n4 : IntKind.i64.wrap ((j : Int) + 1) = (k3 : Int) := by rw [show (j : Int) + 1 = (k3 : Int) by omega]; exact IntWalk.i64_in _ (by omega)
    have n5 : ¬ (k3 : Int) < s.size := by omega
    clear HW d2 d3 d4
    have x012 := (DC.new w false ⟨#[]⟩ 0).cells
    obtain ⟨x0, x1, x2⟩ := x012
    have y0 := (DC.new w false ⟨#[]⟩ 0).fz 0
    have y1 := (DC.new w false ⟨#[]⟩ 0).fz 1
    have y2 := (DC.new w false ⟨#[]⟩ 0).fz 2
    have bl : Below w.heap.size w (w.alloc (.cells #[.bool false, .string ⟨#[]⟩, .int .i64 0] 24)) := (Below.refl _ _).alloc (Nat.le_refl _) _
    go_wp2_with (first | (go_at_call 13; first | ((with_reducible refine (HR1.out _).mono ?_); rintro e w1 ⟨rfl, rfl⟩) | ((with_reducible refine (HR2.out _).mono ?_); rintro e w1 ⟨rfl, rfl⟩) | ((with_reducible refine (HR3.out _).mono ?_); rintro e w1 ⟨rfl, rfl⟩)))
    exact bodyPost_ret (v := .tuple #[.agg #[.bool false, .string ⟨#[]⟩, .int .i64 0], .int .i64 3]) (by simp [results, Tryd.results6, go_sem, x0, x1, x2]) rfl ⟨rfl, bl⟩
end Go.Proofs.YtaikmelefllgpabDoor.Dec
