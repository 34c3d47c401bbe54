/-
  Package moment: the fields of any text.
-/
import Derived.Test.YtkbddelacjjapaaDoorMomBD
import Derived.Deep.DeepCutAuto
namespace Go.Proofs.YtkbddelacjjapaaDoor.Mom
open Go.RowKit
set_option linter.unusedVariables false
set_option linter.unusedSimpArgs false
open Go.Proofs.YtkbddelacjjapaaDoor.Cal

theorem FC.new2 (w : World) : FC ((w.alloc (.cells #[.int .i64 0, .int .i64 0, .int .i64 0, .int .i64 0, .int .i64 0, .int .i64 0, .int .i64 0, .int .i64 0, .bool false, .int .i64 0, .int .i64 0] 44)).alloc (.cells #[.int .i64 0, .int .i64 0, .int .i64 0, .int .i64 0, .int .i64 0, .int .i64 0, .int .i64 0, .int .i64 0, .bool false, .int .i64 0, .int .i64 0] 44)) (w.heap.size + 1) 0 0 0 0 0 0 0 0 false 0 0 := by
  have h2 := FC.new (w.alloc (.cells #[.int .i64 0, .int .i64 0, .int .i64 0, .int .i64 0, .int .i64 0, .int .i64 0, .int .i64 0, .int .i64 0, .bool false, .int .i64 0, .int .i64 0] 44))
  rwa [show (w.alloc (.cells #[.int .i64 0, .int .i64 0, .int .i64 0, .int .i64 0, .int .i64 0, .int .i64 0, .int .i64 0, .int .i64 0, .bool false, .int .i64 0, .int .i64 0] 44)).heap.size = w.heap.size + 1 by simp] at h2
set_option maxRecDepth 100000 in
set_option maxHeartbeats 8000000 in
theorem split_n1 (s : ByteArray) (HC : Hid (∀ (A : Nat) (W : World) (k y mo d : Int), FC W A k y mo d 0 0 0 0 false 0 0 → Calls Tryd.prog 35 #[.pointer (some ⟨A, 0, none⟩), .string s] W fun e w' => e = .returned (.tuple #[.string ⟨#[]⟩, .bool false]) ∧ Below A W w')) (w : World) (hnd : s.size < 10 ∨ (10 ≤ s.size ∧ formL (s.extract 0 10).data.toList p10 = false)) : Calls Tryd.prog 22 #[.string s] w fun e w' => e = .returned (.tuple #[.agg #[.int .i64 0, .int .i64 0, .int .i64 0, .int .i64 0, .int .i64 0, .int .i64 0, .int .i64 0, .int .i64 0, .bool false, .int .i64 0, .int .i64 0], .bool false]) ∧ Below w.heap.size w w' := by
  have HT0 := Lib.hid (C3.new w)
  rcases hnd with hz | ⟨hz, hf⟩
  · have h1 : ¬ (10 : Int) ≤ s.size := by omega
    have HF10 : Hid (FC _ (w.heap.size + 1) 0 0 0 0 0 0 0 0 false 0 0) := Lib.hid (FC.new2 w)
    have HR10 := Lib.hid HT0.out.r
    have HB10 := Lib.hid HT0.out.bel
    clear hz
    go_enter Tryd.func22, Tryd.ntmps22
    go_wp2_with (go_at_call 35; go_loud ((with_reducible refine (HC.out _ _ _ _ _ _ HF10.out).mono ?_); rintro e w3 ⟨rfl, hB⟩; have HR11 := Lib.hid (HR10.out.below hB (by omega)); have HB11 := Lib.hid (HB10.out.trans (hB.mono (by omega))); have c0 : w3.cell? ⟨w.heap.size, 0, none⟩ = some (.int .i64 0) := HR11.out.at_ 0 (by omega); have x0 := HR11.out.fz 0; have c1 : w3.cell? ⟨w.heap.size, 1, none⟩ = some (.int .i64 0) := HR11.out.at_ 1 (by omega); have x1 := HR11.out.fz 1; have c2 : w3.cell? ⟨w.heap.size, 2, none⟩ = some (.int .i64 0) := HR11.out.at_ 2 (by omega); have x2 := HR11.out.fz 2; have c3 : w3.cell? ⟨w.heap.size, 3, none⟩ = some (.int .i64 0) := HR11.out.at_ 3 (by omega); have x3 := HR11.out.fz 3; have c4 : w3.cell? ⟨w.heap.size, 4, none⟩ = some (.int .i64 0) := HR11.out.at_ 4 (by omega); have x4 := HR11.out.fz 4; have c5 : w3.cell? ⟨w.heap.size, 5, none⟩ = some (.int .i64 0) := HR11.out.at_ 5 (by omega); have x5 := HR11.out.fz 5; have c6 : w3.cell? ⟨w.heap.size, 6, none⟩ = some (.int .i64 0) := HR11.out.at_ 6 (by omega); have x6 := HR11.out.fz 6; have c7 : w3.cell? ⟨w.heap.size, 7, none⟩ = some (.int .i64 0) := HR11.out.at_ 7 (by omega); have x7 := HR11.out.fz 7; have c8 : w3.cell? ⟨w.heap.size, 8, none⟩ = some (.bool false) := HR11.out.at_ 8 (by omega); have x8 := HR11.out.fz 8; have c9 : w3.cell? ⟨w.heap.size, 9, none⟩ = some (.int .i64 0) := HR11.out.at_ 9 (by omega); have x9 := HR11.out.fz 9; have c10 : w3.cell? ⟨w.heap.size, 10, none⟩ = some (.int .i64 0) := HR11.out.at_ 10 (by omega); have x10 := HR11.out.fz 10; clear hB))
    exact bodyPost_ret (v := .tuple #[.agg #[.int .i64 0, .int .i64 0, .int .i64 0, .int .i64 0, .int .i64 0, .int .i64 0, .int .i64 0, .int .i64 0, .bool false, .int .i64 0, .int .i64 0], .bool false]) (by simp [results, Tryd.results22, go_sem, c0, c1, c2, c3, c4, c5, c6, c7, c8, c9, c10]) rfl ⟨rfl, (((((((((((HB11.out.setCell (by simp) _).setCell (by simp) _).setCell (by simp) _).setCell (by simp) _).setCell (by simp) _).setCell (by simp) _).setCell (by simp) _).setCell (by simp) _).setCell (by simp) _).setCell (by simp) _).setCell (by simp) _)⟩
  · have h1 : (10 : Int) ≤ s.size := by omega
    obtain ⟨d0, hd0⟩ : ∃ d0, s.extract 0 10 = d0 := ⟨_, rfl⟩
    rw [hd0] at hf
    have HM := Lib.hid (fun w => matches_any d0 ⟨#[48, 48, 48, 48, 45, 48, 48, 45, 48, 48]⟩ w (by rw [← hd0, ex_size _ _ _ hz]; decide))
    rw [show formL d0.data.toList (⟨#[48, 48, 48, 48, 45, 48, 48, 45, 48, 48]⟩ : ByteArray).data.toList = false from hf] at HM
    have HF0 := Lib.hid (FC.new2 w)
    clear hf hz
    go_enter Tryd.func22, Tryd.ntmps22
    go_wp2_with (first | (go_at_call 33; (with_reducible refine (HM.out _).mono ?_); rintro e w1 ⟨rfl, hX⟩; have HF10 := Lib.hid (HF0.out.below hX (by simp)); have HR10 := Lib.hid (HT0.out.r.below hX (by simp; omega)); have HB10 := Lib.hid (HT0.out.bel.trans (hX.mono (by simp; omega))); clear hX) | (go_at_call 35; go_loud ((with_reducible refine (HC.out _ _ _ _ _ _ HF10.out).mono ?_); rintro e w3 ⟨rfl, hB⟩; have HR11 := Lib.hid (HR10.out.below hB (by omega)); have HB11 := Lib.hid (HB10.out.trans (hB.mono (by omega))); have c0 : w3.cell? ⟨w.heap.size, 0, none⟩ = some (.int .i64 0) := HR11.out.at_ 0 (by omega); have x0 := HR11.out.fz 0; have c1 : w3.cell? ⟨w.heap.size, 1, none⟩ = some (.int .i64 0) := HR11.out.at_ 1 (by omega); have x1 := HR11.out.fz 1; have c2 : w3.cell? ⟨w.heap.size, 2, none⟩ = some (.int .i64 0) := HR11.out.at_ 2 (by omega); have x2 := HR11.out.fz 2; have c3 : w3.cell? ⟨w.heap.size, 3, none⟩ = some (.int .i64 0) := HR11.out.at_ 3 (by omega); have x3 := HR11.out.fz 3; have c4 : w3.cell? ⟨w.heap.size, 4, none⟩ = some (.int .i64 0) := HR11.out.at_ 4 (by omega); have x4 := HR11.out.fz 4; have c5 : w3.cell? ⟨w.heap.size, 5, none⟩ = some (.int .i64 0) := HR11.out.at_ 5 (by omega); have x5 := HR11.out.fz 5; have c6 : w3.cell? ⟨w.heap.size, 6, none⟩ = some (.int .i64 0) := HR11.out.at_ 6 (by omega); have x6 := HR11.out.fz 6; have c7 : w3.cell? ⟨w.heap.size, 7, none⟩ = some (.int .i64 0) := HR11.out.at_ 7 (by omega); have x7 := HR11.out.fz 7; have c8 : w3.cell? ⟨w.heap.size, 8, none⟩ = some (.bool false) := HR11.out.at_ 8 (by omega); have x8 := HR11.out.fz 8; have c9 : w3.cell? ⟨w.heap.size, 9, none⟩ = some (.int .i64 0) := HR11.out.at_ 9 (by omega); have x9 := HR11.out.fz 9; have c10 : w3.cell? ⟨w.heap.size, 10, none⟩ = some (.int .i64 0) := HR11.out.at_ 10 (by omega); have x10 := HR11.out.fz 10; clear hB)))
    exact bodyPost_ret (v := .tuple #[.agg #[.int .i64 0, .int .i64 0, .int .i64 0, .int .i64 0, .int .i64 0, .int .i64 0, .int .i64 0, .int .i64 0, .bool false, .int .i64 0, .int .i64 0], .bool false]) (by simp [results, Tryd.results22, go_sem, c0, c1, c2, c3, c4, c5, c6, c7, c8, c9, c10]) rfl ⟨rfl, (((((((((((HB11.out.setCell (by simp) _).setCell (by simp) _).setCell (by simp) _).setCell (by simp) _).setCell (by simp) _).setCell (by simp) _).setCell (by simp) _).setCell (by simp) _).setCell (by simp) _).setCell (by simp) _).setCell (by simp) _)⟩
set_option maxRecDepth 100000 in
set_option maxHeartbeats 8000000 in
theorem split_n2 (s : ByteArray) (h mi se na : Int) (HC : Hid (∀ (A : Nat) (W : World) (k y mo d : Int), FC W A k y mo d 0 0 0 0 false 0 0 → Calls Tryd.prog 35 #[.pointer (some ⟨A, 0, none⟩), .string s] W fun e w' => e = .returned (.tuple #[.string ⟨#[]⟩, .bool true]) ∧ FC w' A k y mo d h mi se na false 0 0 ∧ Below A W w')) (w : World) (hnd : s.size < 10 ∨ (10 ≤ s.size ∧ formL (s.extract 0 10).data.toList p10 = false)) : Calls Tryd.prog 22 #[.string s] w fun e w' => e = .returned (.tuple #[.agg #[.int .i64 2, .int .i64 0, .int .i64 0, .int .i64 0, .int .i64 h, .int .i64 mi, .int .i64 se, .int .i64 na, .bool false, .int .i64 0, .int .i64 0], .bool true]) ∧ Below w.heap.size w w' := by
  have HT0 := Lib.hid (C3.new w)
  rcases hnd with hz | ⟨hz, hf⟩
  · have h1 : ¬ (10 : Int) ≤ s.size := by omega
    have HF10 : Hid (FC _ (w.heap.size + 1) 0 0 0 0 0 0 0 0 false 0 0) := Lib.hid (FC.new2 w)
    have HR10 := Lib.hid HT0.out.r
    have HB10 := Lib.hid HT0.out.bel
    clear hz
    go_enter Tryd.func22, Tryd.ntmps22
    go_wp2_with (go_at_call 35; go_loud ((with_reducible refine (HC.out _ _ _ _ _ _ HF10.out).mono ?_); rintro e w3 ⟨rfl, hF, hB⟩; have HF11 := Lib.hid hF; have HR11 := Lib.hid (HR10.out.below hB (by omega)); have HB11 := Lib.hid (HB10.out.trans (hB.mono (by omega))); have g0 : w3.cell? ⟨w.heap.size + 1, 0, none⟩ = some (.int .i64 0) := HF11.out.at_ 0 (by omega); have g1 : w3.cell? ⟨w.heap.size + 1, 1, none⟩ = some (.int .i64 0) := HF11.out.at_ 1 (by omega); have g2 : w3.cell? ⟨w.heap.size + 1, 2, none⟩ = some (.int .i64 0) := HF11.out.at_ 2 (by omega); have g3 : w3.cell? ⟨w.heap.size + 1, 3, none⟩ = some (.int .i64 0) := HF11.out.at_ 3 (by omega); have g4 : w3.cell? ⟨w.heap.size + 1, 4, none⟩ = some (.int .i64 h) := HF11.out.at_ 4 (by omega); have g5 : w3.cell? ⟨w.heap.size + 1, 5, none⟩ = some (.int .i64 mi) := HF11.out.at_ 5 (by omega); have g6 : w3.cell? ⟨w.heap.size + 1, 6, none⟩ = some (.int .i64 se) := HF11.out.at_ 6 (by omega); have g7 : w3.cell? ⟨w.heap.size + 1, 7, none⟩ = some (.int .i64 na) := HF11.out.at_ 7 (by omega); have g8 : w3.cell? ⟨w.heap.size + 1, 8, none⟩ = some (.bool false) := HF11.out.at_ 8 (by omega); have g9 : w3.cell? ⟨w.heap.size + 1, 9, none⟩ = some (.int .i64 0) := HF11.out.at_ 9 (by omega); have g10 : w3.cell? ⟨w.heap.size + 1, 10, none⟩ = some (.int .i64 0) := HF11.out.at_ 10 (by omega); have v0 := HF11.out.fz 0; have c0 : w3.cell? ⟨w.heap.size, 0, none⟩ = some (.int .i64 0) := HR11.out.at_ 0 (by omega); have x0 := HR11.out.fz 0; have c1 : w3.cell? ⟨w.heap.size, 1, none⟩ = some (.int .i64 0) := HR11.out.at_ 1 (by omega); have x1 := HR11.out.fz 1; have c2 : w3.cell? ⟨w.heap.size, 2, none⟩ = some (.int .i64 0) := HR11.out.at_ 2 (by omega); have x2 := HR11.out.fz 2; have c3 : w3.cell? ⟨w.heap.size, 3, none⟩ = some (.int .i64 0) := HR11.out.at_ 3 (by omega); have x3 := HR11.out.fz 3; have c4 : w3.cell? ⟨w.heap.size, 4, none⟩ = some (.int .i64 0) := HR11.out.at_ 4 (by omega); have x4 := HR11.out.fz 4; have c5 : w3.cell? ⟨w.heap.size, 5, none⟩ = some (.int .i64 0) := HR11.out.at_ 5 (by omega); have x5 := HR11.out.fz 5; have c6 : w3.cell? ⟨w.heap.size, 6, none⟩ = some (.int .i64 0) := HR11.out.at_ 6 (by omega); have x6 := HR11.out.fz 6; have c7 : w3.cell? ⟨w.heap.size, 7, none⟩ = some (.int .i64 0) := HR11.out.at_ 7 (by omega); have x7 := HR11.out.fz 7; have c8 : w3.cell? ⟨w.heap.size, 8, none⟩ = some (.bool false) := HR11.out.at_ 8 (by omega); have x8 := HR11.out.fz 8; have c9 : w3.cell? ⟨w.heap.size, 9, none⟩ = some (.int .i64 0) := HR11.out.at_ 9 (by omega); have x9 := HR11.out.fz 9; have c10 : w3.cell? ⟨w.heap.size, 10, none⟩ = some (.int .i64 0) := HR11.out.at_ 10 (by omega); have x10 := HR11.out.fz 10; clear hF hB))
    exact bodyPost_ret (v := .tuple #[.agg #[.int .i64 2, .int .i64 0, .int .i64 0, .int .i64 0, .int .i64 h, .int .i64 mi, .int .i64 se, .int .i64 na, .bool false, .int .i64 0, .int .i64 0], .bool true]) (by simp [results, Tryd.results22, go_sem, c0, c1, c2, c3, c4, c5, c6, c7, c8, c9, c10]) rfl ⟨rfl, ((((((((((((HB11.out.setCell (by simp) _).setCell (by simp) _).setCell (by simp) _).setCell (by simp) _).setCell (by simp) _).setCell (by simp) _).setCell (by simp) _).setCell (by simp) _).setCell (by simp) _).setCell (by simp) _).setCell (by simp) _).setCell (by simp) _)⟩
  · have h1 : (10 : Int) ≤ s.size := by omega
    obtain ⟨d0, hd0⟩ : ∃ d0, s.extract 0 10 = d0 := ⟨_, rfl⟩
    rw [hd0] at hf
    have HM := Lib.hid (fun w => matches_any d0 ⟨#[48, 48, 48, 48, 45, 48, 48, 45, 48, 48]⟩ w (by rw [← hd0, ex_size _ _ _ hz]; decide))
    rw [show formL d0.data.toList (⟨#[48, 48, 48, 48, 45, 48, 48, 45, 48, 48]⟩ : ByteArray).data.toList = false from hf] at HM
    have HF0 := Lib.hid (FC.new2 w)
    clear hf hz
    go_enter Tryd.func22, Tryd.ntmps22
    go_wp2_with (first | (go_at_call 33; (with_reducible refine (HM.out _).mono ?_); rintro e w1 ⟨rfl, hX⟩; have HF10 := Lib.hid (HF0.out.below hX (by simp)); have HR10 := Lib.hid (HT0.out.r.below hX (by simp; omega)); have HB10 := Lib.hid (HT0.out.bel.trans (hX.mono (by simp; omega))); clear hX) | (go_at_call 35; go_loud ((with_reducible refine (HC.out _ _ _ _ _ _ HF10.out).mono ?_); rintro e w3 ⟨rfl, hF, hB⟩; have HF11 := Lib.hid hF; have HR11 := Lib.hid (HR10.out.below hB (by omega)); have HB11 := Lib.hid (HB10.out.trans (hB.mono (by omega))); have g0 : w3.cell? ⟨w.heap.size + 1, 0, none⟩ = some (.int .i64 0) := HF11.out.at_ 0 (by omega); have g1 : w3.cell? ⟨w.heap.size + 1, 1, none⟩ = some (.int .i64 0) := HF11.out.at_ 1 (by omega); have g2 : w3.cell? ⟨w.heap.size + 1, 2, none⟩ = some (.int .i64 0) := HF11.out.at_ 2 (by omega); have g3 : w3.cell? ⟨w.heap.size + 1, 3, none⟩ = some (.int .i64 0) := HF11.out.at_ 3 (by omega); have g4 : w3.cell? ⟨w.heap.size + 1, 4, none⟩ = some (.int .i64 h) := HF11.out.at_ 4 (by omega); have g5 : w3.cell? ⟨w.heap.size + 1, 5, none⟩ = some (.int .i64 mi) := HF11.out.at_ 5 (by omega); have g6 : w3.cell? ⟨w.heap.size + 1, 6, none⟩ = some (.int .i64 se) := HF11.out.at_ 6 (by omega); have g7 : w3.cell? ⟨w.heap.size + 1, 7, none⟩ = some (.int .i64 na) := HF11.out.at_ 7 (by omega); have g8 : w3.cell? ⟨w.heap.size + 1, 8, none⟩ = some (.bool false) := HF11.out.at_ 8 (by omega); have g9 : w3.cell? ⟨w.heap.size + 1, 9, none⟩ = some (.int .i64 0) := HF11.out.at_ 9 (by omega); have g10 : w3.cell? ⟨w.heap.size + 1, 10, none⟩ = some (.int .i64 0) := HF11.out.at_ 10 (by omega); have v0 := HF11.out.fz 0; have c0 : w3.cell? ⟨w.heap.size, 0, none⟩ = some (.int .i64 0) := HR11.out.at_ 0 (by omega); have x0 := HR11.out.fz 0; have c1 : w3.cell? ⟨w.heap.size, 1, none⟩ = some (.int .i64 0) := HR11.out.at_ 1 (by omega); have x1 := HR11.out.fz 1; have c2 : w3.cell? ⟨w.heap.size, 2, none⟩ = some (.int .i64 0) := HR11.out.at_ 2 (by omega); have x2 := HR11.out.fz 2; have c3 : w3.cell? ⟨w.heap.size, 3, none⟩ = some (.int .i64 0) := HR11.out.at_ 3 (by omega); have x3 := HR11.out.fz 3; have c4 : w3.cell? ⟨w.heap.size, 4, none⟩ = some (.int .i64 0) := HR11.out.at_ 4 (by omega); have x4 := HR11.out.fz 4; have c5 : w3.cell? ⟨w.heap.size, 5, none⟩ = some (.int .i64 0) := HR11.out.at_ 5 (by omega); have x5 := HR11.out.fz 5; have c6 : w3.cell? ⟨w.heap.size, 6, none⟩ = some (.int .i64 0) := HR11.out.at_ 6 (by omega); have x6 := HR11.out.fz 6; have c7 : w3.cell? ⟨w.heap.size, 7, none⟩ = some (.int .i64 0) := HR11.out.at_ 7 (by omega); have x7 := HR11.out.fz 7; have c8 : w3.cell? ⟨w.heap.size, 8, none⟩ = some (.bool false) := HR11.out.at_ 8 (by omega); have x8 := HR11.out.fz 8; have c9 : w3.cell? ⟨w.heap.size, 9, none⟩ = some (.int .i64 0) := HR11.out.at_ 9 (by omega); have x9 := HR11.out.fz 9; have c10 : w3.cell? ⟨w.heap.size, 10, none⟩ = some (.int .i64 0) := HR11.out.at_ 10 (by omega); have x10 := HR11.out.fz 10; clear hF hB)))
    exact bodyPost_ret (v := .tuple #[.agg #[.int .i64 2, .int .i64 0, .int .i64 0, .int .i64 0, .int .i64 h, .int .i64 mi, .int .i64 se, .int .i64 na, .bool false, .int .i64 0, .int .i64 0], .bool true]) (by simp [results, Tryd.results22, go_sem, c0, c1, c2, c3, c4, c5, c6, c7, c8, c9, c10]) rfl ⟨rfl, ((((((((((((HB11.out.setCell (by simp) _).setCell (by simp) _).setCell (by simp) _).setCell (by simp) _).setCell (by simp) _).setCell (by simp) _).setCell (by simp) _).setCell (by simp) _).setCell (by simp) _).setCell (by simp) _).setCell (by simp) _).setCell (by simp) _)⟩
set_option maxRecDepth 100000 in
set_option maxHeartbeats 8000000 in
theorem split_n3 (s : ByteArray) (h mi se na : Int) (r : ByteArray) (hr : r.data.toList ≠ []) (HC : Hid (∀ (A : Nat) (W : World) (k y mo d : Int), FC W A k y mo d 0 0 0 0 false 0 0 → Calls Tryd.prog 35 #[.pointer (some ⟨A, 0, none⟩), .string s] W fun e w' => e = .returned (.tuple #[.string r, .bool true]) ∧ FC w' A k y mo d h mi se na false 0 0 ∧ Below A W w')) (w : World) (hnd : s.size < 10 ∨ (10 ≤ s.size ∧ formL (s.extract 0 10).data.toList p10 = false)) : Calls Tryd.prog 22 #[.string s] w fun e w' => e = .returned (.tuple #[.agg #[.int .i64 0, .int .i64 0, .int .i64 0, .int .i64 0, .int .i64 0, .int .i64 0, .int .i64 0, .int .i64 0, .bool false, .int .i64 0, .int .i64 0], .bool false]) ∧ Below w.heap.size w w' := by
  have HT0 := Lib.hid (C3.new w)
  have r1 : r.toList.isEmpty = false := by
    rw [toList_data]
    cases hc : r.data.toList with
    | nil => exact absurd hc hr
    | cons _ _ => rfl
  have r2 : ¬ r.toList = [] := by intro e; rw [e] at r1; cases r1
  clear hr
  rcases hnd with hz | ⟨hz, hf⟩
  · have h1 : ¬ (10 : Int) ≤ s.size := by omega
    have HF10 : Hid (FC _ (w.heap.size + 1) 0 0 0 0 0 0 0 0 false 0 0) := Lib.hid (FC.new2 w)
    have HR10 := Lib.hid HT0.out.r
    have HB10 := Lib.hid HT0.out.bel
    clear hz
    go_enter Tryd.func22, Tryd.ntmps22
    go_wp2_with (go_at_call 35; go_loud ((with_reducible refine (HC.out _ _ _ _ _ _ HF10.out).mono ?_); rintro e w3 ⟨rfl, hF, hB⟩; have HF11 := Lib.hid hF; have HR11 := Lib.hid (HR10.out.below hB (by omega)); have HB11 := Lib.hid (HB10.out.trans (hB.mono (by omega))); have g0 : w3.cell? ⟨w.heap.size + 1, 0, none⟩ = some (.int .i64 0) := HF11.out.at_ 0 (by omega); have c0 : w3.cell? ⟨w.heap.size, 0, none⟩ = some (.int .i64 0) := HR11.out.at_ 0 (by omega); have x0 := HR11.out.fz 0; have c1 : w3.cell? ⟨w.heap.size, 1, none⟩ = some (.int .i64 0) := HR11.out.at_ 1 (by omega); have x1 := HR11.out.fz 1; have c2 : w3.cell? ⟨w.heap.size, 2, none⟩ = some (.int .i64 0) := HR11.out.at_ 2 (by omega); have x2 := HR11.out.fz 2; have c3 : w3.cell? ⟨w.heap.size, 3, none⟩ = some (.int .i64 0) := HR11.out.at_ 3 (by omega); have x3 := HR11.out.fz 3; have c4 : w3.cell? ⟨w.heap.size, 4, none⟩ = some (.int .i64 0) := HR11.out.at_ 4 (by omega); have x4 := HR11.out.fz 4; have c5 : w3.cell? ⟨w.heap.size, 5, none⟩ = some (.int .i64 0) := HR11.out.at_ 5 (by omega); have x5 := HR11.out.fz 5; have c6 : w3.cell? ⟨w.heap.size, 6, none⟩ = some (.int .i64 0) := HR11.out.at_ 6 (by omega); have x6 := HR11.out.fz 6; have c7 : w3.cell? ⟨w.heap.size, 7, none⟩ = some (.int .i64 0) := HR11.out.at_ 7 (by omega); have x7 := HR11.out.fz 7; have c8 : w3.cell? ⟨w.heap.size, 8, none⟩ = some (.bool false) := HR11.out.at_ 8 (by omega); have x8 := HR11.out.fz 8; have c9 : w3.cell? ⟨w.heap.size, 9, none⟩ = some (.int .i64 0) := HR11.out.at_ 9 (by omega); have x9 := HR11.out.fz 9; have c10 : w3.cell? ⟨w.heap.size, 10, none⟩ = some (.int .i64 0) := HR11.out.at_ 10 (by omega); have x10 := HR11.out.fz 10; clear hF hB))
    exact bodyPost_ret (v := .tuple #[.agg #[.int .i64 0, .int .i64 0, .int .i64 0, .int .i64 0, .int .i64 0, .int .i64 0, .int .i64 0, .int .i64 0, .bool false, .int .i64 0, .int .i64 0], .bool false]) (by simp [results, Tryd.results22, go_sem, c0, c1, c2, c3, c4, c5, c6, c7, c8, c9, c10]) rfl ⟨rfl, (((((((((((HB11.out.setCell (by simp) _).setCell (by simp) _).setCell (by simp) _).setCell (by simp) _).setCell (by simp) _).setCell (by simp) _).setCell (by simp) _).setCell (by simp) _).setCell (by simp) _).setCell (by simp) _).setCell (by simp) _)⟩
  · have h1 : (10 : Int) ≤ s.size := by omega
    obtain ⟨d0, hd0⟩ : ∃ d0, s.extract 0 10 = d0 := ⟨_, rfl⟩
    rw [hd0] at hf
    have HM := Lib.hid (fun w => matches_any d0 ⟨#[48, 48, 48, 48, 45, 48, 48, 45, 48, 48]⟩ w (by rw [← hd0, ex_size _ _ _ hz]; decide))
    rw [show formL d0.data.toList (⟨#[48, 48, 48, 48, 45, 48, 48, 45, 48, 48]⟩ : ByteArray).data.toList = false from hf] at HM
    have HF0 := Lib.hid (FC.new2 w)
    clear hf hz
    go_enter Tryd.func22, Tryd.ntmps22
    go_wp2_with (first | (go_at_call 33; (with_reducible refine (HM.out _).mono ?_); rintro e w1 ⟨rfl, hX⟩; have HF10 := Lib.hid (HF0.out.below hX (by simp)); have HR10 := Lib.hid (HT0.out.r.below hX (by simp; omega)); have HB10 := Lib.hid (HT0.out.bel.trans (hX.mono (by simp; omega))); clear hX) | (go_at_call 35; go_loud ((with_reducible refine (HC.out _ _ _ _ _ _ HF10.out).mono ?_); rintro e w3 ⟨rfl, hF, hB⟩; have HF11 := Lib.hid hF; have HR11 := Lib.hid (HR10.out.below hB (by omega)); have HB11 := Lib.hid (HB10.out.trans (hB.mono (by omega))); have g0 : w3.cell? ⟨w.heap.size + 1, 0, none⟩ = some (.int .i64 0) := HF11.out.at_ 0 (by omega); have c0 : w3.cell? ⟨w.heap.size, 0, none⟩ = some (.int .i64 0) := HR11.out.at_ 0 (by omega); have x0 := HR11.out.fz 0; have c1 : w3.cell? ⟨w.heap.size, 1, none⟩ = some (.int .i64 0) := HR11.out.at_ 1 (by omega); have x1 := HR11.out.fz 1; have c2 : w3.cell? ⟨w.heap.size, 2, none⟩ = some (.int .i64 0) := HR11.out.at_ 2 (by omega); have x2 := HR11.out.fz 2; have c3 : w3.cell? ⟨w.heap.size, 3, none⟩ = some (.int .i64 0) := HR11.out.at_ 3 (by omega); have x3 := HR11.out.fz 3; have c4 : w3.cell? ⟨w.heap.size, 4, none⟩ = some (.int .i64 0) := HR11.out.at_ 4 (by omega); have x4 := HR11.out.fz 4; have c5 : w3.cell? ⟨w.heap.size, 5, none⟩ = some (.int .i64 0) := HR11.out.at_ 5 (by omega); have x5 := HR11.out.fz 5; have c6 : w3.cell? ⟨w.heap.size, 6, none⟩ = some (.int .i64 0) := HR11.out.at_ 6 (by omega); have x6 := HR11.out.fz 6; have c7 : w3.cell? ⟨w.heap.size, 7, none⟩ = some (.int .i64 0) := HR11.out.at_ 7 (by omega); have x7 := HR11.out.fz 7; have c8 : w3.cell? ⟨w.heap.size, 8, none⟩ = some (.bool false) := HR11.out.at_ 8 (by omega); have x8 := HR11.out.fz 8; have c9 : w3.cell? ⟨w.heap.size, 9, none⟩ = some (.int .i64 0) := HR11.out.at_ 9 (by omega); have x9 := HR11.out.fz 9; have c10 : w3.cell? ⟨w.heap.size, 10, none⟩ = some (.int .i64 0) := HR11.out.at_ 10 (by omega); have x10 := HR11.out.fz 10; clear hF hB)))
    exact bodyPost_ret (v := .tuple #[.agg #[.int .i64 0, .int .i64 0, .int .i64 0, .int .i64 0, .int .i64 0, .int .i64 0, .int .i64 0, .int .i64 0, .bool false, .int .i64 0, .int .i64 0], .bool false]) (by simp [results, Tryd.results22, go_sem, c0, c1, c2, c3, c4, c5, c6, c7, c8, c9, c10]) rfl ⟨rfl, (((((((((((HB11.out.setCell (by simp) _).setCell (by simp) _).setCell (by simp) _).setCell (by simp) _).setCell (by simp) _).setCell (by simp) _).setCell (by simp) _).setCell (by simp) _).setCell (by simp) _).setCell (by simp) _).setCell (by simp) _)⟩
set_option maxRecDepth 100000 in
set_option maxHeartbeats 8000000 in
theorem split_d1 (s : ByteArray) (y mo d : Int) (w : World) (hz : 10 ≤ s.size) (hf : formL (s.extract 0 10).data.toList p10 = true) (a1 : Lib.atoi (s.extract 0 4).data.toList = some y) (a2 : Lib.atoi (s.extract 5 7).data.toList = some mo) (a3 : Lib.atoi (s.extract 8 10).data.toList = some d) (h10 : s.size = 10) : Calls Tryd.prog 22 #[.string s] w fun e w' => e = .returned (.tuple #[.agg #[.int .i64 1, .int .i64 y, .int .i64 mo, .int .i64 d, .int .i64 0, .int .i64 0, .int .i64 0, .int .i64 0, .bool false, .int .i64 0, .int .i64 0], .bool true]) ∧ Below w.heap.size w w' := by
  have HT0 := Lib.hid (C3.new w)
  have h1 : (10 : Int) ≤ s.size := by omega
  have h14 : (4 : Int) ≤ s.size := by omega
  have h17 : (7 : Int) ≤ s.size := by omega
  have h15 : (5 : Int) ≤ s.size := by omega
  have h18 : (8 : Int) ≤ s.size := by omega
  have z0 : (s.extract 0 10).size = 10 := ex_size _ _ _ hz
  have z1 : (s.extract 0 4).size = 4 := ex_size _ _ _ (by omega)
  have z2 : (s.extract 5 7).size = 2 := ex_size _ _ _ (by omega)
  have z3 : (s.extract 8 10).size = 2 := ex_size _ _ _ (by omega)
  obtain ⟨d0, hd0⟩ : ∃ d0, s.extract 0 10 = d0 := ⟨_, rfl⟩
  obtain ⟨f1, hf1⟩ : ∃ d0, s.extract 0 4 = d0 := ⟨_, rfl⟩
  obtain ⟨f2, hf2⟩ : ∃ d0, s.extract 5 7 = d0 := ⟨_, rfl⟩
  obtain ⟨f3, hf3⟩ : ∃ d0, s.extract 8 10 = d0 := ⟨_, rfl⟩
  rw [hd0] at hf z0
  rw [hf1] at a1 z1
  rw [hf2] at a2 z2
  rw [hf3] at a3 z3
  have HM := Lib.hid (fun w => matches_any d0 ⟨#[48, 48, 48, 48, 45, 48, 48, 45, 48, 48]⟩ w (by omega))
  rw [show formL d0.data.toList (⟨#[48, 48, 48, 48, 45, 48, 48, 45, 48, 48]⟩ : ByteArray).data.toList = true from hf] at HM
  have HN1 := Lib.hid (fun w => number_any f1 y w (by omega) a1)
  have HN2 := Lib.hid (fun w => number_any f2 mo w (by omega) a2)
  have HN3 := Lib.hid (fun w => number_any f3 d w (by omega) a3)
  clear hf a1 a2 a3 z0 z1 z2 z3
  have hx : ((s.size : Int) == 10) = true := by rw [beq_iff_eq]; omega
  clear h10
  go_enter Tryd.func22, Tryd.ntmps22
  go_wp2_with (go_at_call 33; (with_reducible refine (HM.out _).mono ?_); rintro e w1 ⟨rfl, hX⟩; have HT1 := Lib.hid (C3.step hX HT0.out); clear hX)
  have T := HT1.out
  go_region_held3 (fun (W : World) => C3 w W ∧ True) ((first | (exact ⟨by assumption, trivial⟩) | (go_split_ands; exact ⟨C3.dr (by assumption), trivial⟩) | (go_split_ands; exact ⟨C3.step hX (by assumption), trivial⟩) | (go_split_ands; exact ⟨C3.p1 (by assumption) _, trivial⟩) | (go_split_ands; exact ⟨C3.p2 (by assumption) _, trivial⟩) | (go_split_ands; exact ⟨C3.p3 (by assumption) _, trivial⟩))) (first | (go_at_call 34; first | ((with_reducible refine (HN1.out _).mono ?_); rintro e wn ⟨rfl, hX⟩) | ((with_reducible refine (HN2.out _).mono ?_); rintro e wn ⟨rfl, hX⟩) | ((with_reducible refine (HN3.out _).mono ?_); rintro e wn ⟨rfl, hX⟩)) | (go_split_ands; obtain ⟨q1, q2, q3, hD⟩ := C3.c (by assumption); have g1 := hD.at_ 1 (by omega); have g2 := hD.at_ 2 (by omega); have g3 := hD.at_ 3 (by omega); have v1 := hD.fz 1; have v2 := hD.fz 2; have v3 := hD.fz 3; go_simp))
  rename_i hH
  obtain ⟨T9, R9, B9⟩ := C3.fin (W := wn) (by assumption) y mo d
  have HF9 := Lib.hid T9
  have HR9 := Lib.hid R9
  have HB9 := Lib.hid B9
  clear hH T T9 R9 B9
  generalize (((wn.setCell ⟨w.heap.size + 1, 1, none⟩ (.int .i64 y)).setCell ⟨w.heap.size + 1, 2, none⟩ (.int .i64 mo)).setCell ⟨w.heap.size + 1, 3, none⟩ (.int .i64 d)) = W9 at *
  have g0 : W9.cell? ⟨w.heap.size + 1, 0, none⟩ = some (.int .i64 0) := HF9.out.at_ 0 (by omega)
  have v0 := HF9.out.fz 0
  clear g0 v0
  have g0 : W9.cell? ⟨w.heap.size + 1, 0, none⟩ = some (.int .i64 0) := HF9.out.at_ 0 (by omega)
  have g1 : W9.cell? ⟨w.heap.size + 1, 1, none⟩ = some (.int .i64 y) := HF9.out.at_ 1 (by omega)
  have g2 : W9.cell? ⟨w.heap.size + 1, 2, none⟩ = some (.int .i64 mo) := HF9.out.at_ 2 (by omega)
  have g3 : W9.cell? ⟨w.heap.size + 1, 3, none⟩ = some (.int .i64 d) := HF9.out.at_ 3 (by omega)
  have g4 : W9.cell? ⟨w.heap.size + 1, 4, none⟩ = some (.int .i64 0) := HF9.out.at_ 4 (by omega)
  have g5 : W9.cell? ⟨w.heap.size + 1, 5, none⟩ = some (.int .i64 0) := HF9.out.at_ 5 (by omega)
  have g6 : W9.cell? ⟨w.heap.size + 1, 6, none⟩ = some (.int .i64 0) := HF9.out.at_ 6 (by omega)
  have g7 : W9.cell? ⟨w.heap.size + 1, 7, none⟩ = some (.int .i64 0) := HF9.out.at_ 7 (by omega)
  have g8 : W9.cell? ⟨w.heap.size + 1, 8, none⟩ = some (.bool false) := HF9.out.at_ 8 (by omega)
  have g9 : W9.cell? ⟨w.heap.size + 1, 9, none⟩ = some (.int .i64 0) := HF9.out.at_ 9 (by omega)
  have g10 : W9.cell? ⟨w.heap.size + 1, 10, none⟩ = some (.int .i64 0) := HF9.out.at_ 10 (by omega)
  have v0 := HF9.out.fz 0
  have c0 : W9.cell? ⟨w.heap.size, 0, none⟩ = some (.int .i64 0) := HR9.out.at_ 0 (by omega)
  have x0 := HR9.out.fz 0
  have c1 : W9.cell? ⟨w.heap.size, 1, none⟩ = some (.int .i64 0) := HR9.out.at_ 1 (by omega)
  have x1 := HR9.out.fz 1
  have c2 : W9.cell? ⟨w.heap.size, 2, none⟩ = some (.int .i64 0) := HR9.out.at_ 2 (by omega)
  have x2 := HR9.out.fz 2
  have c3 : W9.cell? ⟨w.heap.size, 3, none⟩ = some (.int .i64 0) := HR9.out.at_ 3 (by omega)
  have x3 := HR9.out.fz 3
  have c4 : W9.cell? ⟨w.heap.size, 4, none⟩ = some (.int .i64 0) := HR9.out.at_ 4 (by omega)
  have x4 := HR9.out.fz 4
  have c5 : W9.cell? ⟨w.heap.size, 5, none⟩ = some (.int .i64 0) := HR9.out.at_ 5 (by omega)
  have x5 := HR9.out.fz 5
  have c6 : W9.cell? ⟨w.heap.size, 6, none⟩ = some (.int .i64 0) := HR9.out.at_ 6 (by omega)
  have x6 := HR9.out.fz 6
  have c7 : W9.cell? ⟨w.heap.size, 7, none⟩ = some (.int .i64 0) := HR9.out.at_ 7 (by omega)
  have x7 := HR9.out.fz 7
  have c8 : W9.cell? ⟨w.heap.size, 8, none⟩ = some (.bool false) := HR9.out.at_ 8 (by omega)
  have x8 := HR9.out.fz 8
  have c9 : W9.cell? ⟨w.heap.size, 9, none⟩ = some (.int .i64 0) := HR9.out.at_ 9 (by omega)
  have x9 := HR9.out.fz 9
  have c10 : W9.cell? ⟨w.heap.size, 10, none⟩ = some (.int .i64 0) := HR9.out.at_ 10 (by omega)
  have x10 := HR9.out.fz 10
  go_wp2
  exact bodyPost_ret (v := .tuple #[.agg #[.int .i64 1, .int .i64 y, .int .i64 mo, .int .i64 d, .int .i64 0, .int .i64 0, .int .i64 0, .int .i64 0, .bool false, .int .i64 0, .int .i64 0], .bool true]) (by simp [results, Tryd.results22, go_sem, c0, c1, c2, c3, c4, c5, c6, c7, c8, c9, c10]) rfl ⟨rfl, ((((((((((((HB9.out.setCell (by simp) _).setCell (by simp) _).setCell (by simp) _).setCell (by simp) _).setCell (by simp) _).setCell (by simp) _).setCell (by simp) _).setCell (by simp) _).setCell (by simp) _).setCell (by simp) _).setCell (by simp) _).setCell (by simp) _)⟩
set_option maxRecDepth 100000 in
set_option maxHeartbeats 8000000 in
theorem split_d2 (s : ByteArray) (y mo d : Int) (w : World) (hz : 10 ≤ s.size) (hf : formL (s.extract 0 10).data.toList p10 = true) (a1 : Lib.atoi (s.extract 0 4).data.toList = some y) (a2 : Lib.atoi (s.extract 5 7).data.toList = some mo) (a3 : Lib.atoi (s.extract 8 10).data.toList = some d) (h10 : 10 < s.size) (hb : ∀ hh : 10 < s.size, (s[10]'hh).toNat ≠ 84 ∧ (s[10]'hh).toNat ≠ 116 ∧ (s[10]'hh).toNat ≠ 32) : Calls Tryd.prog 22 #[.string s] w fun e w' => e = .returned (.tuple #[.agg #[.int .i64 0, .int .i64 0, .int .i64 0, .int .i64 0, .int .i64 0, .int .i64 0, .int .i64 0, .int .i64 0, .bool false, .int .i64 0, .int .i64 0], .bool false]) ∧ Below w.heap.size w w' := by
  have HT0 := Lib.hid (C3.new w)
  have h1 : (10 : Int) ≤ s.size := by omega
  have h14 : (4 : Int) ≤ s.size := by omega
  have h17 : (7 : Int) ≤ s.size := by omega
  have h15 : (5 : Int) ≤ s.size := by omega
  have h18 : (8 : Int) ≤ s.size := by omega
  have z0 : (s.extract 0 10).size = 10 := ex_size _ _ _ hz
  have z1 : (s.extract 0 4).size = 4 := ex_size _ _ _ (by omega)
  have z2 : (s.extract 5 7).size = 2 := ex_size _ _ _ (by omega)
  have z3 : (s.extract 8 10).size = 2 := ex_size _ _ _ (by omega)
  obtain ⟨d0, hd0⟩ : ∃ d0, s.extract 0 10 = d0 := ⟨_, rfl⟩
  obtain ⟨f1, hf1⟩ : ∃ d0, s.extract 0 4 = d0 := ⟨_, rfl⟩
  obtain ⟨f2, hf2⟩ : ∃ d0, s.extract 5 7 = d0 := ⟨_, rfl⟩
  obtain ⟨f3, hf3⟩ : ∃ d0, s.extract 8 10 = d0 := ⟨_, rfl⟩
  rw [hd0] at hf z0
  rw [hf1] at a1 z1
  rw [hf2] at a2 z2
  rw [hf3] at a3 z3
  have HM := Lib.hid (fun w => matches_any d0 ⟨#[48, 48, 48, 48, 45, 48, 48, 45, 48, 48]⟩ w (by omega))
  rw [show formL d0.data.toList (⟨#[48, 48, 48, 48, 45, 48, 48, 45, 48, 48]⟩ : ByteArray).data.toList = true from hf] at HM
  have HN1 := Lib.hid (fun w => number_any f1 y w (by omega) a1)
  have HN2 := Lib.hid (fun w => number_any f2 mo w (by omega) a2)
  have HN3 := Lib.hid (fun w => number_any f3 d w (by omega) a3)
  clear hf a1 a2 a3 z0 z1 z2 z3
  have hx : ((s.size : Int) == 10) = false := by rw [beq_eq_false_iff_ne]; omega
  obtain ⟨q1, q2, q3⟩ := hb h10
  have t1 : ((s[10].toNat : Int) != 84) = true := by rw [bne_iff_ne]; omega
  have t2 : ((s[10].toNat : Int) != 116) = true := by rw [bne_iff_ne]; omega
  have t3 : ((s[10].toNat : Int) != 32) = true := by rw [bne_iff_ne]; omega
  clear q1 q2 q3 hb
  go_enter Tryd.func22, Tryd.ntmps22
  go_wp2_with (go_at_call 33; (with_reducible refine (HM.out _).mono ?_); rintro e w1 ⟨rfl, hX⟩; have HT1 := Lib.hid (C3.step hX HT0.out); clear hX)
  have T := HT1.out
  go_region_held3 (fun (W : World) => C3 w W ∧ True) ((first | (exact ⟨by assumption, trivial⟩) | (go_split_ands; exact ⟨C3.dr (by assumption), trivial⟩) | (go_split_ands; exact ⟨C3.step hX (by assumption), trivial⟩) | (go_split_ands; exact ⟨C3.p1 (by assumption) _, trivial⟩) | (go_split_ands; exact ⟨C3.p2 (by assumption) _, trivial⟩) | (go_split_ands; exact ⟨C3.p3 (by assumption) _, trivial⟩))) (first | (go_at_call 34; first | ((with_reducible refine (HN1.out _).mono ?_); rintro e wn ⟨rfl, hX⟩) | ((with_reducible refine (HN2.out _).mono ?_); rintro e wn ⟨rfl, hX⟩) | ((with_reducible refine (HN3.out _).mono ?_); rintro e wn ⟨rfl, hX⟩)) | (go_split_ands; obtain ⟨q1, q2, q3, hD⟩ := C3.c (by assumption); have g1 := hD.at_ 1 (by omega); have g2 := hD.at_ 2 (by omega); have g3 := hD.at_ 3 (by omega); have v1 := hD.fz 1; have v2 := hD.fz 2; have v3 := hD.fz 3; go_simp))
  rename_i hH
  obtain ⟨T9, R9, B9⟩ := C3.fin (W := wn) (by assumption) y mo d
  have HF9 := Lib.hid T9
  have HR9 := Lib.hid R9
  have HB9 := Lib.hid B9
  clear hH T T9 R9 B9
  generalize (((wn.setCell ⟨w.heap.size + 1, 1, none⟩ (.int .i64 y)).setCell ⟨w.heap.size + 1, 2, none⟩ (.int .i64 mo)).setCell ⟨w.heap.size + 1, 3, none⟩ (.int .i64 d)) = W9 at *
  have g0 : W9.cell? ⟨w.heap.size + 1, 0, none⟩ = some (.int .i64 0) := HF9.out.at_ 0 (by omega)
  have v0 := HF9.out.fz 0
  have c0 : W9.cell? ⟨w.heap.size, 0, none⟩ = some (.int .i64 0) := HR9.out.at_ 0 (by omega)
  have x0 := HR9.out.fz 0
  have c1 : W9.cell? ⟨w.heap.size, 1, none⟩ = some (.int .i64 0) := HR9.out.at_ 1 (by omega)
  have x1 := HR9.out.fz 1
  have c2 : W9.cell? ⟨w.heap.size, 2, none⟩ = some (.int .i64 0) := HR9.out.at_ 2 (by omega)
  have x2 := HR9.out.fz 2
  have c3 : W9.cell? ⟨w.heap.size, 3, none⟩ = some (.int .i64 0) := HR9.out.at_ 3 (by omega)
  have x3 := HR9.out.fz 3
  have c4 : W9.cell? ⟨w.heap.size, 4, none⟩ = some (.int .i64 0) := HR9.out.at_ 4 (by omega)
  have x4 := HR9.out.fz 4
  have c5 : W9.cell? ⟨w.heap.size, 5, none⟩ = some (.int .i64 0) := HR9.out.at_ 5 (by omega)
  have x5 := HR9.out.fz 5
  have c6 : W9.cell? ⟨w.heap.size, 6, none⟩ = some (.int .i64 0) := HR9.out.at_ 6 (by omega)
  have x6 := HR9.out.fz 6
  have c7 : W9.cell? ⟨w.heap.size, 7, none⟩ = some (.int .i64 0) := HR9.out.at_ 7 (by omega)
  have x7 := HR9.out.fz 7
  have c8 : W9.cell? ⟨w.heap.size, 8, none⟩ = some (.bool false) := HR9.out.at_ 8 (by omega)
  have x8 := HR9.out.fz 8
  have c9 : W9.cell? ⟨w.heap.size, 9, none⟩ = some (.int .i64 0) := HR9.out.at_ 9 (by omega)
  have x9 := HR9.out.fz 9
  have c10 : W9.cell? ⟨w.heap.size, 10, none⟩ = some (.int .i64 0) := HR9.out.at_ 10 (by omega)
  have x10 := HR9.out.fz 10
  go_wp2
  exact bodyPost_ret (v := .tuple #[.agg #[.int .i64 0, .int .i64 0, .int .i64 0, .int .i64 0, .int .i64 0, .int .i64 0, .int .i64 0, .int .i64 0, .bool false, .int .i64 0, .int .i64 0], .bool false]) (by simp [results, Tryd.results22, go_sem, c0, c1, c2, c3, c4, c5, c6, c7, c8, c9, c10]) rfl ⟨rfl, ((((((((((((HB9.out.setCell (by simp) _).setCell (by simp) _).setCell (by simp) _).setCell (by simp) _).setCell (by simp) _).setCell (by simp) _).setCell (by simp) _).setCell (by simp) _).setCell (by simp) _).setCell (by simp) _).setCell (by simp) _).setCell (by simp) _)⟩
set_option maxRecDepth 100000 in
set_option maxHeartbeats 8000000 in
theorem split_t1 (s : ByteArray) (y mo d : Int)  (w : World) (hz : 10 ≤ s.size) (hf : formL (s.extract 0 10).data.toList p10 = true) (a1 : Lib.atoi (s.extract 0 4).data.toList = some y) (a2 : Lib.atoi (s.extract 5 7).data.toList = some mo) (a3 : Lib.atoi (s.extract 8 10).data.toList = some d) (h10 : 10 < s.size) (hb : ∀ hh : 10 < s.size, (s[10]'hh).toNat = 84 ∨ (s[10]'hh).toNat = 116 ∨ (s[10]'hh).toNat = 32) (s' : ByteArray) (hs' : s.extract 11 s.size = s') (HC : Hid (∀ (A : Nat) (W : World) (k y mo d : Int), FC W A k y mo d 0 0 0 0 false 0 0 → Calls Tryd.prog 35 #[.pointer (some ⟨A, 0, none⟩), .string s'] W fun e w' => e = .returned (.tuple #[.string ⟨#[]⟩, .bool false]) ∧ Below A W w')) : Calls Tryd.prog 22 #[.string s] w fun e w' => e = .returned (.tuple #[.agg #[.int .i64 0, .int .i64 0, .int .i64 0, .int .i64 0, .int .i64 0, .int .i64 0, .int .i64 0, .int .i64 0, .bool false, .int .i64 0, .int .i64 0], .bool false]) ∧ Below w.heap.size w w' := by
  have HT0 := Lib.hid (C3.new w)
  have h1 : (10 : Int) ≤ s.size := by omega
  have h14 : (4 : Int) ≤ s.size := by omega
  have h17 : (7 : Int) ≤ s.size := by omega
  have h15 : (5 : Int) ≤ s.size := by omega
  have h18 : (8 : Int) ≤ s.size := by omega
  have z0 : (s.extract 0 10).size = 10 := ex_size _ _ _ hz
  have z1 : (s.extract 0 4).size = 4 := ex_size _ _ _ (by omega)
  have z2 : (s.extract 5 7).size = 2 := ex_size _ _ _ (by omega)
  have z3 : (s.extract 8 10).size = 2 := ex_size _ _ _ (by omega)
  obtain ⟨d0, hd0⟩ : ∃ d0, s.extract 0 10 = d0 := ⟨_, rfl⟩
  obtain ⟨f1, hf1⟩ : ∃ d0, s.extract 0 4 = d0 := ⟨_, rfl⟩
  obtain ⟨f2, hf2⟩ : ∃ d0, s.extract 5 7 = d0 := ⟨_, rfl⟩
  obtain ⟨f3, hf3⟩ : ∃ d0, s.extract 8 10 = d0 := ⟨_, rfl⟩
  rw [hd0] at hf z0
  rw [hf1] at a1 z1
  rw [hf2] at a2 z2
  rw [hf3] at a3 z3
  have HM := Lib.hid (fun w => matches_any d0 ⟨#[48, 48, 48, 48, 45, 48, 48, 45, 48, 48]⟩ w (by omega))
  rw [show formL d0.data.toList (⟨#[48, 48, 48, 48, 45, 48, 48, 45, 48, 48]⟩ : ByteArray).data.toList = true from hf] at HM
  have HN1 := Lib.hid (fun w => number_any f1 y w (by omega) a1)
  have HN2 := Lib.hid (fun w => number_any f2 mo w (by omega) a2)
  have HN3 := Lib.hid (fun w => number_any f3 d w (by omega) a3)
  clear hf a1 a2 a3 z0 z1 z2 z3
  have hx : ((s.size : Int) == 10) = false := by rw [beq_eq_false_iff_ne]; omega
  have hx11 : (11 : Int) ≤ s.size := by omega
  have HSEP := Lib.hid (hb h10)
  clear hb
  go_enter Tryd.func22, Tryd.ntmps22
  go_wp2_with (go_at_call 33; (with_reducible refine (HM.out _).mono ?_); rintro e w1 ⟨rfl, hX⟩; have HT1 := Lib.hid (C3.step hX HT0.out); clear hX)
  have T := HT1.out
  go_region_held3 (fun (W : World) => C3 w W ∧ True) ((first | (exact ⟨by assumption, trivial⟩) | (go_split_ands; exact ⟨C3.dr (by assumption), trivial⟩) | (go_split_ands; exact ⟨C3.step hX (by assumption), trivial⟩) | (go_split_ands; exact ⟨C3.p1 (by assumption) _, trivial⟩) | (go_split_ands; exact ⟨C3.p2 (by assumption) _, trivial⟩) | (go_split_ands; exact ⟨C3.p3 (by assumption) _, trivial⟩))) (first | (go_at_call 34; first | ((with_reducible refine (HN1.out _).mono ?_); rintro e wn ⟨rfl, hX⟩) | ((with_reducible refine (HN2.out _).mono ?_); rintro e wn ⟨rfl, hX⟩) | ((with_reducible refine (HN3.out _).mono ?_); rintro e wn ⟨rfl, hX⟩)) | (go_split_ands; obtain ⟨q1, q2, q3, hD⟩ := C3.c (by assumption); have g1 := hD.at_ 1 (by omega); have g2 := hD.at_ 2 (by omega); have g3 := hD.at_ 3 (by omega); have v1 := hD.fz 1; have v2 := hD.fz 2; have v3 := hD.fz 3; go_simp))
  rename_i hH
  obtain ⟨T9, R9, B9⟩ := C3.fin (W := wn) (by assumption) y mo d
  have HF9 := Lib.hid T9
  have HR9 := Lib.hid R9
  have HB9 := Lib.hid B9
  clear hH T T9 R9 B9
  generalize (((wn.setCell ⟨w.heap.size + 1, 1, none⟩ (.int .i64 y)).setCell ⟨w.heap.size + 1, 2, none⟩ (.int .i64 mo)).setCell ⟨w.heap.size + 1, 3, none⟩ (.int .i64 d)) = W9 at *
  have g0 : W9.cell? ⟨w.heap.size + 1, 0, none⟩ = some (.int .i64 0) := HF9.out.at_ 0 (by omega)
  have v0 := HF9.out.fz 0
  have HF10 := Lib.hid (HF9.out.p0 1)
  have HR10 : Hid (FC (W9.setCell ⟨w.heap.size + 1, 0, none⟩ (.int .i64 1)) w.heap.size 0 0 0 0 0 0 0 0 false 0 0) := Lib.hid (World.rowIs.setOther HR9.out (by simp) _)
  have HB10 := Lib.hid (HB9.out.setCell (p := ⟨w.heap.size + 1, 0, none⟩) (by simp) (.int .i64 1))
  go_upto_region 7 with fail
  go_cut [44] (fun t44 wx => t44 = .bool false ∧ FC wx (w.heap.size + 1) 1 y mo d 0 0 0 0 false 0 0 ∧ FC wx w.heap.size 0 0 0 0 0 0 0 0 false 0 0 ∧ Below w.heap.size w wx)
  case first =>
    rcases HSEP.out with q | q | q
    · have t1 : ((s[10].toNat : Int) != 84) = false := by rw [q]; rfl
      go_wp2
      go_meet
      exact ⟨rfl, HF10.out, HR10.out, HB10.out⟩
    · have t1 : ((s[10].toNat : Int) != 84) = true := by rw [q]; rfl
      have t2 : ((s[10].toNat : Int) != 116) = false := by rw [q]; rfl
      go_wp2
      go_meet
      exact ⟨rfl, HF10.out, HR10.out, HB10.out⟩
    · have t1 : ((s[10].toNat : Int) != 84) = true := by rw [q]; rfl
      have t2 : ((s[10].toNat : Int) != 116) = true := by rw [q]; rfl
      have t3 : ((s[10].toNat : Int) != 32) = false := by rw [q]; rfl
      go_wp2
      go_meet
      exact ⟨rfl, HF10.out, HR10.out, HB10.out⟩
  case rest =>
    clear HF9 HR9 HB9 HF10 HR10 HB10 g0 v0 HSEP
    obtain ⟨rfl, qF, qR, qB⟩ := hcut
    have HF10 := Lib.hid qF
    have HR10 := Lib.hid qR
    have HB10 := Lib.hid qB
    clear qF qR qB
    go_wp2_with (go_at_call 35; go_loud ((with_reducible refine (HC.out _ _ _ _ _ _ HF10.out).mono ?_); rintro e w3 ⟨rfl, hB⟩; have HR11 := Lib.hid (HR10.out.below hB (by omega)); have HB11 := Lib.hid (HB10.out.trans (hB.mono (by omega))); have c0 : w3.cell? ⟨w.heap.size, 0, none⟩ = some (.int .i64 0) := HR11.out.at_ 0 (by omega); have x0 := HR11.out.fz 0; have c1 : w3.cell? ⟨w.heap.size, 1, none⟩ = some (.int .i64 0) := HR11.out.at_ 1 (by omega); have x1 := HR11.out.fz 1; have c2 : w3.cell? ⟨w.heap.size, 2, none⟩ = some (.int .i64 0) := HR11.out.at_ 2 (by omega); have x2 := HR11.out.fz 2; have c3 : w3.cell? ⟨w.heap.size, 3, none⟩ = some (.int .i64 0) := HR11.out.at_ 3 (by omega); have x3 := HR11.out.fz 3; have c4 : w3.cell? ⟨w.heap.size, 4, none⟩ = some (.int .i64 0) := HR11.out.at_ 4 (by omega); have x4 := HR11.out.fz 4; have c5 : w3.cell? ⟨w.heap.size, 5, none⟩ = some (.int .i64 0) := HR11.out.at_ 5 (by omega); have x5 := HR11.out.fz 5; have c6 : w3.cell? ⟨w.heap.size, 6, none⟩ = some (.int .i64 0) := HR11.out.at_ 6 (by omega); have x6 := HR11.out.fz 6; have c7 : w3.cell? ⟨w.heap.size, 7, none⟩ = some (.int .i64 0) := HR11.out.at_ 7 (by omega); have x7 := HR11.out.fz 7; have c8 : w3.cell? ⟨w.heap.size, 8, none⟩ = some (.bool false) := HR11.out.at_ 8 (by omega); have x8 := HR11.out.fz 8; have c9 : w3.cell? ⟨w.heap.size, 9, none⟩ = some (.int .i64 0) := HR11.out.at_ 9 (by omega); have x9 := HR11.out.fz 9; have c10 : w3.cell? ⟨w.heap.size, 10, none⟩ = some (.int .i64 0) := HR11.out.at_ 10 (by omega); have x10 := HR11.out.fz 10; clear hB))
    exact bodyPost_ret (v := .tuple #[.agg #[.int .i64 0, .int .i64 0, .int .i64 0, .int .i64 0, .int .i64 0, .int .i64 0, .int .i64 0, .int .i64 0, .bool false, .int .i64 0, .int .i64 0], .bool false]) (by simp [results, Tryd.results22, go_sem, c0, c1, c2, c3, c4, c5, c6, c7, c8, c9, c10]) rfl ⟨rfl, (((((((((((HB11.out.setCell (by simp) _).setCell (by simp) _).setCell (by simp) _).setCell (by simp) _).setCell (by simp) _).setCell (by simp) _).setCell (by simp) _).setCell (by simp) _).setCell (by simp) _).setCell (by simp) _).setCell (by simp) _)⟩
set_option maxRecDepth 100000 in
set_option maxHeartbeats 8000000 in
theorem split_t2 (s : ByteArray) (y mo d : Int) (h mi se na : Int) (w : World) (hz : 10 ≤ s.size) (hf : formL (s.extract 0 10).data.toList p10 = true) (a1 : Lib.atoi (s.extract 0 4).data.toList = some y) (a2 : Lib.atoi (s.extract 5 7).data.toList = some mo) (a3 : Lib.atoi (s.extract 8 10).data.toList = some d) (h10 : 10 < s.size) (hb : ∀ hh : 10 < s.size, (s[10]'hh).toNat = 84 ∨ (s[10]'hh).toNat = 116 ∨ (s[10]'hh).toNat = 32) (s' : ByteArray) (hs' : s.extract 11 s.size = s') (HC : Hid (∀ (A : Nat) (W : World) (k y mo d : Int), FC W A k y mo d 0 0 0 0 false 0 0 → Calls Tryd.prog 35 #[.pointer (some ⟨A, 0, none⟩), .string s'] W fun e w' => e = .returned (.tuple #[.string ⟨#[]⟩, .bool true]) ∧ FC w' A k y mo d h mi se na false 0 0 ∧ Below A W w')) : Calls Tryd.prog 22 #[.string s] w fun e w' => e = .returned (.tuple #[.agg #[.int .i64 3, .int .i64 y, .int .i64 mo, .int .i64 d, .int .i64 h, .int .i64 mi, .int .i64 se, .int .i64 na, .bool false, .int .i64 0, .int .i64 0], .bool true]) ∧ Below w.heap.size w w' := by
  have HT0 := Lib.hid (C3.new w)
  have h1 : (10 : Int) ≤ s.size := by omega
  have h14 : (4 : Int) ≤ s.size := by omega
  have h17 : (7 : Int) ≤ s.size := by omega
  have h15 : (5 : Int) ≤ s.size := by omega
  have h18 : (8 : Int) ≤ s.size := by omega
  have z0 : (s.extract 0 10).size = 10 := ex_size _ _ _ hz
  have z1 : (s.extract 0 4).size = 4 := ex_size _ _ _ (by omega)
  have z2 : (s.extract 5 7).size = 2 := ex_size _ _ _ (by omega)
  have z3 : (s.extract 8 10).size = 2 := ex_size _ _ _ (by omega)
  obtain ⟨d0, hd0⟩ : ∃ d0, s.extract 0 10 = d0 := ⟨_, rfl⟩
  obtain ⟨f1, hf1⟩ : ∃ d0, s.extract 0 4 = d0 := ⟨_, rfl⟩
  obtain ⟨f2, hf2⟩ : ∃ d0, s.extract 5 7 = d0 := ⟨_, rfl⟩
  obtain ⟨f3, hf3⟩ : ∃ d0, s.extract 8 10 = d0 := ⟨_, rfl⟩
  rw [hd0] at hf z0
  rw [hf1] at a1 z1
  rw [hf2] at a2 z2
  rw [hf3] at a3 z3
  have HM := Lib.hid (fun w => matches_any d0 ⟨#[48, 48, 48, 48, 45, 48, 48, 45, 48, 48]⟩ w (by omega))
  rw [show formL d0.data.toList (⟨#[48, 48, 48, 48, 45, 48, 48, 45, 48, 48]⟩ : ByteArray).data.toList = true from hf] at HM
  have HN1 := Lib.hid (fun w => number_any f1 y w (by omega) a1)
  have HN2 := Lib.hid (fun w => number_any f2 mo w (by omega) a2)
  have HN3 := Lib.hid (fun w => number_any f3 d w (by omega) a3)
  clear hf a1 a2 a3 z0 z1 z2 z3
  have hx : ((s.size : Int) == 10) = false := by rw [beq_eq_false_iff_ne]; omega
  have hx11 : (11 : Int) ≤ s.size := by omega
  have HSEP := Lib.hid (hb h10)
  clear hb
  go_enter Tryd.func22, Tryd.ntmps22
  go_wp2_with (go_at_call 33; (with_reducible refine (HM.out _).mono ?_); rintro e w1 ⟨rfl, hX⟩; have HT1 := Lib.hid (C3.step hX HT0.out); clear hX)
  have T := HT1.out
  go_region_held3 (fun (W : World) => C3 w W ∧ True) ((first | (exact ⟨by assumption, trivial⟩) | (go_split_ands; exact ⟨C3.dr (by assumption), trivial⟩) | (go_split_ands; exact ⟨C3.step hX (by assumption), trivial⟩) | (go_split_ands; exact ⟨C3.p1 (by assumption) _, trivial⟩) | (go_split_ands; exact ⟨C3.p2 (by assumption) _, trivial⟩) | (go_split_ands; exact ⟨C3.p3 (by assumption) _, trivial⟩))) (first | (go_at_call 34; first | ((with_reducible refine (HN1.out _).mono ?_); rintro e wn ⟨rfl, hX⟩) | ((with_reducible refine (HN2.out _).mono ?_); rintro e wn ⟨rfl, hX⟩) | ((with_reducible refine (HN3.out _).mono ?_); rintro e wn ⟨rfl, hX⟩)) | (go_split_ands; obtain ⟨q1, q2, q3, hD⟩ := C3.c (by assumption); have g1 := hD.at_ 1 (by omega); have g2 := hD.at_ 2 (by omega); have g3 := hD.at_ 3 (by omega); have v1 := hD.fz 1; have v2 := hD.fz 2; have v3 := hD.fz 3; go_simp))
  rename_i hH
  obtain ⟨T9, R9, B9⟩ := C3.fin (W := wn) (by assumption) y mo d
  have HF9 := Lib.hid T9
  have HR9 := Lib.hid R9
  have HB9 := Lib.hid B9
  clear hH T T9 R9 B9
  generalize (((wn.setCell ⟨w.heap.size + 1, 1, none⟩ (.int .i64 y)).setCell ⟨w.heap.size + 1, 2, none⟩ (.int .i64 mo)).setCell ⟨w.heap.size + 1, 3, none⟩ (.int .i64 d)) = W9 at *
  have g0 : W9.cell? ⟨w.heap.size + 1, 0, none⟩ = some (.int .i64 0) := HF9.out.at_ 0 (by omega)
  have v0 := HF9.out.fz 0
  have HF10 := Lib.hid (HF9.out.p0 1)
  have HR10 : Hid (FC (W9.setCell ⟨w.heap.size + 1, 0, none⟩ (.int .i64 1)) w.heap.size 0 0 0 0 0 0 0 0 false 0 0) := Lib.hid (World.rowIs.setOther HR9.out (by simp) _)
  have HB10 := Lib.hid (HB9.out.setCell (p := ⟨w.heap.size + 1, 0, none⟩) (by simp) (.int .i64 1))
  go_upto_region 7 with fail
  go_cut [44] (fun t44 wx => t44 = .bool false ∧ FC wx (w.heap.size + 1) 1 y mo d 0 0 0 0 false 0 0 ∧ FC wx w.heap.size 0 0 0 0 0 0 0 0 false 0 0 ∧ Below w.heap.size w wx)
  case first =>
    rcases HSEP.out with q | q | q
    · have t1 : ((s[10].toNat : Int) != 84) = false := by rw [q]; rfl
      go_wp2
      go_meet
      exact ⟨rfl, HF10.out, HR10.out, HB10.out⟩
    · have t1 : ((s[10].toNat : Int) != 84) = true := by rw [q]; rfl
      have t2 : ((s[10].toNat : Int) != 116) = false := by rw [q]; rfl
      go_wp2
      go_meet
      exact ⟨rfl, HF10.out, HR10.out, HB10.out⟩
    · have t1 : ((s[10].toNat : Int) != 84) = true := by rw [q]; rfl
      have t2 : ((s[10].toNat : Int) != 116) = true := by rw [q]; rfl
      have t3 : ((s[10].toNat : Int) != 32) = false := by rw [q]; rfl
      go_wp2
      go_meet
      exact ⟨rfl, HF10.out, HR10.out, HB10.out⟩
  case rest =>
    clear HF9 HR9 HB9 HF10 HR10 HB10 g0 v0 HSEP
    obtain ⟨rfl, qF, qR, qB⟩ := hcut
    have HF10 := Lib.hid qF
    have HR10 := Lib.hid qR
    have HB10 := Lib.hid qB
    clear qF qR qB
    go_wp2_with (go_at_call 35; go_loud ((with_reducible refine (HC.out _ _ _ _ _ _ HF10.out).mono ?_); rintro e w3 ⟨rfl, hF, hB⟩; have HF11 := Lib.hid hF; have HR11 := Lib.hid (HR10.out.below hB (by omega)); have HB11 := Lib.hid (HB10.out.trans (hB.mono (by omega))); have g0 : w3.cell? ⟨w.heap.size + 1, 0, none⟩ = some (.int .i64 1) := HF11.out.at_ 0 (by omega); have g1 : w3.cell? ⟨w.heap.size + 1, 1, none⟩ = some (.int .i64 y) := HF11.out.at_ 1 (by omega); have g2 : w3.cell? ⟨w.heap.size + 1, 2, none⟩ = some (.int .i64 mo) := HF11.out.at_ 2 (by omega); have g3 : w3.cell? ⟨w.heap.size + 1, 3, none⟩ = some (.int .i64 d) := HF11.out.at_ 3 (by omega); have g4 : w3.cell? ⟨w.heap.size + 1, 4, none⟩ = some (.int .i64 h) := HF11.out.at_ 4 (by omega); have g5 : w3.cell? ⟨w.heap.size + 1, 5, none⟩ = some (.int .i64 mi) := HF11.out.at_ 5 (by omega); have g6 : w3.cell? ⟨w.heap.size + 1, 6, none⟩ = some (.int .i64 se) := HF11.out.at_ 6 (by omega); have g7 : w3.cell? ⟨w.heap.size + 1, 7, none⟩ = some (.int .i64 na) := HF11.out.at_ 7 (by omega); have g8 : w3.cell? ⟨w.heap.size + 1, 8, none⟩ = some (.bool false) := HF11.out.at_ 8 (by omega); have g9 : w3.cell? ⟨w.heap.size + 1, 9, none⟩ = some (.int .i64 0) := HF11.out.at_ 9 (by omega); have g10 : w3.cell? ⟨w.heap.size + 1, 10, none⟩ = some (.int .i64 0) := HF11.out.at_ 10 (by omega); have v0 := HF11.out.fz 0; have c0 : w3.cell? ⟨w.heap.size, 0, none⟩ = some (.int .i64 0) := HR11.out.at_ 0 (by omega); have x0 := HR11.out.fz 0; have c1 : w3.cell? ⟨w.heap.size, 1, none⟩ = some (.int .i64 0) := HR11.out.at_ 1 (by omega); have x1 := HR11.out.fz 1; have c2 : w3.cell? ⟨w.heap.size, 2, none⟩ = some (.int .i64 0) := HR11.out.at_ 2 (by omega); have x2 := HR11.out.fz 2; have c3 : w3.cell? ⟨w.heap.size, 3, none⟩ = some (.int .i64 0) := HR11.out.at_ 3 (by omega); have x3 := HR11.out.fz 3; have c4 : w3.cell? ⟨w.heap.size, 4, none⟩ = some (.int .i64 0) := HR11.out.at_ 4 (by omega); have x4 := HR11.out.fz 4; have c5 : w3.cell? ⟨w.heap.size, 5, none⟩ = some (.int .i64 0) := HR11.out.at_ 5 (by omega); have x5 := HR11.out.fz 5; have c6 : w3.cell? ⟨w.heap.size, 6, none⟩ = some (.int .i64 0) := HR11.out.at_ 6 (by omega); have x6 := HR11.out.fz 6; have c7 : w3.cell? ⟨w.heap.size, 7, none⟩ = some (.int .i64 0) := HR11.out.at_ 7 (by omega); have x7 := HR11.out.fz 7; have c8 : w3.cell? ⟨w.heap.size, 8, none⟩ = some (.bool false) := HR11.out.at_ 8 (by omega); have x8 := HR11.out.fz 8; have c9 : w3.cell? ⟨w.heap.size, 9, none⟩ = some (.int .i64 0) := HR11.out.at_ 9 (by omega); have x9 := HR11.out.fz 9; have c10 : w3.cell? ⟨w.heap.size, 10, none⟩ = some (.int .i64 0) := HR11.out.at_ 10 (by omega); have x10 := HR11.out.fz 10; clear hF hB))
    exact bodyPost_ret (v := .tuple #[.agg #[.int .i64 3, .int .i64 y, .int .i64 mo, .int .i64 d, .int .i64 h, .int .i64 mi, .int .i64 se, .int .i64 na, .bool false, .int .i64 0, .int .i64 0], .bool true]) (by simp [results, Tryd.results22, go_sem, c0, c1, c2, c3, c4, c5, c6, c7, c8, c9, c10]) rfl ⟨rfl, ((((((((((((HB11.out.setCell (by simp) _).setCell (by simp) _).setCell (by simp) _).setCell (by simp) _).setCell (by simp) _).setCell (by simp) _).setCell (by simp) _).setCell (by simp) _).setCell (by simp) _).setCell (by simp) _).setCell (by simp) _).setCell (by simp) _)⟩
set_option maxRecDepth 100000 in
set_option maxHeartbeats 8000000 in
theorem split_t3 (s : ByteArray) (y mo d : Int) (h mi se na : Int) (r : ByteArray) (hr : r.data.toList ≠ []) (w : World) (hz : 10 ≤ s.size) (hf : formL (s.extract 0 10).data.toList p10 = true) (a1 : Lib.atoi (s.extract 0 4).data.toList = some y) (a2 : Lib.atoi (s.extract 5 7).data.toList = some mo) (a3 : Lib.atoi (s.extract 8 10).data.toList = some d) (h10 : 10 < s.size) (hb : ∀ hh : 10 < s.size, (s[10]'hh).toNat = 84 ∨ (s[10]'hh).toNat = 116 ∨ (s[10]'hh).toNat = 32) (s' : ByteArray) (hs' : s.extract 11 s.size = s') (HC : Hid (∀ (A : Nat) (W : World) (k y mo d : Int), FC W A k y mo d 0 0 0 0 false 0 0 → Calls Tryd.prog 35 #[.pointer (some ⟨A, 0, none⟩), .string s'] W fun e w' => e = .returned (.tuple #[.string r, .bool true]) ∧ FC w' A k y mo d h mi se na false 0 0 ∧ Below A W w')) (HZ : Hid (∀ (A : Nat) (W : World) (k y mo d h mi se na : Int), FC W A k y mo d h mi se na false 0 0 → Calls Tryd.prog 36 #[.pointer (some ⟨A, 0, none⟩), .string r] W fun e w' => e = .returned (.bool false) ∧ Below A W w')) : Calls Tryd.prog 22 #[.string s] w fun e w' => e = .returned (.tuple #[.agg #[.int .i64 0, .int .i64 0, .int .i64 0, .int .i64 0, .int .i64 0, .int .i64 0, .int .i64 0, .int .i64 0, .bool false, .int .i64 0, .int .i64 0], .bool false]) ∧ Below w.heap.size w w' := by
  have HT0 := Lib.hid (C3.new w)
  have h1 : (10 : Int) ≤ s.size := by omega
  have h14 : (4 : Int) ≤ s.size := by omega
  have h17 : (7 : Int) ≤ s.size := by omega
  have h15 : (5 : Int) ≤ s.size := by omega
  have h18 : (8 : Int) ≤ s.size := by omega
  have z0 : (s.extract 0 10).size = 10 := ex_size _ _ _ hz
  have z1 : (s.extract 0 4).size = 4 := ex_size _ _ _ (by omega)
  have z2 : (s.extract 5 7).size = 2 := ex_size _ _ _ (by omega)
  have z3 : (s.extract 8 10).size = 2 := ex_size _ _ _ (by omega)
  obtain ⟨d0, hd0⟩ : ∃ d0, s.extract 0 10 = d0 := ⟨_, rfl⟩
  obtain ⟨f1, hf1⟩ : ∃ d0, s.extract 0 4 = d0 := ⟨_, rfl⟩
  obtain ⟨f2, hf2⟩ : ∃ d0, s.extract 5 7 = d0 := ⟨_, rfl⟩
  obtain ⟨f3, hf3⟩ : ∃ d0, s.extract 8 10 = d0 := ⟨_, rfl⟩
  rw [hd0] at hf z0
  rw [hf1] at a1 z1
  rw [hf2] at a2 z2
  rw [hf3] at a3 z3
  have HM := Lib.hid (fun w => matches_any d0 ⟨#[48, 48, 48, 48, 45, 48, 48, 45, 48, 48]⟩ w (by omega))
  rw [show formL d0.data.toList (⟨#[48, 48, 48, 48, 45, 48, 48, 45, 48, 48]⟩ : ByteArray).data.toList = true from hf] at HM
  have HN1 := Lib.hid (fun w => number_any f1 y w (by omega) a1)
  have HN2 := Lib.hid (fun w => number_any f2 mo w (by omega) a2)
  have HN3 := Lib.hid (fun w => number_any f3 d w (by omega) a3)
  clear hf a1 a2 a3 z0 z1 z2 z3
  have r1 : r.toList.isEmpty = false := by
    rw [toList_data]
    cases hc : r.data.toList with
    | nil => exact absurd hc hr
    | cons _ _ => rfl
  have r2 : ¬ r.toList = [] := by intro e; rw [e] at r1; cases r1
  clear hr
  have hx : ((s.size : Int) == 10) = false := by rw [beq_eq_false_iff_ne]; omega
  have hx11 : (11 : Int) ≤ s.size := by omega
  have HSEP := Lib.hid (hb h10)
  clear hb
  go_enter Tryd.func22, Tryd.ntmps22
  go_wp2_with (go_at_call 33; (with_reducible refine (HM.out _).mono ?_); rintro e w1 ⟨rfl, hX⟩; have HT1 := Lib.hid (C3.step hX HT0.out); clear hX)
  have T := HT1.out
  go_region_held3 (fun (W : World) => C3 w W ∧ True) ((first | (exact ⟨by assumption, trivial⟩) | (go_split_ands; exact ⟨C3.dr (by assumption), trivial⟩) | (go_split_ands; exact ⟨C3.step hX (by assumption), trivial⟩) | (go_split_ands; exact ⟨C3.p1 (by assumption) _, trivial⟩) | (go_split_ands; exact ⟨C3.p2 (by assumption) _, trivial⟩) | (go_split_ands; exact ⟨C3.p3 (by assumption) _, trivial⟩))) (first | (go_at_call 34; first | ((with_reducible refine (HN1.out _).mono ?_); rintro e wn ⟨rfl, hX⟩) | ((with_reducible refine (HN2.out _).mono ?_); rintro e wn ⟨rfl, hX⟩) | ((with_reducible refine (HN3.out _).mono ?_); rintro e wn ⟨rfl, hX⟩)) | (go_split_ands; obtain ⟨q1, q2, q3, hD⟩ := C3.c (by assumption); have g1 := hD.at_ 1 (by omega); have g2 := hD.at_ 2 (by omega); have g3 := hD.at_ 3 (by omega); have v1 := hD.fz 1; have v2 := hD.fz 2; have v3 := hD.fz 3; go_simp))
  rename_i hH
  obtain ⟨T9, R9, B9⟩ := C3.fin (W := wn) (by assumption) y mo d
  have HF9 := Lib.hid T9
  have HR9 := Lib.hid R9
  have HB9 := Lib.hid B9
  clear hH T T9 R9 B9
  generalize (((wn.setCell ⟨w.heap.size + 1, 1, none⟩ (.int .i64 y)).setCell ⟨w.heap.size + 1, 2, none⟩ (.int .i64 mo)).setCell ⟨w.heap.size + 1, 3, none⟩ (.int .i64 d)) = W9 at *
  have g0 : W9.cell? ⟨w.heap.size + 1, 0, none⟩ = some (.int .i64 0) := HF9.out.at_ 0 (by omega)
  have v0 := HF9.out.fz 0
  have HF10 := Lib.hid (HF9.out.p0 1)
  have HR10 : Hid (FC (W9.setCell ⟨w.heap.size + 1, 0, none⟩ (.int .i64 1)) w.heap.size 0 0 0 0 0 0 0 0 false 0 0) := Lib.hid (World.rowIs.setOther HR9.out (by simp) _)
  have HB10 := Lib.hid (HB9.out.setCell (p := ⟨w.heap.size + 1, 0, none⟩) (by simp) (.int .i64 1))
  go_upto_region 7 with fail
  go_cut [44] (fun t44 wx => t44 = .bool false ∧ FC wx (w.heap.size + 1) 1 y mo d 0 0 0 0 false 0 0 ∧ FC wx w.heap.size 0 0 0 0 0 0 0 0 false 0 0 ∧ Below w.heap.size w wx)
  case first =>
    rcases HSEP.out with q | q | q
    · have t1 : ((s[10].toNat : Int) != 84) = false := by rw [q]; rfl
      go_wp2
      go_meet
      exact ⟨rfl, HF10.out, HR10.out, HB10.out⟩
    · have t1 : ((s[10].toNat : Int) != 84) = true := by rw [q]; rfl
      have t2 : ((s[10].toNat : Int) != 116) = false := by rw [q]; rfl
      go_wp2
      go_meet
      exact ⟨rfl, HF10.out, HR10.out, HB10.out⟩
    · have t1 : ((s[10].toNat : Int) != 84) = true := by rw [q]; rfl
      have t2 : ((s[10].toNat : Int) != 116) = true := by rw [q]; rfl
      have t3 : ((s[10].toNat : Int) != 32) = false := by rw [q]; rfl
      go_wp2
      go_meet
      exact ⟨rfl, HF10.out, HR10.out, HB10.out⟩
  case rest =>
    clear HF9 HR9 HB9 HF10 HR10 HB10 g0 v0 HSEP
    obtain ⟨rfl, qF, qR, qB⟩ := hcut
    have HF10 := Lib.hid qF
    have HR10 := Lib.hid qR
    have HB10 := Lib.hid qB
    clear qF qR qB
    go_wp2_with (first | (go_at_call 35; go_loud ((with_reducible refine (HC.out _ _ _ _ _ _ HF10.out).mono ?_); rintro e w3 ⟨rfl, hF, hB⟩; have HF11 := Lib.hid hF; have HR11 := Lib.hid (HR10.out.below hB (by omega)); have HB11 := Lib.hid (HB10.out.trans (hB.mono (by omega))); have g0 : w3.cell? ⟨w.heap.size + 1, 0, none⟩ = some (.int .i64 1) := HF11.out.at_ 0 (by omega); clear hF hB)) | (go_at_call 36; go_loud ((with_reducible refine (HZ.out _ _ _ _ _ _ _ _ _ _ HF11.out).mono ?_); rintro e w4 ⟨rfl, hB⟩; have HR12 := Lib.hid (HR11.out.below hB (by omega)); have HB12 := Lib.hid (HB11.out.trans (hB.mono (by omega))); clear g0; have c0 : w4.cell? ⟨w.heap.size, 0, none⟩ = some (.int .i64 0) := HR12.out.at_ 0 (by omega); have x0 := HR12.out.fz 0; have c1 : w4.cell? ⟨w.heap.size, 1, none⟩ = some (.int .i64 0) := HR12.out.at_ 1 (by omega); have x1 := HR12.out.fz 1; have c2 : w4.cell? ⟨w.heap.size, 2, none⟩ = some (.int .i64 0) := HR12.out.at_ 2 (by omega); have x2 := HR12.out.fz 2; have c3 : w4.cell? ⟨w.heap.size, 3, none⟩ = some (.int .i64 0) := HR12.out.at_ 3 (by omega); have x3 := HR12.out.fz 3; have c4 : w4.cell? ⟨w.heap.size, 4, none⟩ = some (.int .i64 0) := HR12.out.at_ 4 (by omega); have x4 := HR12.out.fz 4; have c5 : w4.cell? ⟨w.heap.size, 5, none⟩ = some (.int .i64 0) := HR12.out.at_ 5 (by omega); have x5 := HR12.out.fz 5; have c6 : w4.cell? ⟨w.heap.size, 6, none⟩ = some (.int .i64 0) := HR12.out.at_ 6 (by omega); have x6 := HR12.out.fz 6; have c7 : w4.cell? ⟨w.heap.size, 7, none⟩ = some (.int .i64 0) := HR12.out.at_ 7 (by omega); have x7 := HR12.out.fz 7; have c8 : w4.cell? ⟨w.heap.size, 8, none⟩ = some (.bool false) := HR12.out.at_ 8 (by omega); have x8 := HR12.out.fz 8; have c9 : w4.cell? ⟨w.heap.size, 9, none⟩ = some (.int .i64 0) := HR12.out.at_ 9 (by omega); have x9 := HR12.out.fz 9; have c10 : w4.cell? ⟨w.heap.size, 10, none⟩ = some (.int .i64 0) := HR12.out.at_ 10 (by omega); have x10 := HR12.out.fz 10; clear hB)))
    exact bodyPost_ret (v := .tuple #[.agg #[.int .i64 0, .int .i64 0, .int .i64 0, .int .i64 0, .int .i64 0, .int .i64 0, .int .i64 0, .int .i64 0, .bool false, .int .i64 0, .int .i64 0], .bool false]) (by simp [results, Tryd.results22, go_sem, c0, c1, c2, c3, c4, c5, c6, c7, c8, c9, c10]) rfl ⟨rfl, (((((((((((HB12.out.setCell (by simp) _).setCell (by simp) _).setCell (by simp) _).setCell (by simp) _).setCell (by simp) _).setCell (by simp) _).setCell (by simp) _).setCell (by simp) _).setCell (by simp) _).setCell (by simp) _).setCell (by simp) _)⟩
set_option maxRecDepth 100000 in
set_option maxHeartbeats 8000000 in
theorem split_t4 (s : ByteArray) (y mo d : Int) (h mi se na zh zm : Int) (ea : Bool) (r : ByteArray) (hr : r.data.toList ≠ []) (w : World) (hz : 10 ≤ s.size) (hf : formL (s.extract 0 10).data.toList p10 = true) (a1 : Lib.atoi (s.extract 0 4).data.toList = some y) (a2 : Lib.atoi (s.extract 5 7).data.toList = some mo) (a3 : Lib.atoi (s.extract 8 10).data.toList = some d) (h10 : 10 < s.size) (hb : ∀ hh : 10 < s.size, (s[10]'hh).toNat = 84 ∨ (s[10]'hh).toNat = 116 ∨ (s[10]'hh).toNat = 32) (s' : ByteArray) (hs' : s.extract 11 s.size = s') (HC : Hid (∀ (A : Nat) (W : World) (k y mo d : Int), FC W A k y mo d 0 0 0 0 false 0 0 → Calls Tryd.prog 35 #[.pointer (some ⟨A, 0, none⟩), .string s'] W fun e w' => e = .returned (.tuple #[.string r, .bool true]) ∧ FC w' A k y mo d h mi se na false 0 0 ∧ Below A W w')) (HZ : Hid (∀ (A : Nat) (W : World) (k y mo d h mi se na : Int), FC W A k y mo d h mi se na false 0 0 → Calls Tryd.prog 36 #[.pointer (some ⟨A, 0, none⟩), .string r] W fun e w' => e = .returned (.bool true) ∧ FC w' A k y mo d h mi se na ea zh zm ∧ Below A W w')) : Calls Tryd.prog 22 #[.string s] w fun e w' => e = .returned (.tuple #[.agg #[.int .i64 4, .int .i64 y, .int .i64 mo, .int .i64 d, .int .i64 h, .int .i64 mi, .int .i64 se, .int .i64 na, .bool ea, .int .i64 zh, .int .i64 zm], .bool true]) ∧ Below w.heap.size w w' := by
  have HT0 := Lib.hid (C3.new w)
  have h1 : (10 : Int) ≤ s.size := by omega
  have h14 : (4 : Int) ≤ s.size := by omega
  have h17 : (7 : Int) ≤ s.size := by omega
  have h15 : (5 : Int) ≤ s.size := by omega
  have h18 : (8 : Int) ≤ s.size := by omega
  have z0 : (s.extract 0 10).size = 10 := ex_size _ _ _ hz
  have z1 : (s.extract 0 4).size = 4 := ex_size _ _ _ (by omega)
  have z2 : (s.extract 5 7).size = 2 := ex_size _ _ _ (by omega)
  have z3 : (s.extract 8 10).size = 2 := ex_size _ _ _ (by omega)
  obtain ⟨d0, hd0⟩ : ∃ d0, s.extract 0 10 = d0 := ⟨_, rfl⟩
  obtain ⟨f1, hf1⟩ : ∃ d0, s.extract 0 4 = d0 := ⟨_, rfl⟩
  obtain ⟨f2, hf2⟩ : ∃ d0, s.extract 5 7 = d0 := ⟨_, rfl⟩
  obtain ⟨f3, hf3⟩ : ∃ d0, s.extract 8 10 = d0 := ⟨_, rfl⟩
  rw [hd0] at hf z0
  rw [hf1] at a1 z1
  rw [hf2] at a2 z2
  rw [hf3] at a3 z3
  have HM := Lib.hid (fun w => matches_any d0 ⟨#[48, 48, 48, 48, 45, 48, 48, 45, 48, 48]⟩ w (by omega))
  rw [show formL d0.data.toList (⟨#[48, 48, 48, 48, 45, 48, 48, 45, 48, 48]⟩ : ByteArray).data.toList = true from hf] at HM
  have HN1 := Lib.hid (fun w => number_any f1 y w (by omega) a1)
  have HN2 := Lib.hid (fun w => number_any f2 mo w (by omega) a2)
  have HN3 := Lib.hid (fun w => number_any f3 d w (by omega) a3)
  clear hf a1 a2 a3 z0 z1 z2 z3
  have r1 : r.toList.isEmpty = false := by
    rw [toList_data]
    cases hc : r.data.toList with
    | nil => exact absurd hc hr
    | cons _ _ => rfl
  have r2 : ¬ r.toList = [] := by intro e; rw [e] at r1; cases r1
  clear hr
  have hx : ((s.size : Int) == 10) = false := by rw [beq_eq_false_iff_ne]; omega
  have hx11 : (11 : Int) ≤ s.size := by omega
  have HSEP := Lib.hid (hb h10)
  clear hb
  go_enter Tryd.func22, Tryd.ntmps22
  go_wp2_with (go_at_call 33; (with_reducible refine (HM.out _).mono ?_); rintro e w1 ⟨rfl, hX⟩; have HT1 := Lib.hid (C3.step hX HT0.out); clear hX)
  have T := HT1.out
  go_region_held3 (fun (W : World) => C3 w W ∧ True) ((first | (exact ⟨by assumption, trivial⟩) | (go_split_ands; exact ⟨C3.dr (by assumption), trivial⟩) | (go_split_ands; exact ⟨C3.step hX (by assumption), trivial⟩) | (go_split_ands; exact ⟨C3.p1 (by assumption) _, trivial⟩) | (go_split_ands; exact ⟨C3.p2 (by assumption) _, trivial⟩) | (go_split_ands; exact ⟨C3.p3 (by assumption) _, trivial⟩))) (first | (go_at_call 34; first | ((with_reducible refine (HN1.out _).mono ?_); rintro e wn ⟨rfl, hX⟩) | ((with_reducible refine (HN2.out _).mono ?_); rintro e wn ⟨rfl, hX⟩) | ((with_reducible refine (HN3.out _).mono ?_); rintro e wn ⟨rfl, hX⟩)) | (go_split_ands; obtain ⟨q1, q2, q3, hD⟩ := C3.c (by assumption); have g1 := hD.at_ 1 (by omega); have g2 := hD.at_ 2 (by omega); have g3 := hD.at_ 3 (by omega); have v1 := hD.fz 1; have v2 := hD.fz 2; have v3 := hD.fz 3; go_simp))
  rename_i hH
  obtain ⟨T9, R9, B9⟩ := C3.fin (W := wn) (by assumption) y mo d
  have HF9 := Lib.hid T9
  have HR9 := Lib.hid R9
  have HB9 := Lib.hid B9
  clear hH T T9 R9 B9
  generalize (((wn.setCell ⟨w.heap.size + 1, 1, none⟩ (.int .i64 y)).setCell ⟨w.heap.size + 1, 2, none⟩ (.int .i64 mo)).setCell ⟨w.heap.size + 1, 3, none⟩ (.int .i64 d)) = W9 at *
  have g0 : W9.cell? ⟨w.heap.size + 1, 0, none⟩ = some (.int .i64 0) := HF9.out.at_ 0 (by omega)
  have v0 := HF9.out.fz 0
  have HF10 := Lib.hid (HF9.out.p0 1)
  have HR10 : Hid (FC (W9.setCell ⟨w.heap.size + 1, 0, none⟩ (.int .i64 1)) w.heap.size 0 0 0 0 0 0 0 0 false 0 0) := Lib.hid (World.rowIs.setOther HR9.out (by simp) _)
  have HB10 := Lib.hid (HB9.out.setCell (p := ⟨w.heap.size + 1, 0, none⟩) (by simp) (.int .i64 1))
  go_upto_region 7 with fail
  go_cut [44] (fun t44 wx => t44 = .bool false ∧ FC wx (w.heap.size + 1) 1 y mo d 0 0 0 0 false 0 0 ∧ FC wx w.heap.size 0 0 0 0 0 0 0 0 false 0 0 ∧ Below w.heap.size w wx)
  case first =>
    rcases HSEP.out with q | q | q
    · have t1 : ((s[10].toNat : Int) != 84) = false := by rw [q]; rfl
      go_wp2
      go_meet
      exact ⟨rfl, HF10.out, HR10.out, HB10.out⟩
    · have t1 : ((s[10].toNat : Int) != 84) = true := by rw [q]; rfl
      have t2 : ((s[10].toNat : Int) != 116) = false := by rw [q]; rfl
      go_wp2
      go_meet
      exact ⟨rfl, HF10.out, HR10.out, HB10.out⟩
    · have t1 : ((s[10].toNat : Int) != 84) = true := by rw [q]; rfl
      have t2 : ((s[10].toNat : Int) != 116) = true := by rw [q]; rfl
      have t3 : ((s[10].toNat : Int) != 32) = false := by rw [q]; rfl
      go_wp2
      go_meet
      exact ⟨rfl, HF10.out, HR10.out, HB10.out⟩
  case rest =>
    clear HF9 HR9 HB9 HF10 HR10 HB10 g0 v0 HSEP
    obtain ⟨rfl, qF, qR, qB⟩ := hcut
    have HF10 := Lib.hid qF
    have HR10 := Lib.hid qR
    have HB10 := Lib.hid qB
    clear qF qR qB
    go_wp2_with (first | (go_at_call 35; go_loud ((with_reducible refine (HC.out _ _ _ _ _ _ HF10.out).mono ?_); rintro e w3 ⟨rfl, hF, hB⟩; have HF11 := Lib.hid hF; have HR11 := Lib.hid (HR10.out.below hB (by omega)); have HB11 := Lib.hid (HB10.out.trans (hB.mono (by omega))); have g0 : w3.cell? ⟨w.heap.size + 1, 0, none⟩ = some (.int .i64 1) := HF11.out.at_ 0 (by omega); clear hF hB)) | (go_at_call 36; go_loud ((with_reducible refine (HZ.out _ _ _ _ _ _ _ _ _ _ HF11.out).mono ?_); rintro e w4 ⟨rfl, hF, hB⟩; have HF12 := Lib.hid hF; have HR12 := Lib.hid (HR11.out.below hB (by omega)); have HB12 := Lib.hid (HB11.out.trans (hB.mono (by omega))); clear g0; have g0 : w4.cell? ⟨w.heap.size + 1, 0, none⟩ = some (.int .i64 1) := HF12.out.at_ 0 (by omega); have g1 : w4.cell? ⟨w.heap.size + 1, 1, none⟩ = some (.int .i64 y) := HF12.out.at_ 1 (by omega); have g2 : w4.cell? ⟨w.heap.size + 1, 2, none⟩ = some (.int .i64 mo) := HF12.out.at_ 2 (by omega); have g3 : w4.cell? ⟨w.heap.size + 1, 3, none⟩ = some (.int .i64 d) := HF12.out.at_ 3 (by omega); have g4 : w4.cell? ⟨w.heap.size + 1, 4, none⟩ = some (.int .i64 h) := HF12.out.at_ 4 (by omega); have g5 : w4.cell? ⟨w.heap.size + 1, 5, none⟩ = some (.int .i64 mi) := HF12.out.at_ 5 (by omega); have g6 : w4.cell? ⟨w.heap.size + 1, 6, none⟩ = some (.int .i64 se) := HF12.out.at_ 6 (by omega); have g7 : w4.cell? ⟨w.heap.size + 1, 7, none⟩ = some (.int .i64 na) := HF12.out.at_ 7 (by omega); have g8 : w4.cell? ⟨w.heap.size + 1, 8, none⟩ = some (.bool ea) := HF12.out.at_ 8 (by omega); have g9 : w4.cell? ⟨w.heap.size + 1, 9, none⟩ = some (.int .i64 zh) := HF12.out.at_ 9 (by omega); have g10 : w4.cell? ⟨w.heap.size + 1, 10, none⟩ = some (.int .i64 zm) := HF12.out.at_ 10 (by omega); have v0 := HF12.out.fz 0; have c0 : w4.cell? ⟨w.heap.size, 0, none⟩ = some (.int .i64 0) := HR12.out.at_ 0 (by omega); have x0 := HR12.out.fz 0; have c1 : w4.cell? ⟨w.heap.size, 1, none⟩ = some (.int .i64 0) := HR12.out.at_ 1 (by omega); have x1 := HR12.out.fz 1; have c2 : w4.cell? ⟨w.heap.size, 2, none⟩ = some (.int .i64 0) := HR12.out.at_ 2 (by omega); have x2 := HR12.out.fz 2; have c3 : w4.cell? ⟨w.heap.size, 3, none⟩ = some (.int .i64 0) := HR12.out.at_ 3 (by omega); have x3 := HR12.out.fz 3; have c4 : w4.cell? ⟨w.heap.size, 4, none⟩ = some (.int .i64 0) := HR12.out.at_ 4 (by omega); have x4 := HR12.out.fz 4; have c5 : w4.cell? ⟨w.heap.size, 5, none⟩ = some (.int .i64 0) := HR12.out.at_ 5 (by omega); have x5 := HR12.out.fz 5; have c6 : w4.cell? ⟨w.heap.size, 6, none⟩ = some (.int .i64 0) := HR12.out.at_ 6 (by omega); have x6 := HR12.out.fz 6; have c7 : w4.cell? ⟨w.heap.size, 7, none⟩ = some (.int .i64 0) := HR12.out.at_ 7 (by omega); have x7 := HR12.out.fz 7; have c8 : w4.cell? ⟨w.heap.size, 8, none⟩ = some (.bool false) := HR12.out.at_ 8 (by omega); have x8 := HR12.out.fz 8; have c9 : w4.cell? ⟨w.heap.size, 9, none⟩ = some (.int .i64 0) := HR12.out.at_ 9 (by omega); have x9 := HR12.out.fz 9; have c10 : w4.cell? ⟨w.heap.size, 10, none⟩ = some (.int .i64 0) := HR12.out.at_ 10 (by omega); have x10 := HR12.out.fz 10; clear hF hB)))
    exact bodyPost_ret (v := .tuple #[.agg #[.int .i64 4, .int .i64 y, .int .i64 mo, .int .i64 d, .int .i64 h, .int .i64 mi, .int .i64 se, .int .i64 na, .bool ea, .int .i64 zh, .int .i64 zm], .bool true]) (by simp [results, Tryd.results22, go_sem, c0, c1, c2, c3, c4, c5, c6, c7, c8, c9, c10]) rfl ⟨rfl, ((((((((((((HB12.out.setCell (by simp) _).setCell (by simp) _).setCell (by simp) _).setCell (by simp) _).setCell (by simp) _).setCell (by simp) _).setCell (by simp) _).setCell (by simp) _).setCell (by simp) _).setCell (by simp) _).setCell (by simp) _).setCell (by simp) _)⟩
end Go.Proofs.YtkbddelacjjapaaDoor.Mom
