/-
  Package moment: the chapter's example.
-/
import Derived.Test.YtkbddelacjjapaaDoorMomN
namespace Go.Proofs.YtkbddelacjjapaaDoor.Mom
open Go.RowKit
set_option linter.unusedVariables false
set_option linter.unusedSimpArgs false
open Go.Proofs.YtkbddelacjjapaaDoor.Cal

def formL : List UInt8 → List UInt8 → Bool
  | [], [] => true
  | a :: s, b :: p => ((b == 48 && decide (48 ≤ a.toNat) && decide (a.toNat ≤ 57)) || (b != 48 && a == b)) && formL s p
  | _, _ => false
theorem form_len : ∀ s p : List UInt8, formL s p = true → s.length = p.length
  | [], [], _ => rfl
  | _ :: s, _ :: p, h => by
    unfold formL at h
    rw [Bool.and_eq_true] at h
    simp [form_len s p h.2]
  | [], _ :: _, h => by cases h
  | _ :: _, [], h => by cases h
theorem form_at : ∀ (s p : List UInt8), formL s p = true → ∀ (k : Nat) (a b : UInt8), s[k]? = some a → p[k]? = some b → (b = 48 ∧ 48 ≤ a.toNat ∧ a.toNat ≤ 57) ∨ (b ≠ 48 ∧ a = b)
  | [], _, _, k, a, b, ha, _ => by simp at ha
  | _ :: _, [], h, _, _, _, _, _ => by cases h
  | x :: s, y :: p, h, k, a, b, ha, hb => by
    unfold formL at h
    rw [Bool.and_eq_true] at h
    cases k with
    | zero =>
      simp at ha hb
      subst ha hb
      have := h.1
      simp at this
      rcases this with ⟨⟨h1, h2⟩, h3⟩ | ⟨h1, h2⟩
      · exact .inl ⟨h1, h2, h3⟩
      · exact .inr ⟨h1, h2⟩
    | succ k => exact form_at s p h.2 k a b (by simpa using ha) (by simpa using hb)
theorem form_of {s p : ByteArray} (h : formL s.data.toList p.data.toList = true) : FormB s p := by
  refine ⟨form_len _ _ h, fun k hs hp => ?_⟩
  exact form_at _ _ h k s[k] p[k] (by rw [List.getElem?_eq_getElem (show k < s.data.toList.length from hs)]; rfl) (by rw [List.getElem?_eq_getElem (show k < p.data.toList.length from hp)]; rfl)
theorem split_ex (w : World) : Calls Tryd.prog 22 #[.string ⟨#[50, 48, 50, 52, 45, 48, 50, 45, 50, 57, 32, 49, 48, 58, 51, 48, 58, 48, 48, 46, 53, 48, 48, 43, 48, 50, 58, 48, 48]⟩] w fun e w' => e = .returned (.tuple #[.agg #[.int .i64 4, .int .i64 2024, .int .i64 2, .int .i64 29, .int .i64 10, .int .i64 30, .int .i64 0, .int .i64 500000000, .bool true, .int .i64 2, .int .i64 0], .bool true]) ∧ Below w.heap.size w w' :=
  split_lit ⟨#[50, 48, 50, 52, 45, 48, 50, 45, 50, 57, 32, 49, 48, 58, 51, 48, 58, 48, 48, 46, 53, 48, 48, 43, 48, 50, 58, 48, 48]⟩ ⟨#[50, 48, 50, 52, 45, 48, 50, 45, 50, 57]⟩ ⟨#[50, 48, 50, 52]⟩ ⟨#[48, 50]⟩ ⟨#[50, 57]⟩ ⟨#[49, 48, 58, 51, 48, 58, 48, 48, 46, 53, 48, 48, 43, 48, 50, 58, 48, 48]⟩ ⟨#[43, 48, 50, 58, 48, 48]⟩ 2024 2 29 10 30 0 500000000 2 0 w
    (by kernel_rfl) (by kernel_rfl) (form_of (by kernel_rfl)) (by kernel_rfl) (by kernel_rfl) (by kernel_rfl) (by kernel_rfl) (by kernel_rfl) (by kernel_rfl) (by kernel_rfl) (by kernel_rfl) (by kernel_rfl)
    (fun _ => by kernel_rfl) (by kernel_rfl) (by kernel_rfl) (by kernel_rfl)
    (fun A W k y mo d zh zm hF => fclock_lit A ⟨#[49, 48, 58, 51, 48, 58, 48, 48, 46, 53, 48, 48, 43, 48, 50, 58, 48, 48]⟩ ⟨#[49, 48, 58, 51, 48, 58, 48, 48]⟩ ⟨#[49, 48]⟩ ⟨#[51, 48]⟩ ⟨#[48, 48]⟩ ⟨#[46, 53, 48, 48, 43, 48, 50, 58, 48, 48]⟩ ⟨#[53, 48, 48, 43, 48, 50, 58, 48, 48]⟩ ⟨#[43, 48, 50, 58, 48, 48]⟩ ⟨#[53, 48, 48]⟩ ⟨#[43, 48, 50, 58, 48, 48]⟩ ⟨#[48, 48, 58, 48, 48, 58, 48, 48]⟩ 10 30 0 500000000 W k y mo d zh zm hF
      (by kernel_rfl) (by kernel_rfl) (form_of (by kernel_rfl)) rfl (by kernel_rfl) (by kernel_rfl) (by kernel_rfl) (by kernel_rfl) (by kernel_rfl) (by kernel_rfl) (by kernel_rfl) (by kernel_rfl) (by kernel_rfl)
      (by kernel_rfl) (by kernel_rfl) (by kernel_rfl) (by kernel_rfl) (by kernel_rfl) (by kernel_rfl) (by kernel_rfl) (by kernel_rfl) (by kernel_rfl) (by kernel_rfl) (by kernel_rfl))
    (fun A W k y mo d h mi se na zh0 zm0 hF => fzone_lit A ⟨#[43, 48, 50, 58, 48, 48]⟩ ⟨#[48, 50]⟩ ⟨#[48, 48]⟩ 2 0 W k y mo d h mi se na zh0 zm0 hF (by kernel_rfl) (form_of (by kernel_rfl)) (by kernel_rfl) (by kernel_rfl) (by kernel_rfl) (by kernel_rfl) (by kernel_rfl) (by kernel_rfl))
theorem FC.newv (w : World) : FC (w.alloc (.cells #[.int .i64 4, .int .i64 2024, .int .i64 2, .int .i64 29, .int .i64 10, .int .i64 30, .int .i64 0, .int .i64 500000000, .bool true, .int .i64 2, .int .i64 0] 44)) w.heap.size 4 2024 2 29 10 30 0 500000000 true 2 0 :=
  World.rowIs_alloc w _ 44 (ff 4 2024 2 29 10 30 0 500000000 true 2 0) (fun i hi => by
    have hi' : i < 11 := hi
    rcases (show i = 0 ∨ i = 1 ∨ i = 2 ∨ i = 3 ∨ i = 4 ∨ i = 5 ∨ i = 6 ∨ i = 7 ∨ i = 8 ∨ i = 9 ∨ i = 10 by omega) with rfl | rfl | rfl | rfl | rfl | rfl | rfl | rfl | rfl | rfl | rfl <;> rfl)
theorem parse_mem {w w1 w2 : World} (h1 : Below (w.alloc (.cells #[.int .i64 0, .int .i64 0, .int .i64 0, .int .i64 0] 23)).heap.size (w.alloc (.cells #[.int .i64 0, .int .i64 0, .int .i64 0, .int .i64 0] 23)) w1) (h2 : Below ((w1.alloc (.cells #[.int .i64 4, .int .i64 2024, .int .i64 2, .int .i64 29, .int .i64 10, .int .i64 30, .int .i64 0, .int .i64 500000000, .bool true, .int .i64 2, .int .i64 0] 44)).alloc (.cells #[.int .i64 4, .int .i64 0, .int .i64 0, .int .i64 0] 23)).heap.size ((w1.alloc (.cells #[.int .i64 4, .int .i64 2024, .int .i64 2, .int .i64 29, .int .i64 10, .int .i64 30, .int .i64 0, .int .i64 500000000, .bool true, .int .i64 2, .int .i64 0] 44)).alloc (.cells #[.int .i64 4, .int .i64 0, .int .i64 0, .int .i64 0] 23)) w2) : w.heap.size < w1.heap.size ∧ FC w2 w1.heap.size 4 2024 2 29 10 30 0 500000000 true 2 0 ∧ TB w2 (w1.heap.size + 1) 4 0 0 0 ∧ TB w2 w.heap.size 0 0 0 0 ∧ Below w.heap.size w w2 := by
  have z1 := h1.size
  rw [World.size_alloc] at z1
  have r1 := (TB.new w 0 0 0 0).below h1 (by simp)
  have a1 := (FC.newv w1).alloc (.cells #[.int .i64 4, .int .i64 0, .int .i64 0, .int .i64 0] 23)
  have a2 := TB.new (w1.alloc (.cells #[.int .i64 4, .int .i64 2024, .int .i64 2, .int .i64 29, .int .i64 10, .int .i64 30, .int .i64 0, .int .i64 500000000, .bool true, .int .i64 2, .int .i64 0] 44)) 4 0 0 0
  rw [World.size_alloc] at a2
  have b1 : Below w.heap.size w ((w1.alloc (.cells #[.int .i64 4, .int .i64 2024, .int .i64 2, .int .i64 29, .int .i64 10, .int .i64 30, .int .i64 0, .int .i64 500000000, .bool true, .int .i64 2, .int .i64 0] 44)).alloc (.cells #[.int .i64 4, .int .i64 0, .int .i64 0, .int .i64 0] 23)) := ((((Below.refl _ _).alloc (Nat.le_refl _) _).trans (h1.mono (by simp))).alloc (by omega) _).alloc (by simp; omega) _
  refine ⟨by omega, a1.below h2 (by simp; omega), a2.below h2 (by simp), ((r1.alloc _).alloc _).below h2 (by simp; omega), b1.trans (h2.mono (by simp; omega))⟩
set_option maxRecDepth 100000 in
set_option maxHeartbeats 8000000 in
theorem parse_ex (w : World) : Calls Tryd.prog 12 #[.string ⟨#[50, 48, 50, 52, 45, 48, 50, 45, 50, 57, 32, 49, 48, 58, 51, 48, 58, 48, 48, 46, 53, 48, 48, 43, 48, 50, 58, 48, 48]⟩] w fun e w' => e = .returned (.tuple #[.agg #[.int .i64 4, .int .i64 738944, .int .i64 37800500000000, .int .i64 120], .int .i64 0]) ∧ Below w.heap.size w w' := by
  have HS := Lib.hid split_ex
  have HD : Hid (∀ w, Calls Tryd.prog 23 #[.int .i64 2024, .int .i64 2, .int .i64 29] w fun e w' => e = .returned (.tuple #[.int .i64 738944, .int .i64 0]) ∧ Below w.heap.size w w') := Lib.hid (fun w => by
    have := day_any 2024 2 29 w
    rwa [show dayN 2024 2 29 = 738944 by decide, show dayE 2024 2 29 = 0 by decide] at this)
  obtain ⟨L, hL⟩ : ∃ L : ByteArray, ⟨#[50, 48, 50, 52, 45, 48, 50, 45, 50, 57, 32, 49, 48, 58, 51, 48, 58, 48, 48, 46, 53, 48, 48, 43, 48, 50, 58, 48, 48]⟩ = L := ⟨_, rfl⟩
  rw [hL] at HS ⊢
  clear hL
  go_enter Tryd.func12, Tryd.ntmps12
  go_wp2_with (first | (go_at_call 22; go_loud ((with_reducible refine (HS.out _).mono ?_); rintro e w1 ⟨rfl, hX1⟩; have HX1 := Lib.hid hX1; clear hX1)) | (go_at_call 23; go_loud ((with_reducible refine (HD.out _).mono ?_); rintro e w2 ⟨rfl, hX2⟩; obtain ⟨hw, F, T, R, B⟩ := parse_mem HX1.out hX2; have g0 : w2.cell? ⟨w1.heap.size, 0, none⟩ = some (.int .i64 4) := F.at_ 0 (by omega); have g1 : w2.cell? ⟨w1.heap.size, 1, none⟩ = some (.int .i64 2024) := F.at_ 1 (by omega); have g2 : w2.cell? ⟨w1.heap.size, 2, none⟩ = some (.int .i64 2) := F.at_ 2 (by omega); have g3 : w2.cell? ⟨w1.heap.size, 3, none⟩ = some (.int .i64 29) := F.at_ 3 (by omega); have g4 : w2.cell? ⟨w1.heap.size, 4, none⟩ = some (.int .i64 10) := F.at_ 4 (by omega); have g5 : w2.cell? ⟨w1.heap.size, 5, none⟩ = some (.int .i64 30) := F.at_ 5 (by omega); have g6 : w2.cell? ⟨w1.heap.size, 6, none⟩ = some (.int .i64 0) := F.at_ 6 (by omega); have g7 : w2.cell? ⟨w1.heap.size, 7, none⟩ = some (.int .i64 500000000) := F.at_ 7 (by omega); have g8 : w2.cell? ⟨w1.heap.size, 8, none⟩ = some (.bool true) := F.at_ 8 (by omega); have g9 : w2.cell? ⟨w1.heap.size, 9, none⟩ = some (.int .i64 2) := F.at_ 9 (by omega); have g10 : w2.cell? ⟨w1.heap.size, 10, none⟩ = some (.int .i64 0) := F.at_ 10 (by omega); obtain ⟨a0, a1, a2, a3⟩ := T.cells; have u1 := T.fz 1; have u2 := T.fz 2; have u3 := T.fz 3; obtain ⟨c0, c1, c2, c3⟩ := R.cells; have y0 := R.fz 0; have y1 := R.fz 1; have y2 := R.fz 2; have y3 := R.fz 3; clear hX2)))
  exact bodyPost_ret (v := .tuple #[.agg #[.int .i64 4, .int .i64 738944, .int .i64 37800500000000, .int .i64 120], .int .i64 0]) (by simp [results, Tryd.results12, go_sem, c0, c1, c2, c3]) rfl ⟨rfl, (((((((B.setCell (by simp; try omega) _).setCell (by simp; try omega) _).setCell (by simp; try omega) _).setCell (by simp; try omega) _).setCell (by simp; try omega) _).setCell (by simp; try omega) _).setCell (by simp; try omega) _)⟩
end Go.Proofs.YtkbddelacjjapaaDoor.Mom
