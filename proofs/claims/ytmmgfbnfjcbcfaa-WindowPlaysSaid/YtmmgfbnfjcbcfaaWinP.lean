/-
  Contracts of the reference of window.
-/
import Derived.Test.YtmmgfbnfjcbcfaaWinH
namespace Go.Proofs.Ytmmgfbnfjcbcfaa.Win
open Go.RowKit
set_option linter.unusedVariables false
set_option linter.unusedSimpArgs false

/-- A state, as a value. -/
def stv (sz off : Nat) (t : ByteArray) (cl : Bool) : Value := .agg #[.int .i64 sz, .int .i64 off, .string t, .bool cl]
theorem rfree_any (sz off : Nat) (t : ByteArray) (cl : Bool) (w : World) (h : t.size ≤ sz) (hs : sz ≤ 65536) : Calls Try.prog 26 #[.agg #[.int .i64 sz, .int .i64 off, .string t, .bool cl]] w fun e w' => e = .returned (.int .i64 (sz - t.size : Nat)) ∧ Below w.heap.size w w' := by
  go_enter Try.func26, Try.ntmps26
  go_wp2
  go_ret
  exact ⟨ret_int (by omega), (Below.refl _ _).alloc (Nat.le_refl _) _⟩
set_option maxHeartbeats 1000000 in
theorem rnew_any (sz : Nat) (w : World) (h : 1 ≤ sz) (hs : sz ≤ 65536) : Calls Try.prog 9 #[.int .i64 sz] w fun e w' => e = .returned (.tuple #[.agg #[.int .i64 sz, .int .i64 0, .string ⟨#[]⟩, .bool false], .int .i64 0]) ∧ Below w.heap.size w w' := by
  go_enter Try.func9, Try.ntmps9
  go_wp2
  exact bodyPost_ret (v := .tuple #[.agg #[.int .i64 sz, .int .i64 0, .string ⟨#[]⟩, .bool false], .int .i64 0]) (by simp [results, Try.results9, go_sem]) rfl ⟨rfl, (by first | exact (Below.refl _ _).alloc (Nat.le_refl _) _ | exact ((Below.refl _ _).alloc (Nat.le_refl _) _).alloc (by simp) _ | exact (((Below.refl _ _).alloc (Nat.le_refl _) _).alloc (by simp) _).alloc (by simp) _)⟩
set_option maxHeartbeats 1000000 in
theorem rfeed_shut (sz off : Nat) (t s : ByteArray) (w : World) : Calls Try.prog 11 #[.agg #[.int .i64 sz, .int .i64 off, .string t, .bool true], .string s] w fun e w' => e = .returned (.tuple #[.agg #[.int .i64 sz, .int .i64 off, .string t, .bool true], .int .i64 29]) ∧ Below w.heap.size w w' := by
  go_enter Try.func11, Try.ntmps11
  go_wp2
  exact bodyPost_ret (v := .tuple #[.agg #[.int .i64 sz, .int .i64 off, .string t, .bool true], .int .i64 29]) (by simp [results, Try.results11, go_sem]) rfl ⟨rfl, (by first | exact (Below.refl _ _).alloc (Nat.le_refl _) _ | exact ((Below.refl _ _).alloc (Nat.le_refl _) _).alloc (by simp) _ | exact (((Below.refl _ _).alloc (Nat.le_refl _) _).alloc (by simp) _).alloc (by simp) _)⟩
theorem cell_keep {w w1 : World} (hb : Below w.heap.size w w1) : ∀ o : Addr, o.block < w.heap.size → w1.cell? o = w.cell? o ∧ w1.frozen? o = w.frozen? o := fun o ho => ⟨hb.cell ho, hb.frozen ho⟩
set_option maxHeartbeats 1000000 in
theorem rclose_ok (sz off : Nat) (t : ByteArray) (w : World) : Calls Try.prog 15 #[.agg #[.int .i64 sz, .int .i64 off, .string t, .bool false]] w fun e w' => e = .returned (.tuple #[.agg #[.int .i64 sz, .int .i64 off, .string t, .bool true], .int .i64 0]) ∧ Below w.heap.size w w' := by
  go_enter Try.func15, Try.ntmps15
  go_wp2
  exact bodyPost_ret (v := .tuple #[.agg #[.int .i64 sz, .int .i64 off, .string t, .bool true], .int .i64 0]) (by simp [results, Try.results15, go_sem]) rfl ⟨rfl, (by first | exact (Below.refl _ _).alloc (Nat.le_refl _) _ | exact ((Below.refl _ _).alloc (Nat.le_refl _) _).alloc (by simp) _ | exact (((Below.refl _ _).alloc (Nat.le_refl _) _).alloc (by simp) _).alloc (by simp) _)⟩
set_option maxHeartbeats 1000000 in
theorem rclose_shut (sz off : Nat) (t : ByteArray) (w : World) : Calls Try.prog 15 #[.agg #[.int .i64 sz, .int .i64 off, .string t, .bool true]] w fun e w' => e = .returned (.tuple #[.agg #[.int .i64 sz, .int .i64 off, .string t, .bool true], .int .i64 29]) ∧ Below w.heap.size w w' := by
  go_enter Try.func15, Try.ntmps15
  go_wp2
  exact bodyPost_ret (v := .tuple #[.agg #[.int .i64 sz, .int .i64 off, .string t, .bool true], .int .i64 29]) (by simp [results, Try.results15, go_sem]) rfl ⟨rfl, (by first | exact (Below.refl _ _).alloc (Nat.le_refl _) _ | exact ((Below.refl _ _).alloc (Nat.le_refl _) _).alloc (by simp) _ | exact (((Below.refl _ _).alloc (Nat.le_refl _) _).alloc (by simp) _).alloc (by simp) _)⟩
set_option maxHeartbeats 1000000 in
theorem rtake_ok_true (sz off k : Nat) (t : ByteArray) (w : World) (h : k ≤ t.size) (hs : t.size ≤ 65536) (ho : off ≤ 4611686018427387904) : Calls Try.prog 13 #[.agg #[.int .i64 sz, .int .i64 off, .string t, .bool true], .int .i64 k] w fun e w' => e = .returned (.tuple #[.agg #[.int .i64 sz, .int .i64 ((off : Int) + (k : Int)), .string (t.extract k t.size), .bool true], .string (t.extract 0 k), .int .i64 0]) ∧ Below w.heap.size w w' := by
  go_enter Try.func13, Try.ntmps13
  go_wp2
  exact bodyPost_ret (v := .tuple #[.agg #[.int .i64 sz, .int .i64 ((off : Int) + (k : Int)), .string (t.extract k t.size), .bool true], .string (t.extract 0 k), .int .i64 0]) (by simp [results, Try.results13, go_sem]) rfl ⟨rfl, (by first | exact (Below.refl _ _).alloc (Nat.le_refl _) _ | exact ((Below.refl _ _).alloc (Nat.le_refl _) _).alloc (by simp) _ | exact (((Below.refl _ _).alloc (Nat.le_refl _) _).alloc (by simp) _).alloc (by simp) _)⟩
set_option maxHeartbeats 1000000 in
theorem rtake_bad_true (sz off : Nat) (n : Int) (t : ByteArray) (w : World) (h : n < 0 ∨ (t.size : Int) < n) (hs : t.size ≤ 65536) : Calls Try.prog 13 #[.agg #[.int .i64 sz, .int .i64 off, .string t, .bool true], .int .i64 n] w fun e w' => e = .returned (.tuple #[.agg #[.int .i64 sz, .int .i64 off, .string t, .bool true], .string ⟨#[]⟩, .int .i64 2]) ∧ Below w.heap.size w w' := by
  rcases h with h | h
  all_goals
   try have h0 : ¬ n < 0 := by omega
   go_enter Try.func13, Try.ntmps13
   go_wp2
   exact bodyPost_ret (v := .tuple #[.agg #[.int .i64 sz, .int .i64 off, .string t, .bool true], .string ⟨#[]⟩, .int .i64 2]) (by simp [results, Try.results13, go_sem]) rfl ⟨rfl, (by first | exact (Below.refl _ _).alloc (Nat.le_refl _) _ | exact ((Below.refl _ _).alloc (Nat.le_refl _) _).alloc (by simp) _ | exact (((Below.refl _ _).alloc (Nat.le_refl _) _).alloc (by simp) _).alloc (by simp) _)⟩
set_option maxHeartbeats 1000000 in
theorem rtake_ok_false (sz off k : Nat) (t : ByteArray) (w : World) (h : k ≤ t.size) (hs : t.size ≤ 65536) (ho : off ≤ 4611686018427387904) : Calls Try.prog 13 #[.agg #[.int .i64 sz, .int .i64 off, .string t, .bool false], .int .i64 k] w fun e w' => e = .returned (.tuple #[.agg #[.int .i64 sz, .int .i64 ((off : Int) + (k : Int)), .string (t.extract k t.size), .bool false], .string (t.extract 0 k), .int .i64 0]) ∧ Below w.heap.size w w' := by
  go_enter Try.func13, Try.ntmps13
  go_wp2
  exact bodyPost_ret (v := .tuple #[.agg #[.int .i64 sz, .int .i64 ((off : Int) + (k : Int)), .string (t.extract k t.size), .bool false], .string (t.extract 0 k), .int .i64 0]) (by simp [results, Try.results13, go_sem]) rfl ⟨rfl, (by first | exact (Below.refl _ _).alloc (Nat.le_refl _) _ | exact ((Below.refl _ _).alloc (Nat.le_refl _) _).alloc (by simp) _ | exact (((Below.refl _ _).alloc (Nat.le_refl _) _).alloc (by simp) _).alloc (by simp) _)⟩
set_option maxHeartbeats 1000000 in
theorem rtake_bad_false (sz off : Nat) (n : Int) (t : ByteArray) (w : World) (h : n < 0 ∨ (t.size : Int) < n) (hs : t.size ≤ 65536) : Calls Try.prog 13 #[.agg #[.int .i64 sz, .int .i64 off, .string t, .bool false], .int .i64 n] w fun e w' => e = .returned (.tuple #[.agg #[.int .i64 sz, .int .i64 off, .string t, .bool false], .string ⟨#[]⟩, .int .i64 2]) ∧ Below w.heap.size w w' := by
  rcases h with h | h
  all_goals
   try have h0 : ¬ n < 0 := by omega
   go_enter Try.func13, Try.ntmps13
   go_wp2
   exact bodyPost_ret (v := .tuple #[.agg #[.int .i64 sz, .int .i64 off, .string t, .bool false], .string ⟨#[]⟩, .int .i64 2]) (by simp [results, Try.results13, go_sem]) rfl ⟨rfl, (by first | exact (Below.refl _ _).alloc (Nat.le_refl _) _ | exact ((Below.refl _ _).alloc (Nat.le_refl _) _).alloc (by simp) _ | exact (((Below.refl _ _).alloc (Nat.le_refl _) _).alloc (by simp) _).alloc (by simp) _)⟩
end Go.Proofs.Ytmmgfbnfjcbcfaa.Win
