/-
  Contracts of the reference of window: appending.
-/
import Derived.Test.YtmmgfbnfjcbcfaaWinP
namespace Go.Proofs.Ytmmgfbnfjcbcfaa.Win
open Go.RowKit
set_option linter.unusedVariables false
set_option linter.unusedSimpArgs false

/-- The four cells of a state. -/
def sf (sz off : Nat) (t : ByteArray) (cl : Bool) : Nat → Value
  | 0 => .int .i64 (sz : Nat)
  | 1 => .int .i64 (off : Nat)
  | 2 => .string t
  | _ => .bool cl
def SC (w : World) (B sz off : Nat) (t : ByteArray) (cl : Bool) : Prop := w.rowIs B 30 4 (sf sz off t cl)
section
variable {w w' : World} {B sz off : Nat} {t : ByteArray} {cl : Bool}
theorem SC.cells (h : SC w B sz off t cl) : w.cell? ⟨B, 0, none⟩ = some (.int .i64 (sz : Nat)) ∧ w.cell? ⟨B, 1, none⟩ = some (.int .i64 (off : Nat)) ∧ w.cell? ⟨B, 2, none⟩ = some (.string t) ∧ w.cell? ⟨B, 3, none⟩ = some (.bool cl) :=
  ⟨World.rowIs.cell h (by decide), World.rowIs.cell h (by decide), World.rowIs.cell h (by decide), World.rowIs.cell h (by decide)⟩
theorem SC.fz (h : SC w B sz off t cl) (i : Nat) : w.frozen? ⟨B, i, none⟩ = false := World.rowIs.frozen h i
theorem SC.below {n : Nat} (h : SC w B sz off t cl) (hb : Below n w w') (hn : B < n) : SC w' B sz off t cl := World.rowIs.of_block h (hb.block B hn)
theorem SC.lt (h : SC w B sz off t cl) : B < w.heap.size := World.rowIs.lt h
theorem SC.new (w : World) (sz off : Nat) (t : ByteArray) (cl : Bool) : SC (w.alloc (.cells #[.int .i64 (sz : Nat), .int .i64 (off : Nat), .string t, .bool cl] 30)) w.heap.size sz off t cl :=
  World.rowIs_alloc w _ 30 (sf sz off t cl) (fun i hi => by
    have hi' : i < 4 := hi
    rcases (show i = 0 ∨ i = 1 ∨ i = 2 ∨ i = 3 by omega) with rfl | rfl | rfl | rfl <;> rfl)
end
set_option maxHeartbeats 1000000 in
theorem rfeed_mem (sz off : Nat) (t s : ByteArray) (w : World) (h : t.size ≤ sz) (hs : sz ≤ 65536) (hf : sz - t.size < s.size) : Calls Try.prog 11 #[.agg #[.int .i64 sz, .int .i64 off, .string t, .bool false], .string s] w fun e w' => e = .returned (.tuple #[.agg #[.int .i64 sz, .int .i64 off, .string t, .bool false], .int .i64 28]) ∧ Below w.heap.size w w' := by
  have HS0 := Lib.hid (SC.new w sz off t false)
  have HS1 := Lib.hid (SC.new (w.alloc (.cells #[.int .i64 (sz : Nat), .int .i64 (off : Nat), .string t, .bool false] 30)) 0 0 ⟨#[]⟩ false)
  go_enter Try.func11, Try.ntmps11
  go_wp2_with (go_at_call 26; (with_reducible refine (rfree_any sz off t false _ h hs).mono ?_); rintro e w1 ⟨rfl, hb⟩; have X0 : SC w1 w.heap.size sz off t false := ((World.rowIs.alloc HS0.out _).of_block (hb.block w.heap.size (by simp; omega))); have X1 : SC w1 (w.heap.size + 1) 0 0 ⟨#[]⟩ false := (by have := HS1.out.below hb (by simp); simpa using this); obtain ⟨a0, a1, a2, a3⟩ := X0.cells; obtain ⟨b0, b1, b2, b3⟩ := X1.cells; have y0 := X0.fz 0; have y1 := X0.fz 1; have y2 := X0.fz 2; have y3 := X0.fz 3; have z0 := X1.fz 0; have z1 := X1.fz 1; have z2 := X1.fz 2; have z3 := X1.fz 3; have bl : Below w.heap.size w w1 := (((Below.refl _ _).alloc (Nat.le_refl _) _).alloc (by simp) _).trans (hb.mono (by simp; omega)); clear hb)
  exact bodyPost_ret (v := .tuple #[.agg #[.int .i64 sz, .int .i64 off, .string t, .bool false], .int .i64 28]) (by simp [results, Try.results11, go_sem, a0, a1, a2, a3, b0, b1, b2, b3]) rfl ⟨rfl, ((((bl.setCell (by simp) _).setCell (by simp) _).setCell (by simp) _).setCell (by simp) _)⟩
set_option maxHeartbeats 1000000 in
theorem rfeed_ok (sz off : Nat) (t s : ByteArray) (w : World) (h : t.size ≤ sz) (hs : sz ≤ 65536) (hf : s.size ≤ sz - t.size) : Calls Try.prog 11 #[.agg #[.int .i64 sz, .int .i64 off, .string t, .bool false], .string s] w fun e w' => e = .returned (.tuple #[.agg #[.int .i64 sz, .int .i64 off, .string (t ++ s), .bool false], .int .i64 0]) ∧ Below w.heap.size w w' := by
  have HS0 := Lib.hid (SC.new w sz off t false)
  have HS1 := Lib.hid (SC.new (w.alloc (.cells #[.int .i64 (sz : Nat), .int .i64 (off : Nat), .string t, .bool false] 30)) 0 0 ⟨#[]⟩ false)
  go_enter Try.func11, Try.ntmps11
  go_wp2_with (go_at_call 26; (with_reducible refine (rfree_any sz off t false _ h hs).mono ?_); rintro e w1 ⟨rfl, hb⟩; have X0 : SC w1 w.heap.size sz off t false := ((World.rowIs.alloc HS0.out _).of_block (hb.block w.heap.size (by simp; omega))); have X1 : SC w1 (w.heap.size + 1) 0 0 ⟨#[]⟩ false := (by have := HS1.out.below hb (by simp); simpa using this); obtain ⟨a0, a1, a2, a3⟩ := X0.cells; obtain ⟨b0, b1, b2, b3⟩ := X1.cells; have y0 := X0.fz 0; have y1 := X0.fz 1; have y2 := X0.fz 2; have y3 := X0.fz 3; have z0 := X1.fz 0; have z1 := X1.fz 1; have z2 := X1.fz 2; have z3 := X1.fz 3; have bl : Below w.heap.size w w1 := (((Below.refl _ _).alloc (Nat.le_refl _) _).alloc (by simp) _).trans (hb.mono (by simp; omega)); clear hb)
  exact bodyPost_ret (v := .tuple #[.agg #[.int .i64 sz, .int .i64 off, .string (t ++ s), .bool false], .int .i64 0]) (by simp [results, Try.results11, go_sem, a0, a1, a2, a3, b0, b1, b2, b3]) rfl ⟨rfl, (((((bl.setCell (by simp) _).setCell (by simp) _).setCell (by simp) _).setCell (by simp) _).setCell (by simp) _)⟩
set_option maxHeartbeats 1000000 in
theorem rat_in (sz off i : Nat) (t : ByteArray) (cl : Bool) (w : World) (h : i < t.size) (hs : t.size ≤ 65536) : Calls Try.prog 17 #[.agg #[.int .i64 sz, .int .i64 off, .string t, .bool cl], .int .i64 i] w fun e w' => e = .returned (.tuple #[.int .i64 ((t[i]'h).toNat : Nat), .bool true]) ∧ Below w.heap.size w w' := by
  have hx := UInt8.toNat_lt (t[i]'h)
  go_enter Try.func17, Try.ntmps17
  go_wp2
  go_ret2
  exact ⟨rfl, (Below.refl _ _).alloc (Nat.le_refl _) _⟩
set_option maxHeartbeats 1000000 in
theorem rat_out (sz off : Nat) (n : Int) (t : ByteArray) (cl : Bool) (w : World) (h : n < 0 ∨ (t.size : Int) ≤ n) (hs : t.size ≤ 65536) : Calls Try.prog 17 #[.agg #[.int .i64 sz, .int .i64 off, .string t, .bool cl], .int .i64 n] w fun e w' => e = .returned (.tuple #[.int .i64 0, .bool false]) ∧ Below w.heap.size w w' := by
  rcases h with h | h
  all_goals
    try have h0 : ¬ n < 0 := by omega
    go_enter Try.func17, Try.ntmps17
    go_wp2
    go_ret2
    exact ⟨rfl, (Below.refl _ _).alloc (Nat.le_refl _) _⟩
theorem wn_at_out {w : World} {base B sz : Nat} {tx : List UInt8} {tk : Nat} {cl : Bool} (hw : Wn w base B sz tx tk cl) (n : Int) (hn : n < 0 ∨ (tx.length : Int) ≤ n) (hb : -9223372036854775808 ≤ n ∧ n ≤ 9223372036854775807) : Calls Try.prog 16 #[.pointer (some ⟨B, 0, none⟩), .int .i64 n] w fun e w' => e = .returned (.tuple #[.int .i64 0, .bool false]) ∧ Wn w' base B sz tx tk cl ∧ Below base w w' := by
  have HL := Lib.hid (wn_len hw)
  rcases hn with h | h
  · have b0 := Below.refl base w
    go_enter Try.func16, Try.ntmps16
    go_wp2_with (go_at_call 21; (with_reducible refine HL.out.mono ?_); rintro e w1 ⟨rfl, hw, b0⟩)
    all_goals
      go_ret2
      exact ⟨rfl, hw, b0⟩
  · have h0 : ¬ n < 0 := by omega
    go_enter Try.func16, Try.ntmps16
    go_wp2_with (go_at_call 21; (with_reducible refine HL.out.mono ?_); rintro e w1 ⟨rfl, hw, b0⟩)
    go_ret2
    exact ⟨rfl, hw, b0⟩
end Go.Proofs.Ytmmgfbnfjcbcfaa.Win
