/-
  Package path: the closure that moves on behind a step.
-/
import Derived.Test.YtfdfncffogjbdaaDoorPsF
namespace Go.Proofs.YtfdfncffogjbdaaDoor.Ps
open Go.RowKit
set_option linter.unusedVariables false
set_option linter.unusedSimpArgs false
open RO

/-- A variable of type string in a block of its own. -/
def RC (w : World) (A : Nat) (s : ByteArray) : Prop := w.rowIs A 9 1 (fun _ => .string s)
section
variable {w w' : World} {A : Nat} {s : ByteArray}
theorem RC.cell (h : RC w A s) : w.cell? ⟨A, 0, none⟩ = some (.string s) := World.rowIs.cell h (by decide)
theorem RC.fz (h : RC w A s) : w.frozen? ⟨A, 0, none⟩ = false := World.rowIs.frozen h 0
theorem RC.lt (h : RC w A s) : A < w.heap.size := World.rowIs.lt h
theorem RC.below {n : Nat} (h : RC w A s) (hb : Below n w w') (hn : A < n) : RC w' A s := World.rowIs.of_block h (hb.block A hn)
theorem RC.new (w : World) (s : ByteArray) : RC (w.alloc (.cells #[.string s] 9)) w.heap.size s :=
  World.rowIs_alloc w _ 9 (fun _ => .string s) (fun i hi => by
    have hi' : i < 1 := hi
    obtain rfl : i = 0 := by omega
    rfl)
theorem RC.alloc (h : RC w A s) (o : Obj) : RC (w.alloc o) A s := World.rowIs.alloc h o
theorem RC.set (h : RC w A s) (t : ByteArray) : RC (w.setCell ⟨A, 0, none⟩ (.string t)) A t := (World.rowIs.set h 0 _).congr fun i hi => by
  obtain rfl : i = 0 := by omega
  rfl
end
set_option maxRecDepth 100000 in
set_option maxHeartbeats 8000000 in
theorem next_any (A : Nat) (s k r : ByteArray) (b ok : Bool) (x : Int) (n : Nat) (w : World) (hA : RC w A s) (hs : s.size ≤ 1000) (hn : n ≤ s.size) (hr : s.extract n s.size = r) (HS : ∀ w, Calls Tryd.prog 40 #[.string s] w fun e w' => e = .returned (.tuple #[.agg #[.bool b, .string k, .int .i64 x], .int .i64 n, .bool ok]) ∧ Below w.heap.size w w') : Calls Tryd.prog 39 #[.pointer (some ⟨A, 0, none⟩)] w fun e w' => e = .returned (.tuple #[.agg #[.bool b, .string k, .int .i64 x], .bool ok]) ∧ RC w' A r ∧ w.grownBy w' (some A) := by
  have HS := Lib.hid HS
  have hlt := hA.lt
  have X := SC.new w false ⟨#[]⟩ 0
  have HR := Lib.hid (hA.alloc (.cells #[.bool false, .string ⟨#[]⟩, .int .i64 0] 26))
  have bl : Below w.heap.size w (w.alloc (.cells #[.bool false, .string ⟨#[]⟩, .int .i64 0] 26)) := (Below.refl _ _).alloc (Nat.le_refl _) _
  have a0 := HR.out.cell
  have hne : A ≠ w.heap.size := by omega
  have hne' : w.heap.size ≠ A := by omega
  clear hA
  go_enter Tryd.func39, Tryd.ntmps39
  go_wp2_with (go_at_call 40; go_loud ((with_reducible refine (HS.out _).mono ?_); rintro e w1 ⟨rfl, hX⟩; have Xb := X.below hX X.lt; have Rb := HR.out.below hX HR.out.lt; have b0 := bl.trans (hX.mono bl.size); have hsz2 : w.heap.size + 1 ≤ w1.heap.size := (Nat.le_trans (Nat.le_of_eq (by simp)) hX.size); have hsz1 : A < w1.heap.size := (by omega); clear hX; have r0 := (Rb.alloc (.cells #[.bool b, .string k, .int .i64 x] 26)).cell; have rf := (Rb.alloc (.cells #[.bool b, .string k, .int .i64 x] 26)).fz; have X2 : SC _ _ _ _ _ := SC.alloc (World.rowIs.setOther (a := ⟨A, 0, none⟩) Xb hne' (.string r)) (.cells #[.bool b, .string k, .int .i64 x] 26); obtain ⟨x0, x1, x2⟩ := X2.cells; have y0 := X2.fz 0; have y1 := X2.fz 1; have y2 := X2.fz 2; have D2 := SC.new (w1.setCell ⟨A, 0, none⟩ (.string r)) b k x; rw [show (w1.setCell ⟨A, 0, none⟩ (.string r)).heap.size = w1.heap.size from (by simp)] at D2; obtain ⟨d0, d1, d2⟩ := D2.cells; have hn1 : A ≠ w1.heap.size := (by omega); have hn2 : w1.heap.size ≠ w.heap.size := (by omega)))
  have X3 : SC _ _ _ _ _ := X2.put b k x
  obtain ⟨f0, f1, f2⟩ := X3.cells
  have RR : RC _ _ _ := (World.rowIs.setOther (World.rowIs.setOther (World.rowIs.setOther ((Rb.set r).alloc (.cells #[.bool b, .string k, .int .i64 x] 26)) (a := ⟨w.heap.size, 0, none⟩) hne (.bool b)) (a := ⟨w.heap.size, 1, none⟩) hne (.string k)) (a := ⟨w.heap.size, 2, none⟩) hne (.int .i64 x))
  have c0 : Below 0 w1 (w1.setCell ⟨A, 0, none⟩ (.string r)) := (Below.refl 0 w1).setCell (Nat.zero_le _) _
  have c1 := ((((Below.refl w.heap.size (w1.setCell ⟨A, 0, none⟩ (.string r))).alloc (by simp; omega) (.cells #[.bool b, .string k, .int .i64 x] 26)).setCell (p := ⟨w.heap.size, 0, none⟩) (by simp) (.bool b)).setCell (p := ⟨w.heap.size, 1, none⟩) (by simp) (.string k)).setCell (p := ⟨w.heap.size, 2, none⟩) (by simp) (.int .i64 x)
  exact bodyPost_ret (v := .tuple #[.agg #[.bool b, .string k, .int .i64 x], .bool ok]) (by simp [results, Tryd.results39, go_sem, f0, f1, f2]) rfl ⟨rfl, RR, ⟨c1.os.trans (c0.os.trans b0.os), c1.tape.trans (c0.tape.trans b0.tape), c1.output.trans (c0.output.trans b0.output), Nat.le_trans b0.size (Nat.le_trans c0.size c1.size), fun j hj hne2 => (c1.block j hj).trans ((Below.heap_setCell _ _ _ _ (fun h => hne2 (by rw [h]))).trans (b0.block j hj))⟩⟩
end Go.Proofs.YtfdfncffogjbdaaDoor.Ps
