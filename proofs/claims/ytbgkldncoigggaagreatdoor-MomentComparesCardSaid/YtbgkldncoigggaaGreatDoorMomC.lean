/-
  Package moment and its reference: orders, zones.
-/
import Derived.Test.YtbgkldncoigggaaGreatDoorMomB
import Derived.Deep.OwnRows
namespace Go.Proofs.YtbgkldncoigggaaGreatDoor.Mom
open Go.RowKit
set_option linter.unusedVariables false
set_option linter.unusedSimpArgs false

def tf (k d n o : Int) : Nat → Value
  | 0 => .int .i64 k
  | 1 => .int .i64 d
  | 2 => .int .i64 n
  | _ => .int .i64 o
def TB (w : World) (A : Nat) (k d n o : Int) : Prop := w.rowIs A 23 4 (tf k d n o)
section
variable {w w' : World} {A : Nat} {k d n o : Int}
theorem TB.cells (h : TB w A k d n o) : w.cell? ⟨A, 0, none⟩ = some (.int .i64 k) ∧ w.cell? ⟨A, 1, none⟩ = some (.int .i64 d) ∧ w.cell? ⟨A, 2, none⟩ = some (.int .i64 n) ∧ w.cell? ⟨A, 3, none⟩ = some (.int .i64 o) :=
  ⟨World.rowIs.cell h (by decide), World.rowIs.cell h (by decide), World.rowIs.cell h (by decide), World.rowIs.cell h (by decide)⟩
theorem TB.fz (h : TB w A k d n o) (i : Nat) : w.frozen? ⟨A, i, none⟩ = false := World.rowIs.frozen h i
theorem TB.lt (h : TB w A k d n o) : A < w.heap.size := World.rowIs.lt h
theorem TB.below {B : Nat} (h : TB w A k d n o) (hb : Below B w w') (hn : A < B) : TB w' A k d n o := World.rowIs.of_block h (hb.block A hn)
theorem TB.new (w : World) (k d n o : Int) : TB (w.alloc (.cells #[.int .i64 k, .int .i64 d, .int .i64 n, .int .i64 o] 23)) w.heap.size k d n o :=
  World.rowIs_alloc w _ 23 (tf k d n o) (fun i hi => by
    have hi' : i < 4 := hi
    rcases (show i = 0 ∨ i = 1 ∨ i = 2 ∨ i = 3 by omega) with rfl | rfl | rfl | rfl <;> rfl)
theorem TB.alloc (h : TB w A k d n o) (x : Obj) : TB (w.alloc x) A k d n o := World.rowIs.alloc h x
end
/-- A time and a result in blocks of their own. -/
structure T2 (w W : World) (k d n o : Int) : Prop where
  a : TB W w.heap.size k d n o
  c : TB W (w.heap.size + 1) 0 0 0 0
  bel : Below w.heap.size w W
theorem T2.new (w : World) (k d n o : Int) : T2 w ((w.alloc (.cells #[.int .i64 k, .int .i64 d, .int .i64 n, .int .i64 o] 23)).alloc (.cells #[.int .i64 0, .int .i64 0, .int .i64 0, .int .i64 0] 23)) k d n o := by
  refine ⟨(TB.new w k d n o).alloc _, ?_, ((Below.refl _ _).alloc (Nat.le_refl _) _).alloc (by simp) _⟩
  have := TB.new (w.alloc (.cells #[.int .i64 k, .int .i64 d, .int .i64 n, .int .i64 o] 23)) 0 0 0 0
  simpa using this
theorem T2.step {w W W' : World} {k d n o : Int} (h : T2 w W k d n o) (hb : Below W.heap.size W W') : T2 w W' k d n o :=
  ⟨h.a.below hb h.a.lt, h.c.below hb h.c.lt, h.bel.trans (hb.mono h.bel.size)⟩
def tR (x : Int × Int × Int × Int × Int) : Ending := .returned (.tuple #[.agg #[.int .i64 x.1, .int .i64 x.2.1, .int .i64 x.2.2.1, .int .i64 x.2.2.2.1], .int .i64 x.2.2.2.2])
def icmp (a b : Int) : Int := if a < b then -1 else if b < a then 1 else 0
theorem compare_any (a b : Int) (w : World) : Calls Tryz.prog 15 #[.int .i64 a, .int .i64 b] w fun e w' => e = .returned (.int .i64 (icmp a b)) ∧ w = w' := by
  rcases (show a < b ∨ b < a ∨ a = b by omega) with h | h | h
  · have HR : Hid (icmp a b = -1) := Lib.hid (if_pos h)
    go_enter Tryz.func15, Tryz.ntmps15
    go_wp2
    go_ret
    exact ⟨ret_int HR.out.symm, rfl⟩
  · have HR : Hid (icmp a b = 1) := Lib.hid (by unfold icmp; rw [if_neg (by omega), if_pos h])
    have h2 : ¬ a < b := by omega
    go_enter Tryz.func15, Tryz.ntmps15
    go_wp2
    go_ret
    exact ⟨ret_int HR.out.symm, rfl⟩
  · subst h
    have HR : Hid (icmp a a = 0) := Lib.hid (by unfold icmp; rw [if_neg (by omega), if_neg (by omega)])
    go_enter Tryz.func15, Tryz.ntmps15
    go_wp2
    go_ret
    exact ⟨ret_int HR.out.symm, rfl⟩
/-- The moment of a time: days and nanoseconds. -/
def uD (d n o : Int) : Int := d + (n - o * 60000000000) / 86400000000000
def uN (n o : Int) : Int := (n - o * 60000000000) % 86400000000000
/-- Parts that lie near those of a valid time. -/
def nP (d n o : Int) : Prop := -10000000 ≤ d ∧ d ≤ 10000000 ∧ 0 ≤ n ∧ n ≤ 86399999999999 ∧ -1439 ≤ o ∧ o ≤ 1439
theorem nP_of {k d n o : Int} (h : vP k d n o) : nP d n o := by unfold vP at h; unfold nP; omega
set_option maxRecDepth 100000 in
set_option maxHeartbeats 4000000 in
theorem utc_any (k d n o : Int) (w : World) (h : nP d n o) : Calls Tryz.prog 25 #[.agg #[.int .i64 k, .int .i64 d, .int .i64 n, .int .i64 o]] w fun e w' => e = .returned (.tuple #[.int .i64 (uD d n o), .int .i64 (uN n o)]) ∧ Below w.heap.size w w' := by
  obtain ⟨d1, d2, n1, n2, o1, o2⟩ := h
  have HC := Lib.hid (fun w => carry_any d (n - o * 60000000000) w (by omega) (by omega))
  go_enter Tryz.func25, Tryz.ntmps25
  go_wp2_with (go_at_call 36; (with_reducible refine (HC.out _).mono ?_); rintro e w1 ⟨rfl, rfl⟩)
  go_ret2
  exact ⟨rfl, (Below.refl _ _).alloc (Nat.le_refl _) _⟩
set_option maxRecDepth 100000 in
set_option maxHeartbeats 4000000 in
theorem rmoment_any (k d n o : Int) (w : World) (h : nP d n o) : Calls Tryz.prog 17 #[.agg #[.int .i64 k, .int .i64 d, .int .i64 n, .int .i64 o]] w fun e w' => e = .returned (.tuple #[.int .i64 (uD d n o), .int .i64 (uN n o)]) ∧ Below w.heap.size w w' := by
  obtain ⟨d1, d2, n1, n2, o1, o2⟩ := h
  have HC := Lib.hid (fun w => rsplit_any d (n - o * 60000000000) w (by omega) (by omega))
  go_enter Tryz.func17, Tryz.ntmps17
  go_wp2_with (go_at_call 26; (with_reducible refine (HC.out _).mono ?_); rintro e w1 ⟨rfl, rfl⟩)
  go_ret2
  exact ⟨rfl, (Below.refl _ _).alloc (Nat.le_refl _) _⟩
def dR (k d n o : Int) : Int × Int × Int × Int × Int := if d < 0 ∨ 3652058 < d then (0, 0, 0, 0, 2) else (k, d, n, o, 0)
/-- The time with another offset. -/
def zR (k d n o off : Int) : Int × Int × Int × Int × Int := if vP k d n o then (if k = 4 then (if -1439 ≤ off ∧ off ≤ 1439 then dR 4 (d + (n + (off - o) * 60000000000) / 86400000000000) ((n + (off - o) * 60000000000) % 86400000000000) off else (0, 0, 0, 0, 2)) else (0, 0, 0, 0, 6)) else (0, 0, 0, 0, 1)
end Go.Proofs.YtbgkldncoigggaaGreatDoor.Mom
