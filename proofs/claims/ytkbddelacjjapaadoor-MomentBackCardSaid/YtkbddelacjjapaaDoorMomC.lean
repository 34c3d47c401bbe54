/-
  Package moment and its reference: orders, zones.
-/
import Derived.Test.YtkbddelacjjapaaDoorMomB
import Derived.Deep.OwnRows
namespace Go.Proofs.YtkbddelacjjapaaDoor.Mom
open Go.RowKit
set_option linter.unusedVariables false
set_option linter.unusedSimpArgs false

def tf (k d n o : Int) : Nat → Value
  | 0 => .int .i64 k
  | 1 => .int .i64 d
  | 2 => .int .i64 n
  | _ => .int .i64 o
def TB (w : World) (A : Nat) (k d n o : Int) : Prop := w.rowIs A 23 4 (tf k d n o)
section
variable {w w' : World} {A : Nat} {k d n o : Int}
theorem TB.cells (h : TB w A k d n o) : w.cell? ⟨A, 0, none⟩ = some (.int .i64 k) ∧ w.cell? ⟨A, 1, none⟩ = some (.int .i64 d) ∧ w.cell? ⟨A, 2, none⟩ = some (.int .i64 n) ∧ w.cell? ⟨A, 3, none⟩ = some (.int .i64 o) :=
  ⟨World.rowIs.cell h (by decide), World.rowIs.cell h (by decide), World.rowIs.cell h (by decide), World.rowIs.cell h (by decide)⟩
theorem TB.fz (h : TB w A k d n o) (i : Nat) : w.frozen? ⟨A, i, none⟩ = false := World.rowIs.frozen h i
theorem TB.lt (h : TB w A k d n o) : A < w.heap.size := World.rowIs.lt h
theorem TB.below {B : Nat} (h : TB w A k d n o) (hb : Below B w w') (hn : A < B) : TB w' A k d n o := World.rowIs.of_block h (hb.block A hn)
theorem TB.new (w : World) (k d n o : Int) : TB (w.alloc (.cells #[.int .i64 k, .int .i64 d, .int .i64 n, .int .i64 o] 23)) w.heap.size k d n o :=
  World.rowIs_alloc w _ 23 (tf k d n o) (fun i hi => by
    have hi' : i < 4 := hi
    rcases (show i = 0 ∨ i = 1 ∨ i = 2 ∨ i = 3 by omega) with rfl | rfl | rfl | rfl <;> rfl)
theorem TB.alloc (h : TB w A k d n o) (x : Obj) : TB (w.alloc x) A k d n o := World.rowIs.alloc h x
end
/-- A time and a result in blocks of their own. -/
structure T2 (w W : World) (k d n o : Int) : Prop where
  a : TB W w.heap.size k d n o
  c : TB W (w.heap.size + 1) 0 0 0 0
  bel : Below w.heap.size w W
theorem T2.new (w : World) (k d n o : Int) : T2 w ((w.alloc (.cells #[.int .i64 k, .int .i64 d, .int .i64 n, .int .i64 o] 23)).alloc (.cells #[.int .i64 0, .int .i64 0, .int .i64 0, .int .i64 0] 23)) k d n o := by
  refine ⟨(TB.new w k d n o).alloc _, ?_, ((Below.refl _ _).alloc (Nat.le_refl _) _).alloc (by simp) _⟩
  have := TB.new (w.alloc (.cells #[.int .i64 k, .int .i64 d, .int .i64 n, .int .i64 o] 23)) 0 0 0 0
  simpa using this
theorem T2.step {w W W' : World} {k d n o : Int} (h : T2 w W k d n o) (hb : Below W.heap.size W W') : T2 w W' k d n o :=
  ⟨h.a.below hb h.a.lt, h.c.below hb h.c.lt, h.bel.trans (hb.mono h.bel.size)⟩
def tR (x : Int × Int × Int × Int × Int) : Ending := .returned (.tuple #[.agg #[.int .i64 x.1, .int .i64 x.2.1, .int .i64 x.2.2.1, .int .i64 x.2.2.2.1], .int .i64 x.2.2.2.2])
def icmp (a b : Int) : Int := if a < b then -1 else if b < a then 1 else 0
theorem compare_any (a b : Int) (w : World) : Calls Tryd.prog 15 #[.int .i64 a, .int .i64 b] w fun e w' => e = .returned (.int .i64 (icmp a b)) ∧ w = w' := by
  rcases (show a < b ∨ b < a ∨ a = b by omega) with h | h | h
  · have HR : Hid (icmp a b = -1) := Lib.hid (if_pos h)
    go_enter Tryd.func15, Tryd.ntmps15
    go_wp2
    go_ret
    exact ⟨ret_int HR.out.symm, rfl⟩
  · have HR : Hid (icmp a b = 1) := Lib.hid (by unfold icmp; rw [if_neg (by omega), if_pos h])
    have h2 : ¬ a < b := by omega
    go_enter Tryd.func15, Tryd.ntmps15
    go_wp2
    go_ret
    exact ⟨ret_int HR.out.symm, rfl⟩
  · subst h
    have HR : Hid (icmp a a = 0) := Lib.hid (by unfold icmp; rw [if_neg (by omega), if_neg (by omega)])
    go_enter Tryd.func15, Tryd.ntmps15
    go_wp2
    go_ret
    exact ⟨ret_int HR.out.symm, rfl⟩
/-- The moment of a time: days and nanoseconds. -/
def uD (d n o : Int) : Int := d + (n - o * 60000000000) / 86400000000000
def uN (n o : Int) : Int := (n - o * 60000000000) % 86400000000000
/-- Parts that lie near those of a valid time. -/
def nP (d n o : Int) : Prop := -10000000 ≤ d ∧ d ≤ 10000000 ∧ 0 ≤ n ∧ n ≤ 86399999999999 ∧ -1439 ≤ o ∧ o ≤ 1439
theorem nP_of {k d n o : Int} (h : vP k d n o) : nP d n o := by unfold vP at h; unfold nP; omega
set_option maxRecDepth 100000 in
set_option maxHeartbeats 4000000 in
theorem utc_any (k d n o : Int) (w : World) (h : nP d n o) : Calls Tryd.prog 29 #[.agg #[.int .i64 k, .int .i64 d, .int .i64 n, .int .i64 o]] w fun e w' => e = .returned (.tuple #[.int .i64 (uD d n o), .int .i64 (uN n o)]) ∧ Below w.heap.size w w' := by
  obtain ⟨d1, d2, n1, n2, o1, o2⟩ := h
  have HC := Lib.hid (fun w => carry_any d (n - o * 60000000000) w (by omega) (by omega))
  go_enter Tryd.func29, Tryd.ntmps29
  go_wp2_with (go_at_call 20; (with_reducible refine (HC.out _).mono ?_); rintro e w1 ⟨rfl, rfl⟩)
  go_ret2
  exact ⟨rfl, (Below.refl _ _).alloc (Nat.le_refl _) _⟩
def dR (k d n o : Int) : Int × Int × Int × Int × Int := if d < 0 ∨ 3652058 < d then (0, 0, 0, 0, 2) else (k, d, n, o, 0)
set_option maxRecDepth 100000 in
set_option maxHeartbeats 4000000 in
theorem dated_any (k d n o : Int) (w : World) : Calls Tryd.prog 21 #[.agg #[.int .i64 k, .int .i64 d, .int .i64 n, .int .i64 o]] w fun e w' => e = tR (dR k d n o) ∧ Below w.heap.size w w' := by
  have B0 : Below w.heap.size w ((w.alloc (.cells #[.int .i64 k, .int .i64 d, .int .i64 n, .int .i64 o] 23)).alloc (.cells #[.int .i64 0, .int .i64 0, .int .i64 0, .int .i64 0] 23)) := ((Below.refl _ _).alloc (Nat.le_refl _) _).alloc (by simp) _
  rcases (show d < 0 ∨ 3652058 < d ∨ (0 ≤ d ∧ d ≤ 3652058) by omega) with h | h | ⟨h, h2⟩
  · have HR : Hid (dR k d n o = (0, 0, 0, 0, 2)) := Lib.hid (if_pos (.inl h))
    rw [HR.out]
    unfold tR
    go_enter Tryd.func21, Tryd.ntmps21
    go_wp2
    exact bodyPost_ret (v := .tuple #[.agg #[.int .i64 0, .int .i64 0, .int .i64 0, .int .i64 0], .int .i64 2]) (by simp [results, Tryd.results21, go_sem]) rfl ⟨rfl, B0⟩
  · have HR : Hid (dR k d n o = (0, 0, 0, 0, 2)) := Lib.hid (if_pos (.inr h))
    have h0 : 0 ≤ d := by omega
    rw [HR.out]
    unfold tR
    go_enter Tryd.func21, Tryd.ntmps21
    go_wp2
    exact bodyPost_ret (v := .tuple #[.agg #[.int .i64 0, .int .i64 0, .int .i64 0, .int .i64 0], .int .i64 2]) (by simp [results, Tryd.results21, go_sem]) rfl ⟨rfl, B0⟩
  · have HR : Hid (dR k d n o = (k, d, n, o, 0)) := Lib.hid (if_neg (by omega))
    rw [HR.out]
    unfold tR
    go_enter Tryd.func21, Tryd.ntmps21
    go_wp2
    exact bodyPost_ret (v := .tuple #[.agg #[.int .i64 k, .int .i64 d, .int .i64 n, .int .i64 o], .int .i64 0]) (by simp [results, Tryd.results21, go_sem]) rfl ⟨rfl, ((Below.refl _ _).alloc (Nat.le_refl _) _).alloc (by simp) _⟩
/-- The time with another offset. -/
def zR (k d n o off : Int) : Int × Int × Int × Int × Int := if vP k d n o then (if k = 4 then (if -1439 ≤ off ∧ off ≤ 1439 then dR 4 (d + (n + (off - o) * 60000000000) / 86400000000000) ((n + (off - o) * 60000000000) % 86400000000000) off else (0, 0, 0, 0, 2)) else (0, 0, 0, 0, 6)) else (0, 0, 0, 0, 1)
set_option maxRecDepth 100000 in
set_option maxHeartbeats 4000000 in
theorem zone_any (k d n o off : Int) (w : World) : Calls Tryd.prog 10 #[.agg #[.int .i64 k, .int .i64 d, .int .i64 n, .int .i64 o], .int .i64 off] w fun e w' => e = tR (zR k d n o off) ∧ Below w.heap.size w w' := by
  have T := T2.new w k d n o
  have HV := Lib.hid (fun w => valid_any k d n o w)
  by_cases hv : vP k d n o
  · rw [← vT_yes hv] at HV
    by_cases hk : k = 4
    · subst hk
      rcases (show off < -1439 ∨ 1439 < off ∨ (-1439 ≤ off ∧ off ≤ 1439) by omega) with h | h | ⟨h1, h2⟩
      · have HR : Hid (zR 4 d n o off = (0, 0, 0, 0, 2)) := Lib.hid (by unfold zR; rw [if_pos hv, if_pos rfl, if_neg (by omega)])
        rw [HR.out]
        unfold tR
        clear hv
        go_enter Tryd.func10, Tryd.ntmps10
        go_wp2_with (go_at_call 6; (with_reducible refine (HV.out _).mono ?_); rintro e w1 ⟨rfl, hX⟩; have T := T.step hX; clear hX; obtain ⟨a0, a1, a2, a3⟩ := T.a.cells; obtain ⟨c0, c1, c2, c3⟩ := T.c.cells; have y0 := T.c.fz 0; have y1 := T.c.fz 1; have y2 := T.c.fz 2; have y3 := T.c.fz 3)
        exact bodyPost_ret (v := .tuple #[.agg #[.int .i64 0, .int .i64 0, .int .i64 0, .int .i64 0], .int .i64 2]) (by simp [results, Tryd.results10, go_sem, c0, c1, c2, c3]) rfl ⟨rfl, (((T.bel.setCell (by simp; try omega) _).setCell (by simp; try omega) _).setCell (by simp; try omega) _).setCell (by simp; try omega) _⟩
      · have HR : Hid (zR 4 d n o off = (0, 0, 0, 0, 2)) := Lib.hid (by unfold zR; rw [if_pos hv, if_pos rfl, if_neg (by omega)])
        rw [HR.out]
        unfold tR
        have h0 : -1439 ≤ off := by omega
        clear hv
        go_enter Tryd.func10, Tryd.ntmps10
        go_wp2_with (go_at_call 6; (with_reducible refine (HV.out _).mono ?_); rintro e w1 ⟨rfl, hX⟩; have T := T.step hX; clear hX; obtain ⟨a0, a1, a2, a3⟩ := T.a.cells; obtain ⟨c0, c1, c2, c3⟩ := T.c.cells; have y0 := T.c.fz 0; have y1 := T.c.fz 1; have y2 := T.c.fz 2; have y3 := T.c.fz 3)
        exact bodyPost_ret (v := .tuple #[.agg #[.int .i64 0, .int .i64 0, .int .i64 0, .int .i64 0], .int .i64 2]) (by simp [results, Tryd.results10, go_sem, c0, c1, c2, c3]) rfl ⟨rfl, (((T.bel.setCell (by simp; try omega) _).setCell (by simp; try omega) _).setCell (by simp; try omega) _).setCell (by simp; try omega) _⟩
      · obtain ⟨d1, d2, n1, n2, o1, o2⟩ := nP_of hv
        have d3 : 0 ≤ d ∧ d ≤ 3652058 := by unfold vP at hv; omega
        have HC := Lib.hid (fun w => carry_any d (n + (off - o) * 60000000000) w (by omega) (by omega))
        have HR : Hid (zR 4 d n o off = dR 4 (d + (n + (off - o) * 60000000000) / 86400000000000) ((n + (off - o) * 60000000000) % 86400000000000) off) := Lib.hid (by unfold zR; rw [if_pos hv, if_pos rfl, if_pos ⟨h1, h2⟩])
        have HD := Lib.hid (fun w => dated_any 4 (d + (n + (off - o) * 60000000000) / 86400000000000) ((n + (off - o) * 60000000000) % 86400000000000) off w)
        rw [HR.out]
        obtain ⟨Z, hZ⟩ : ∃ Z, d + (n + (off - o) * 60000000000) / 86400000000000 = Z := ⟨_, rfl⟩
        obtain ⟨N, hN⟩ : ∃ N, (n + (off - o) * 60000000000) % 86400000000000 = N := ⟨_, rfl⟩
        rw [hZ, hN] at HC HD ⊢
        obtain ⟨ra, rb, rc, rd, re, hR⟩ : ∃ ga gb gc gd ge, dR 4 Z N off = (ga, gb, gc, gd, ge) := ⟨_, _, _, _, _, rfl⟩
        rw [hR] at HD ⊢
        unfold tR at HD ⊢
        simp only at HD ⊢
        clear hv hZ hN hR HR
        go_enter Tryd.func10, Tryd.ntmps10
        go_wp2_with (first | (go_at_call 6; (with_reducible refine (HV.out _).mono ?_); rintro e w1 ⟨rfl, hX⟩; have T := T.step hX; clear hX; obtain ⟨a0, a1, a2, a3⟩ := T.a.cells; obtain ⟨c0, c1, c2, c3⟩ := T.c.cells; have y0 := T.c.fz 0; have y1 := T.c.fz 1; have y2 := T.c.fz 2; have y3 := T.c.fz 3) | (go_at_call 20; (with_reducible refine (HC.out _).mono ?_); rintro e w1 ⟨rfl, rfl⟩) | (go_at_call 21; (with_reducible refine (HD.out _).mono ?_); rintro e w1 ⟨rfl, hX⟩; have T := T.step hX; clear hX; obtain ⟨a0, a1, a2, a3⟩ := T.a.cells; obtain ⟨c0, c1, c2, c3⟩ := T.c.cells; have y0 := T.c.fz 0; have y1 := T.c.fz 1; have y2 := T.c.fz 2; have y3 := T.c.fz 3))
        exact bodyPost_ret (v := .tuple #[.agg #[.int .i64 ra, .int .i64 rb, .int .i64 rc, .int .i64 rd], .int .i64 re]) (by simp [results, Tryd.results10, go_sem, c0, c1, c2, c3]) rfl ⟨rfl, (((T.bel.setCell (by simp; try omega) _).setCell (by simp; try omega) _).setCell (by simp; try omega) _).setCell (by simp; try omega) _⟩
    · have HR : Hid (zR k d n o off = (0, 0, 0, 0, 6)) := Lib.hid (by unfold zR; rw [if_pos hv, if_neg hk])
      rw [HR.out]
      unfold tR
      have hb : (k != 4) = true := by simpa using hk
      clear hv
      go_enter Tryd.func10, Tryd.ntmps10
      go_wp2_with (go_at_call 6; (with_reducible refine (HV.out _).mono ?_); rintro e w1 ⟨rfl, hX⟩; have T := T.step hX; clear hX; obtain ⟨a0, a1, a2, a3⟩ := T.a.cells; obtain ⟨c0, c1, c2, c3⟩ := T.c.cells; have y0 := T.c.fz 0; have y1 := T.c.fz 1; have y2 := T.c.fz 2; have y3 := T.c.fz 3)
      exact bodyPost_ret (v := .tuple #[.agg #[.int .i64 0, .int .i64 0, .int .i64 0, .int .i64 0], .int .i64 6]) (by simp [results, Tryd.results10, go_sem, c0, c1, c2, c3]) rfl ⟨rfl, (((T.bel.setCell (by simp; try omega) _).setCell (by simp; try omega) _).setCell (by simp; try omega) _).setCell (by simp; try omega) _⟩
  · rw [← vT_no hv] at HV
    have HR : Hid (zR k d n o off = (0, 0, 0, 0, 1)) := Lib.hid (by unfold zR; rw [if_neg hv])
    rw [HR.out]
    unfold tR
    clear hv
    go_enter Tryd.func10, Tryd.ntmps10
    go_wp2_with (go_at_call 6; (with_reducible refine (HV.out _).mono ?_); rintro e w1 ⟨rfl, hX⟩; have T := T.step hX; clear hX; obtain ⟨a0, a1, a2, a3⟩ := T.a.cells; obtain ⟨c0, c1, c2, c3⟩ := T.c.cells; have y0 := T.c.fz 0; have y1 := T.c.fz 1; have y2 := T.c.fz 2; have y3 := T.c.fz 3)
    exact bodyPost_ret (v := .tuple #[.agg #[.int .i64 0, .int .i64 0, .int .i64 0, .int .i64 0], .int .i64 1]) (by simp [results, Tryd.results10, go_sem, c0, c1, c2, c3]) rfl ⟨rfl, (((T.bel.setCell (by simp; try omega) _).setCell (by simp; try omega) _).setCell (by simp; try omega) _).setCell (by simp; try omega) _⟩
end Go.Proofs.YtkbddelacjjapaaDoor.Mom
