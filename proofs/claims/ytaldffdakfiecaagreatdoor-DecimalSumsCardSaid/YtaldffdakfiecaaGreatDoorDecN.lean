/-
  Contracts of package decimal: the order.
-/
import Derived.Test.YtaldffdakfiecaaGreatDoorDecM
import Derived.Test.YtaldffdakfiecaaGreatDoorDecK
namespace Go.Proofs.YtaldffdakfiecaaGreatDoor.Dec
open Go.RowKit
set_option linter.unusedVariables false
set_option linter.unusedSimpArgs false
open Go.Proofs.YtaldffdakfiecaaGreatDoor.Dig

def sgn (g : Bool) (n : Nat) : Int := if n = 0 then 0 else if g then -1 else 1
def icmp (a b : Int) : Int := if a < b then -1 else if b < a then 1 else 0
/-- The order of two absolute values. -/
def cabs (n1 : Nat) (x1 : Int) (n2 : Nat) (x2 : Int) : Int := if icmp ((S n1).size + x1) ((S n2).size + x2) ≠ 0 then icmp ((S n1).size + x1) ((S n2).size + x2) else Lib.compareBytes (num n1) (num n2)
def dcmp (g1 : Bool) (n1 : Nat) (x1 : Int) (g2 : Bool) (n2 : Nat) (x2 : Int) : Int := if sgn g1 n1 ≠ sgn g2 n2 then icmp (sgn g1 n1) (sgn g2 n2) else if g1 then cabs n2 x2 n1 x1 else cabs n1 x1 n2 x2
theorem icmp_any (a b : Int) (w : World) : Calls Tryz.prog 31 #[.int .i64 a, .int .i64 b] w fun e w' => e = .returned (.int .i64 (icmp a b)) ∧ w' = w := by
  rcases (show a < b ∨ (¬ a < b ∧ b < a) ∨ (¬ a < b ∧ ¬ b < a) by omega) with h | ⟨h, h'⟩ | ⟨h, h'⟩
  · have HR : Hid (icmp a b = -1) := Lib.hid (if_pos h)
    go_enter Tryz.func31, Tryz.ntmps31
    go_wp2
    go_ret
    exact ⟨ret_int HR.out.symm, rfl⟩
  · have HR : Hid (icmp a b = 1) := Lib.hid (by unfold icmp; rw [if_neg h, if_pos h'])
    go_enter Tryz.func31, Tryz.ntmps31
    go_wp2
    go_ret
    exact ⟨ret_int HR.out.symm, rfl⟩
  · have HR : Hid (icmp a b = 0) := Lib.hid (by unfold icmp; rw [if_neg h, if_neg h'])
    go_enter Tryz.func31, Tryz.ntmps31
    go_wp2
    go_ret
    exact ⟨ret_int HR.out.symm, rfl⟩
theorem sign_any (g : Bool) (n : Nat) (x : Int) (w : World) : Calls Tryz.prog 30 #[.agg #[.bool g, .string (S n), .int .i64 x]] w fun e w' => e = .returned (.int .i64 (sgn g n)) ∧ Below w.heap.size w w' := by
  rcases Nat.eq_zero_or_pos n with h | h
  · have HR : Hid (sgn g n = 0) := Lib.hid (if_pos h)
    have e1 : (S n).toList = [] := tl_nil (by rw [h]; rfl)
    clear h
    go_enter Tryz.func30, Tryz.ntmps30
    go_wp2
    go_ret
    exact ⟨ret_int HR.out.symm, (Below.refl _ _).alloc (Nat.le_refl _) _⟩
  · have HR : Hid (sgn g n = if g then -1 else 1) := Lib.hid (if_neg (by omega))
    have e1 := tl_ne (S_pos h)
    have e2 := tl_ne' (S_pos h)
    clear h
    cases g
    all_goals
      go_enter Tryz.func30, Tryz.ntmps30
      go_wp2
      go_ret
      exact ⟨ret_int HR.out.symm, (Below.refl _ _).alloc (Nat.le_refl _) _⟩
theorem icmp_cases (a b : Int) : icmp a b = -1 ∨ icmp a b = 0 ∨ icmp a b = 1 := by
  unfold icmp; split
  · exact .inl rfl
  · split
    · exact .inr (.inr rfl)
    · exact .inr (.inl rfl)
set_option maxRecDepth 100000 in
set_option maxHeartbeats 8000000 in
theorem cabs_any (g1 : Bool) (n1 : Nat) (x1 : Int) (g2 : Bool) (n2 : Nat) (x2 : Int) (w : World) (h1 : okD g1 n1 x1) (h2 : okD g2 n2 x2) : Calls Tryz.prog 32 #[.agg #[.bool g1, .string (S n1), .int .i64 x1], .agg #[.bool g2, .string (S n2), .int .i64 x2]] w fun e w' => e = .returned (.int .i64 (cabs n1 x1 n2 x2)) ∧ Below w.heap.size w w' := by
  obtain ⟨hs1, hx1, hx2⟩ := ok_size h1
  obtain ⟨hs2, hx3, hx4⟩ := ok_size h2
  have HI := Lib.hid (fun w => icmp_any ((S n1).size + x1) ((S n2).size + x2) w)
  have HC : Hid (∀ w, Calls Tryz.prog 45 #[.string (S n1), .string (S n2)] w fun e w' => e = .returned (.int .i64 (Lib.compareBytes (num n1) (num n2))) ∧ w' = w) := Lib.hid (fun w => Tryz.strings_Compare (S n1) (S n2) w)
  have HD : Hid (cabs n1 x1 n2 x2 = if icmp ((S n1).size + x1) ((S n2).size + x2) ≠ 0 then icmp ((S n1).size + x1) ((S n2).size + x2) else Lib.compareBytes (num n1) (num n2)) := Lib.hid rfl
  have hcs := icmp_cases ((S n1).size + x1) ((S n2).size + x2)
  obtain ⟨i, hi⟩ : ∃ i, icmp ((S n1).size + x1) ((S n2).size + x2) = i := ⟨_, rfl⟩
  rw [hi] at HI HD hcs
  clear hi h1 h2
  rcases hcs with rfl | rfl | rfl
  all_goals
    go_enter Tryz.func32, Tryz.ntmps32
    go_wp2_with (first | (go_at_call 31; (with_reducible refine (HI.out _).mono ?_); rintro e w1 ⟨rfl, rfl⟩) | (go_at_call 45; (with_reducible refine (HC.out _).mono ?_); rintro e w1 ⟨rfl, rfl⟩))
    go_ret
    exact ⟨ret_int (by rw [HD.out]; rfl), ((Below.refl _ _).alloc (Nat.le_refl _) _).alloc (by simp) _⟩
/-- Two decimals in blocks of their own. -/
structure P2 (w W : World) (g1 : Bool) (s1 : ByteArray) (x1 : Int) (g2 : Bool) (s2 : ByteArray) (x2 : Int) : Prop where
  a : DC W w.heap.size g1 s1 x1
  b : DC W (w.heap.size + 1) g2 s2 x2
  bel : Below w.heap.size w W
section
variable {w W W' : World} {g1 g2 : Bool} {s1 s2 : ByteArray} {x1 x2 : Int}
theorem P2.d (h : P2 w W g1 s1 x1 g2 s2 x2) : P2 w W.drew g1 s1 x1 g2 s2 x2 := ⟨h.a.dr, h.b.dr, h.bel.drew⟩
theorem P2.step (hb : Below W.heap.size W W') (h : P2 w W g1 s1 x1 g2 s2 x2) : P2 w W' g1 s1 x1 g2 s2 x2 :=
  ⟨h.a.below hb h.a.lt, h.b.below hb h.b.lt, h.bel.trans (hb.mono h.bel.size)⟩
theorem P2.all (h : P2 w W g1 s1 x1 g2 s2 x2) : P2 w W g1 s1 x1 g2 s2 x2 ∧ W.cell? ⟨w.heap.size, 0, none⟩ = some (.bool g1) ∧ W.cell? ⟨w.heap.size, 1, none⟩ = some (.string s1) ∧ W.cell? ⟨w.heap.size, 2, none⟩ = some (.int .i64 x1) ∧ W.cell? ⟨w.heap.size + 1, 0, none⟩ = some (.bool g2) ∧ W.cell? ⟨w.heap.size + 1, 1, none⟩ = some (.string s2) ∧ W.cell? ⟨w.heap.size + 1, 2, none⟩ = some (.int .i64 x2) :=
  ⟨h, h.a.cells.1, h.a.cells.2.1, h.a.cells.2.2, h.b.cells.1, h.b.cells.2.1, h.b.cells.2.2⟩
end
theorem ne_f {a b : Int} (h : a ≠ b) : (a == b) = false := by rw [beq_eq_false_iff_ne]; exact h
set_option maxRecDepth 100000 in
set_option maxHeartbeats 8000000 in
theorem dcmp_any (g1 : Bool) (n1 : Nat) (x1 : Int) (g2 : Bool) (n2 : Nat) (x2 : Int) (w : World) (h1 : okD g1 n1 x1) (h2 : okD g2 n2 x2) : Calls Tryz.prog 10 #[.agg #[.bool g1, .string (S n1), .int .i64 x1], .agg #[.bool g2, .string (S n2), .int .i64 x2]] w fun e w' => e = .returned (.int .i64 (dcmp g1 n1 x1 g2 n2 x2)) ∧ Below w.heap.size w w' := by
  obtain ⟨hs1, hx1, hx2⟩ := ok_size h1
  obtain ⟨hs2, hx3, hx4⟩ := ok_size h2
  have HS1 := Lib.hid (fun w => sign_any g1 n1 x1 w)
  have HS2 := Lib.hid (fun w => sign_any g2 n2 x2 w)
  have HC1 := Lib.hid (fun w => cabs_any g1 n1 x1 g2 n2 x2 w h1 h2)
  have HC2 := Lib.hid (fun w => cabs_any g2 n2 x2 g1 n1 x1 w h2 h1)
  have HP : Hid (P2 w ((w.alloc (.cells #[.bool g1, .string (S n1), .int .i64 x1] 23)).alloc (.cells #[.bool g2, .string (S n2), .int .i64 x2] 23)) g1 (S n1) x1 g2 (S n2) x2) := Lib.hid (by
    obtain ⟨A, B, bl⟩ := two_new w g1 (S n1) x1 g2 (S n2) x2
    exact ⟨A, B, bl⟩)
  by_cases hs : sgn g1 n1 = sgn g2 n2
  · have HR : Hid (dcmp g1 n1 x1 g2 n2 x2 = if g1 then cabs n2 x2 n1 x1 else cabs n1 x1 n2 x2) := Lib.hid (if_neg (by simpa using hs))
    rw [hs] at HS1
    generalize sgn g2 n2 = s at *
    clear hs h1 h2
    rcases g1 with _ | _
    · have HR := Lib.hid (HR.out.trans (by rfl : _ = cabs n1 x1 n2 x2))
      go_enter Tryz.func10, Tryz.ntmps10
      go_wp2
      have T := HP.out
      go_region_held3 (fun (W : World) => P2 w W false (S n1) x1 g2 (S n2) x2 ∧ W.cell? ⟨w.heap.size, 0, none⟩ = some (.bool false) ∧ W.cell? ⟨w.heap.size, 1, none⟩ = some (.string (S n1)) ∧ W.cell? ⟨w.heap.size, 2, none⟩ = some (.int .i64 x1) ∧ W.cell? ⟨w.heap.size + 1, 0, none⟩ = some (.bool g2) ∧ W.cell? ⟨w.heap.size + 1, 1, none⟩ = some (.string (S n2)) ∧ W.cell? ⟨w.heap.size + 1, 2, none⟩ = some (.int .i64 x2)) ((first | (go_split_ands; exact P2.all (by assumption)) | (go_split_ands; exact P2.all (P2.d (by assumption))) | (go_split_ands; exact P2.all (P2.step hX (by assumption))))) (first | (go_at_call 30; first | ((with_reducible refine (HS1.out _).mono ?_); rintro e wn ⟨rfl, hX⟩) | ((with_reducible refine (HS2.out _).mono ?_); rintro e wn ⟨rfl, hX⟩)))
      rename_i hH
      have T := hH.1
      clear hH
      obtain ⟨a0, a1, a2⟩ := T.a.cells
      obtain ⟨b0, b1, b2⟩ := T.b.cells
      have bl := T.bel
      go_wp2_with (first | (go_at_call 32; (with_reducible refine (HC1.out _).mono ?_); rintro e wn ⟨rfl, hX⟩; have bl := bl.trans (hX.mono bl.size)))
      go_ret
      exact ⟨ret_int HR.out.symm, bl⟩
    · have HR := Lib.hid (HR.out.trans (by rfl : _ = cabs n2 x2 n1 x1))
      go_enter Tryz.func10, Tryz.ntmps10
      go_wp2
      have T := HP.out
      go_region_held3 (fun (W : World) => P2 w W true (S n1) x1 g2 (S n2) x2 ∧ W.cell? ⟨w.heap.size, 0, none⟩ = some (.bool true) ∧ W.cell? ⟨w.heap.size, 1, none⟩ = some (.string (S n1)) ∧ W.cell? ⟨w.heap.size, 2, none⟩ = some (.int .i64 x1) ∧ W.cell? ⟨w.heap.size + 1, 0, none⟩ = some (.bool g2) ∧ W.cell? ⟨w.heap.size + 1, 1, none⟩ = some (.string (S n2)) ∧ W.cell? ⟨w.heap.size + 1, 2, none⟩ = some (.int .i64 x2)) ((first | (go_split_ands; exact P2.all (by assumption)) | (go_split_ands; exact P2.all (P2.d (by assumption))) | (go_split_ands; exact P2.all (P2.step hX (by assumption))))) (first | (go_at_call 30; first | ((with_reducible refine (HS1.out _).mono ?_); rintro e wn ⟨rfl, hX⟩) | ((with_reducible refine (HS2.out _).mono ?_); rintro e wn ⟨rfl, hX⟩)))
      rename_i hH
      have T := hH.1
      clear hH
      obtain ⟨a0, a1, a2⟩ := T.a.cells
      obtain ⟨b0, b1, b2⟩ := T.b.cells
      have bl := T.bel
      go_wp2_with (first | (go_at_call 32; (with_reducible refine (HC2.out _).mono ?_); rintro e wn ⟨rfl, hX⟩; have bl := bl.trans (hX.mono bl.size)))
      go_ret
      exact ⟨ret_int HR.out.symm, bl⟩
  · have HR : Hid (dcmp g1 n1 x1 g2 n2 x2 = icmp (sgn g1 n1) (sgn g2 n2)) := Lib.hid (if_pos hs)
    have HI := Lib.hid (fun w => icmp_any (sgn g1 n1) (sgn g2 n2) w)
    have hne := ne_f hs
    generalize sgn g2 n2 = s at *
    generalize sgn g1 n1 = r at *
    clear hs h1 h2
    go_enter Tryz.func10, Tryz.ntmps10
    go_wp2
    have T := HP.out
    go_region_held3 (fun (W : World) => P2 w W g1 (S n1) x1 g2 (S n2) x2 ∧ W.cell? ⟨w.heap.size, 0, none⟩ = some (.bool g1) ∧ W.cell? ⟨w.heap.size, 1, none⟩ = some (.string (S n1)) ∧ W.cell? ⟨w.heap.size, 2, none⟩ = some (.int .i64 x1) ∧ W.cell? ⟨w.heap.size + 1, 0, none⟩ = some (.bool g2) ∧ W.cell? ⟨w.heap.size + 1, 1, none⟩ = some (.string (S n2)) ∧ W.cell? ⟨w.heap.size + 1, 2, none⟩ = some (.int .i64 x2)) ((first | (go_split_ands; exact P2.all (by assumption)) | (go_split_ands; exact P2.all (P2.d (by assumption))) | (go_split_ands; exact P2.all (P2.step hX (by assumption))))) (first | (go_at_call 30; first | ((with_reducible refine (HS1.out _).mono ?_); rintro e wn ⟨rfl, hX⟩) | ((with_reducible refine (HS2.out _).mono ?_); rintro e wn ⟨rfl, hX⟩)))
    rename_i hH
    have T := hH.1
    clear hH
    obtain ⟨a0, a1, a2⟩ := T.a.cells
    obtain ⟨b0, b1, b2⟩ := T.b.cells
    have bl := T.bel
    go_wp2_with (first | (go_at_call 31; (with_reducible refine (HI.out _).mono ?_); rintro e w1 ⟨rfl, rfl⟩))
    go_ret
    exact ⟨ret_int HR.out.symm, bl⟩
end Go.Proofs.YtaldffdakfiecaaGreatDoor.Dec
