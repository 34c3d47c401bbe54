/-
  The law's walk: DigitsLaws.
-/
import Derived.Test.YtiekchldkohkgaaDoorDigM
namespace Go.Proofs.YtiekchldkohkgaaDoor.Dig
open Go.RowKit
set_option linter.unusedVariables false
set_option linter.unusedSimpArgs false

theorem rvalid_f3 {s : ByteArray} {w : World} (hs : s.size ≤ 9223372036854775807) (h : numV s.data.toList = false) : Calls Tryd.prog 16 #[.string s] w fun e w' => e = .returned (.bool false) ∧ w = w' := by
  have := rvalid_any s w hs; rwa [h] at this
theorem add_is {x y z : Nat} {w : World} (h : Hid (x + y = z)) (hx : (S x).size ≤ 600) (hy : (S y).size ≤ 600) (hz : (S z).size ≤ 600) : Calls Tryd.prog 19 #[.string (S x), .string (S y)] w fun e w' => e = .returned (.tuple #[.string (S z), .int .i64 0]) ∧ Below w.heap.size w w' := by
  have := add_any x y w hx hy
  rw [h.out, (lim_small hz).1, (lim_small hz).2] at this; exact this
theorem mul_is {x y z : Nat} {w : World} (h : Hid (x * y = z)) (hx : (S x).size ≤ 600) (hy : (S y).size ≤ 600) (hz : (S z).size ≤ 600) : Calls Tryd.prog 25 #[.string (S x), .string (S y)] w fun e w' => e = .returned (.tuple #[.string (S z), .int .i64 0]) ∧ Below w.heap.size w w' := by
  have := mul_any x y w hx hy
  rw [h.out, (lim_small hz).1, (lim_small hz).2] at this; exact this
theorem sub_is {x y z : Nat} {w : World} (h : Hid (x = z + y)) (hx : (S x).size ≤ 600) (hy : (S y).size ≤ 600) : Calls Tryd.prog 20 #[.string (S x), .string (S y)] w fun e w' => e = .returned (.tuple #[.string (S z), .int .i64 0]) ∧ Below w.heap.size w w' := by
  have := sub_any x y w hx hy
  have h' := h.out
  rw [show x - y = z by omega, show subE x y = 0 from if_neg (by omega)] at this; exact this
theorem quo_is {x y q r : Nat} {w : World} (hq : Hid (x / y = q)) (hr : Hid (x % y = r)) (hx : (S x).size ≤ 600) (hy : (S y).size ≤ 600) (hy0 : 0 < y) : Calls Tryd.prog 27 #[.string (S x), .string (S y)] w fun e w' => e = .returned (.tuple #[.string (S q), .string (S r), .int .i64 0]) ∧ Below w.heap.size w w' := by
  have := quo_any x y w hx hy hy0
  rw [hq.out, hr.out] at this; exact this
theorem cmp_neg {x y : Nat} {c : Int} {w : World} (h : Hid (cmpN x y = c)) (hx : (S x).size ≤ 9223372036854775807) (hy : (S y).size ≤ 9223372036854775807) : Calls Tryd.prog 23 #[.string (S x), .string (S y)] w fun e w' => e = .returned (.int .i64 c) ∧ w = w' := by
  have := cmp_any x y w hx hy; rwa [h.out] at this
theorem bel_of {B : Nat} {a w w' : World} (h : Below B a w) (he : w'.heap = w.heap) (ho : w'.os = w.os) (ht : w'.tape = w.tape) (hu : w'.output = w.output) : Below B a w' :=
  ⟨ho.trans h.os, ht.trans h.tape, hu.trans h.output, by rw [he]; exact h.size, fun k hk => by rw [he]; exact h.block k hk⟩
theorem size_add (x y : Nat) : (S (x + y)).size ≤ max (S x).size (S y).size + 1 := by
  have h1 := Nat.lt_of_lt_of_le (size_pow (n := x)) (Nat.pow_le_pow_right (show 0 < 10 by omega) (Nat.le_max_left (S x).size (S y).size))
  have h2 := Nat.lt_of_lt_of_le (size_pow (n := y)) (Nat.pow_le_pow_right (show 0 < 10 by omega) (Nat.le_max_right (S x).size (S y).size))
  rw [S_size (x + y), num_len, Nat.pow_succ]; omega
theorem size_mul (x y : Nat) : (S (x * y)).size ≤ (S x).size + (S y).size := by
  rw [S_size (x * y), num_len]; exact mul_lt size_pow size_pow

set_option maxRecDepth 100000 in
set_option maxHeartbeats 4000000 in
theorem laws_three (x y z : Nat) (w : World) (hx : (S x).size ≤ 600) (hy : (S y).size ≤ 600) (hz : (S z).size ≤ 600) : Calls Tryd.prog 9 #[.agg #[.string (S x), .string (S y), .string (S z)]] w fun e w' => e = .returned (.bool true) ∧ Below w.heap.size w w' := by
  by_cases hl : 590 < (S x).size + (S y).size + (S z).size
  · go_enter Tryd.func9, Tryd.ntmps9
    go_wp2
    go_quiet (fail)
    go_wp2_with (first | (go_at_call 16; (with_reducible refine (rvalid_S (by omega)).mono ?_); rintro e w' ⟨rfl, rfl⟩) | (go_at_call 10; (with_reducible refine (lives_any _).mono ?_); rintro e w1 ⟨rfl, hb1⟩; have hb : Below w.heap.size w w1 := (by refine bthen ?_ hb1; exact bel_of ((Below.refl w.heap.size w).alloc (Nat.le_refl _) _) rfl rfl rfl rfl); clear hb1))
    go_ret
    exact ⟨rfl, hb⟩
  obtain ⟨t1, H1⟩ : ∃ t, Hid (x + y = t) := ⟨_, rfl⟩
  obtain ⟨t3, H4⟩ : ∃ t, Hid (t1 * z = t) := ⟨_, rfl⟩
  obtain ⟨t4, H5⟩ : ∃ t, Hid (x * z = t) := ⟨_, rfl⟩
  obtain ⟨t5, H6⟩ : ∃ t, Hid (z * y = t) := ⟨_, rfl⟩
  have q1 := size_add x y
  rw [H1.out] at q1
  have q2 := size_mul t1 z
  rw [H4.out] at q2
  have q3 := size_mul x z
  rw [H5.out] at q3
  have q4 := size_mul z y
  rw [H6.out] at q4
  have H2 : Hid (y + x = t1) := Lib.hid (by rw [Nat.add_comm]; exact H1.out)
  have H3 : Hid (t1 = x + y) := H1.out.symm
  have H7 : Hid (t4 + t5 = t3) := Lib.hid (by rw [← H4.out, ← H5.out, ← H6.out, ← H1.out, Nat.add_mul, Nat.mul_comm z y])
  by_cases h0 : z = 0
  · have ez := tl_nil (S_nil h0)
    clear h0
    go_enter Tryd.func9, Tryd.ntmps9
    go_wp2
    go_quiet (fail)
    go_wp2_with (first | (go_at_call 16; (with_reducible refine (rvalid_S (by omega)).mono ?_); rintro e w' ⟨rfl, rfl⟩) | (go_at_call 19; (with_reducible refine (add_is H1 (by omega) (by omega) (by omega)).mono ?_); rintro e w1 ⟨rfl, hb1⟩; have hb : Below w.heap.size w w1 := (by refine bthen ?_ hb1; exact bel_of ((Below.refl w.heap.size w).alloc (Nat.le_refl _) _) rfl rfl rfl rfl); clear hb1) | (go_at_call 19; (with_reducible refine (add_is H2 (by omega) (by omega) (by omega)).mono ?_); rintro e w2 ⟨rfl, hb2⟩; replace hb := bthen hb hb2; clear hb2) | (go_at_call 20; (with_reducible refine (sub_is H3 (by omega) (by omega)).mono ?_); rintro e w3 ⟨rfl, hb3⟩; replace hb := bthen hb hb3; clear hb3) | (go_at_call 25; (with_reducible refine (mul_is H4 (by omega) (by omega) (by omega)).mono ?_); rintro e w4 ⟨rfl, hb4⟩; replace hb := bthen hb hb4; clear hb4) | (go_at_call 25; (with_reducible refine (mul_is H5 (by omega) (by omega) (by omega)).mono ?_); rintro e w5 ⟨rfl, hb5⟩; replace hb := bthen hb hb5; clear hb5) | (go_at_call 25; (with_reducible refine (mul_is H6 (by omega) (by omega) (by omega)).mono ?_); rintro e w6 ⟨rfl, hb6⟩; replace hb := bthen hb hb6; clear hb6) | (go_at_call 19; (with_reducible refine (add_is H7 (by omega) (by omega) (by omega)).mono ?_); rintro e w7 ⟨rfl, hb7⟩; replace hb := bthen hb hb7; clear hb7) | (go_at_call 10; (with_reducible refine (lives_any _).mono ?_); rintro e w9 ⟨rfl, hb9⟩; replace hb := bthen hb hb9; clear hb9))
    go_ret
    exact ⟨rfl, hb⟩
  have ez := tl_ne (S_pos (n := z) (by omega))
  have ez' := tl_ne' (S_pos (n := z) (by omega))
  have hz0 : 0 < z := by omega
  have K1 := Nat.div_add_mod x z
  obtain ⟨u1, M0⟩ : ∃ t, Hid (x / z = t) := ⟨_, rfl⟩
  obtain ⟨u2, M4⟩ : ∃ t, Hid (x % z = t) := ⟨_, rfl⟩
  obtain ⟨u3, M1⟩ : ∃ t, Hid (u1 * z = t) := ⟨_, rfl⟩
  have M2 : Hid (u3 + u2 = x) := Lib.hid (by rw [← M1.out, ← M0.out, ← M4.out, Nat.mul_comm]; exact K1)
  have M3 : cmpN u2 z < 0 := by rw [← M4.out, cmpN_lt (Nat.mod_lt _ hz0)]; omega
  have s1 : (S u1).size ≤ 600 := S_short hx (by rw [← M0.out]; exact Nat.div_le_self _ _)
  have s2 : (S u2).size ≤ 600 := S_short hx (by rw [← M4.out]; exact Nat.mod_le _ _)
  have s3 : (S u3).size ≤ 600 := S_short hx (by rw [← M1.out, ← M0.out]; exact Nat.div_mul_le_self _ _)
  clear K1 h0
  obtain ⟨cc, hcc⟩ : ∃ c, cmpN u2 z = c := ⟨_, rfl⟩
  rw [hcc] at M3
  have HCC := Lib.hid hcc
  clear hcc
  go_enter Tryd.func9, Tryd.ntmps9
  go_wp2
  go_quiet (fail)
  go_wp2_with (first | (go_at_call 16; (with_reducible refine (rvalid_S (by omega)).mono ?_); rintro e w' ⟨rfl, rfl⟩) | (go_at_call 19; (with_reducible refine (add_is H1 (by omega) (by omega) (by omega)).mono ?_); rintro e w1 ⟨rfl, hb1⟩; have hb : Below w.heap.size w w1 := (by refine bthen ?_ hb1; exact bel_of ((Below.refl w.heap.size w).alloc (Nat.le_refl _) _) rfl rfl rfl rfl); clear hb1) | (go_at_call 19; (with_reducible refine (add_is H2 (by omega) (by omega) (by omega)).mono ?_); rintro e w2 ⟨rfl, hb2⟩; replace hb := bthen hb hb2; clear hb2) | (go_at_call 20; (with_reducible refine (sub_is H3 (by omega) (by omega)).mono ?_); rintro e w3 ⟨rfl, hb3⟩; replace hb := bthen hb hb3; clear hb3) | (go_at_call 25; (with_reducible refine (mul_is H4 (by omega) (by omega) (by omega)).mono ?_); rintro e w4 ⟨rfl, hb4⟩; replace hb := bthen hb hb4; clear hb4) | (go_at_call 25; (with_reducible refine (mul_is H5 (by omega) (by omega) (by omega)).mono ?_); rintro e w5 ⟨rfl, hb5⟩; replace hb := bthen hb hb5; clear hb5) | (go_at_call 25; (with_reducible refine (mul_is H6 (by omega) (by omega) (by omega)).mono ?_); rintro e w6 ⟨rfl, hb6⟩; replace hb := bthen hb hb6; clear hb6) | (go_at_call 19; (with_reducible refine (add_is H7 (by omega) (by omega) (by omega)).mono ?_); rintro e w7 ⟨rfl, hb7⟩; replace hb := bthen hb hb7; clear hb7) | (go_at_call 27; (with_reducible refine (quo_is M0 M4 hx hz hz0).mono ?_); rintro e w8 ⟨rfl, hb8⟩; replace hb := bthen hb hb8; clear hb8) | (go_at_call 25; (with_reducible refine (mul_is M1 (by omega) (by omega) (by omega)).mono ?_); rintro e w10 ⟨rfl, hb10⟩; replace hb := bthen hb hb10; clear hb10) | (go_at_call 19; (with_reducible refine (add_is M2 (by omega) (by omega) (by omega)).mono ?_); rintro e w11 ⟨rfl, hb11⟩; replace hb := bthen hb hb11; clear hb11) | (go_at_call 23; (with_reducible refine (cmp_neg HCC (by omega) (by omega)).mono ?_); rintro e w' ⟨rfl, rfl⟩) | (go_at_call 10; (with_reducible refine (lives_any _).mono ?_); rintro e w9 ⟨rfl, hb9⟩; replace hb := bthen hb hb9; clear hb9))
  go_ret
  exact ⟨rfl, hb⟩

set_option maxRecDepth 100000 in
set_option maxHeartbeats 1000000 in
theorem laws_walk (a b c : ByteArray) (w : World) (ha : a.size ≤ 9223372036854775807) (hb' : b.size ≤ 9223372036854775807) (hc : c.size ≤ 9223372036854775807) : Calls Tryd.prog 9 #[.agg #[.string a, .string b, .string c]] w fun e w' => e = .returned (.bool true) ∧ Below w.heap.size w w' := by
  cases hva : numV a.data.toList with
  | false =>
    have HV := fun w => Lib.hid (rvalid_f3 (w := w) ha hva)
    have HV' := Lib.hid HV
    clear hva HV
    go_enter Tryd.func9, Tryd.ntmps9
    go_wp2
    go_quiet (fail)
    go_wp2_with (first | (go_at_call 16; (first | (with_reducible refine (HV'.out _).out.mono ?_)); rintro e w' ⟨rfl, rfl⟩) | (go_at_call 10; (with_reducible refine (lives_any _).mono ?_); rintro e w1 ⟨rfl, hb1⟩; have hb : Below w.heap.size w w1 := (by refine bthen ?_ hb1; exact bel_of ((Below.refl w.heap.size w).alloc (Nat.le_refl _) _) rfl rfl rfl rfl); clear hb1))
    go_ret
    exact ⟨rfl, hb⟩
  | true =>
    have hx : (S (val a.data.toList)).size ≤ 600 := by rw [← S_of hva]; exact (numV_iff.1 hva).1
    rw [S_of hva]
    clear ha hva
    generalize val a.data.toList = x at *
    cases hvb : numV b.data.toList with
    | false =>
      have HV := fun w => Lib.hid (rvalid_f3 (w := w) hb' hvb)
      have HV' := Lib.hid HV
      clear hvb HV
      go_enter Tryd.func9, Tryd.ntmps9
      go_wp2
      go_quiet (fail)
      go_wp2_with (first | (go_at_call 16; (first | (with_reducible refine (HV'.out _).out.mono ?_) | (with_reducible refine (rvalid_S hx).mono ?_)); rintro e w' ⟨rfl, rfl⟩) | (go_at_call 10; (with_reducible refine (lives_any _).mono ?_); rintro e w1 ⟨rfl, hb1⟩; have hb : Below w.heap.size w w1 := (by refine bthen ?_ hb1; exact bel_of ((Below.refl w.heap.size w).alloc (Nat.le_refl _) _) rfl rfl rfl rfl); clear hb1))
      go_ret
      exact ⟨rfl, hb⟩
    | true =>
      have hy : (S (val b.data.toList)).size ≤ 600 := by rw [← S_of hvb]; exact (numV_iff.1 hvb).1
      rw [S_of hvb]
      clear hb' hvb
      generalize val b.data.toList = y at *
      cases hvc : numV c.data.toList with
      | false =>
        have HV := fun w => Lib.hid (rvalid_f3 (w := w) hc hvc)
        have HV' := Lib.hid HV
        clear hvc HV
        go_enter Tryd.func9, Tryd.ntmps9
        go_wp2
        go_quiet (fail)
        go_wp2_with (first | (go_at_call 16; (first | (with_reducible refine (HV'.out _).out.mono ?_) | (with_reducible refine (rvalid_S hx).mono ?_) | (with_reducible refine (rvalid_S hy).mono ?_)); rintro e w' ⟨rfl, rfl⟩) | (go_at_call 10; (with_reducible refine (lives_any _).mono ?_); rintro e w1 ⟨rfl, hb1⟩; have hb : Below w.heap.size w w1 := (by refine bthen ?_ hb1; exact bel_of ((Below.refl w.heap.size w).alloc (Nat.le_refl _) _) rfl rfl rfl rfl); clear hb1))
        go_ret
        exact ⟨rfl, hb⟩
      | true =>
        have hz : (S (val c.data.toList)).size ≤ 600 := by rw [← S_of hvc]; exact (numV_iff.1 hvc).1
        rw [S_of hvc]
        exact laws_three x y _ w hx hy hz
end Go.Proofs.YtiekchldkohkgaaDoor.Dig
