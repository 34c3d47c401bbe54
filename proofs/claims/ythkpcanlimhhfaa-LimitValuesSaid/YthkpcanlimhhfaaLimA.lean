/-
  Contracts of package limit and its reference: validity.
-/
import Derived.Test.YthkpcanlimhhfaaBase
namespace Go.Proofs.Ythkpcanlimhhfaa.Lim
open Go.RowKit
set_option linter.unusedVariables false
set_option linter.unusedSimpArgs false

/-- Go's complement of an int. -/
theorem not64 (n : Int) (hn : -9223372036854775808 ≤ n ∧ n ≤ 9223372036854775807) : bits .xor .i64 (-1) n = -n - 1 := by
  show IntKind.i64.wrap ((BitVec.ofInt 64 (-1) ^^^ BitVec.ofInt 64 n).toNat : Int) = _
  have h1 : BitVec.ofInt 64 (-1) = BitVec.allOnes 64 := by decide
  rw [h1, BitVec.allOnes_xor, BitVec.toNat_not, BitVec.toNat_ofInt, IntKind.wrap_i64]
  omega
def clampI (n l : Int) : Int := if n < 0 ∨ l < n then -n - 1 else n
theorem clamp_any (n l : Int) (hn : -9223372036854775808 ≤ n ∧ n ≤ 9223372036854775807) (w : World) : Calls Try.prog 20 #[.int .i64 n, .int .i64 l] w fun e w' => e = .returned (.int .i64 (clampI n l)) ∧ w' = w := by
  by_cases h1 : n < 0
  · go_enter Try.func20, Try.ntmps20
    go_wp2
    go_ret
    exact ⟨ret_int (by unfold clampI; rw [if_pos (by omega)]; exact not64 n hn), rfl⟩
  · by_cases h2 : l < n
    · go_enter Try.func20, Try.ntmps20
      go_wp2
      go_ret
      exact ⟨ret_int (by unfold clampI; rw [if_pos (by omega)]; exact not64 n hn), rfl⟩
    · go_enter Try.func20, Try.ntmps20
      go_wp2
      go_ret
      exact ⟨ret_int (by unfold clampI; rw [if_neg (by omega)]), rfl⟩
theorem clamp_is {n l c : Int} {w : World} (hn : -9223372036854775808 ≤ n ∧ n ≤ 9223372036854775807) (h : Hid (clampI n l = c)) : Calls Try.prog 20 #[.int .i64 n, .int .i64 l] w fun e w' => e = .returned (.int .i64 c) ∧ w' = w :=
  (clamp_any n l hn w).mono fun _ _ ⟨a, b⟩ => ⟨by rw [a, h.out], b⟩
theorem clamp_in {n l : Int} (h : 0 ≤ n ∧ n ≤ l) : clampI n l = n := by unfold clampI; rw [if_neg (by omega)]
theorem clamp_out {n l : Int} (h : ¬ (0 ≤ n ∧ n ≤ l)) : ¬ n = clampI n l := by unfold clampI; rw [if_pos (by omega)]; omega
/-- Is a usage within limits? -/
def winB (ld ln lb la le ud un ub ua ue : Int) : Bool := decide ((0 ≤ ud ∧ ud ≤ ld) ∧ (0 ≤ un ∧ un ≤ ln) ∧ (0 ≤ ub ∧ ub ≤ lb) ∧ (0 ≤ ua ∧ ua ≤ la) ∧ (0 ≤ ue ∧ ue ≤ le))
set_option maxRecDepth 100000 in
set_option maxHeartbeats 2000000 in
theorem within_any (ld ln lb la le ud un ub ua ue : Int) (hud : -9223372036854775808 ≤ ud ∧ ud ≤ 9223372036854775807) (hun : -9223372036854775808 ≤ un ∧ un ≤ 9223372036854775807) (hub : -9223372036854775808 ≤ ub ∧ ub ≤ 9223372036854775807) (hua : -9223372036854775808 ≤ ua ∧ ua ≤ 9223372036854775807) (hue : -9223372036854775808 ≤ ue ∧ ue ≤ 9223372036854775807) (w : World) : Calls Try.prog 17 #[.agg #[.int .i64 ld, .int .i64 ln, .int .i64 lb, .int .i64 la, .int .i64 le], .agg #[.int .i64 ud, .int .i64 un, .int .i64 ub, .int .i64 ua, .int .i64 ue]] w fun e w' => e = .returned (.bool (winB ld ln lb la le ud un ub ua ue)) ∧ Below w.heap.size w w' := by
  by_cases cd : 0 ≤ ud ∧ ud ≤ ld
  case neg =>
    have q := clamp_out cd
    have hr := Lib.hid cd
    obtain ⟨kd, hkd⟩ : ∃ k, clampI ud ld = k := ⟨_, rfl⟩
    rw [hkd] at q
    have Hd := Lib.hid hkd
    clear hkd
    obtain ⟨kn, hkn⟩ : ∃ k, clampI un ln = k := ⟨_, rfl⟩
    have Hn := Lib.hid hkn
    clear hkn
    obtain ⟨kb, hkb⟩ : ∃ k, clampI ub lb = k := ⟨_, rfl⟩
    have Hb := Lib.hid hkb
    clear hkb
    obtain ⟨ka, hka⟩ : ∃ k, clampI ua la = k := ⟨_, rfl⟩
    have Ha := Lib.hid hka
    clear hka
    obtain ⟨ke, hke⟩ : ∃ k, clampI ue le = k := ⟨_, rfl⟩
    have He := Lib.hid hke
    clear hke
    clear cd
    go_enter Try.func17, Try.ntmps17
    go_wp2
    go_quiet ((go_at_call 20; (first | with_reducible exact Calls.quiet_of_same (clamp_is hud Hd) | with_reducible exact Calls.quiet_of_same (clamp_is hun Hn) | with_reducible exact Calls.quiet_of_same (clamp_is hub Hb) | with_reducible exact Calls.quiet_of_same (clamp_is hua Ha) | with_reducible exact Calls.quiet_of_same (clamp_is hue He))))
    go_wp2
    go_ret
    exact ⟨ret_bool (by unfold winB; rw [decide_eq_false (fun q => hr.out q.1)]), below_drewN (((Below.refl _ _).alloc (Nat.le_refl _) _).alloc (by simp) _) _⟩
  by_cases cn : 0 ≤ un ∧ un ≤ ln
  case neg =>
    have Hd := Lib.hid (clamp_in cd)
    have q := clamp_out cn
    have hr := Lib.hid cn
    obtain ⟨kn, hkn⟩ : ∃ k, clampI un ln = k := ⟨_, rfl⟩
    rw [hkn] at q
    have Hn := Lib.hid hkn
    clear hkn
    obtain ⟨kb, hkb⟩ : ∃ k, clampI ub lb = k := ⟨_, rfl⟩
    have Hb := Lib.hid hkb
    clear hkb
    obtain ⟨ka, hka⟩ : ∃ k, clampI ua la = k := ⟨_, rfl⟩
    have Ha := Lib.hid hka
    clear hka
    obtain ⟨ke, hke⟩ : ∃ k, clampI ue le = k := ⟨_, rfl⟩
    have He := Lib.hid hke
    clear hke
    clear cd cn
    go_enter Try.func17, Try.ntmps17
    go_wp2
    go_quiet ((go_at_call 20; (first | with_reducible exact Calls.quiet_of_same (clamp_is hud Hd) | with_reducible exact Calls.quiet_of_same (clamp_is hun Hn) | with_reducible exact Calls.quiet_of_same (clamp_is hub Hb) | with_reducible exact Calls.quiet_of_same (clamp_is hua Ha) | with_reducible exact Calls.quiet_of_same (clamp_is hue He))))
    go_wp2
    go_ret
    exact ⟨ret_bool (by unfold winB; rw [decide_eq_false (fun q => hr.out q.2.1)]), below_drewN (((Below.refl _ _).alloc (Nat.le_refl _) _).alloc (by simp) _) _⟩
  by_cases cb : 0 ≤ ub ∧ ub ≤ lb
  case neg =>
    have Hd := Lib.hid (clamp_in cd)
    have Hn := Lib.hid (clamp_in cn)
    have q := clamp_out cb
    have hr := Lib.hid cb
    obtain ⟨kb, hkb⟩ : ∃ k, clampI ub lb = k := ⟨_, rfl⟩
    rw [hkb] at q
    have Hb := Lib.hid hkb
    clear hkb
    obtain ⟨ka, hka⟩ : ∃ k, clampI ua la = k := ⟨_, rfl⟩
    have Ha := Lib.hid hka
    clear hka
    obtain ⟨ke, hke⟩ : ∃ k, clampI ue le = k := ⟨_, rfl⟩
    have He := Lib.hid hke
    clear hke
    clear cd cn cb
    go_enter Try.func17, Try.ntmps17
    go_wp2
    go_quiet ((go_at_call 20; (first | with_reducible exact Calls.quiet_of_same (clamp_is hud Hd) | with_reducible exact Calls.quiet_of_same (clamp_is hun Hn) | with_reducible exact Calls.quiet_of_same (clamp_is hub Hb) | with_reducible exact Calls.quiet_of_same (clamp_is hua Ha) | with_reducible exact Calls.quiet_of_same (clamp_is hue He))))
    go_wp2
    go_ret
    exact ⟨ret_bool (by unfold winB; rw [decide_eq_false (fun q => hr.out q.2.2.1)]), below_drewN (((Below.refl _ _).alloc (Nat.le_refl _) _).alloc (by simp) _) _⟩
  by_cases ca : 0 ≤ ua ∧ ua ≤ la
  case neg =>
    have Hd := Lib.hid (clamp_in cd)
    have Hn := Lib.hid (clamp_in cn)
    have Hb := Lib.hid (clamp_in cb)
    have q := clamp_out ca
    have hr := Lib.hid ca
    obtain ⟨ka, hka⟩ : ∃ k, clampI ua la = k := ⟨_, rfl⟩
    rw [hka] at q
    have Ha := Lib.hid hka
    clear hka
    obtain ⟨ke, hke⟩ : ∃ k, clampI ue le = k := ⟨_, rfl⟩
    have He := Lib.hid hke
    clear hke
    clear cd cn cb ca
    go_enter Try.func17, Try.ntmps17
    go_wp2
    go_quiet ((go_at_call 20; (first | with_reducible exact Calls.quiet_of_same (clamp_is hud Hd) | with_reducible exact Calls.quiet_of_same (clamp_is hun Hn) | with_reducible exact Calls.quiet_of_same (clamp_is hub Hb) | with_reducible exact Calls.quiet_of_same (clamp_is hua Ha) | with_reducible exact Calls.quiet_of_same (clamp_is hue He))))
    go_wp2
    go_ret
    exact ⟨ret_bool (by unfold winB; rw [decide_eq_false (fun q => hr.out q.2.2.2.1)]), below_drewN (((Below.refl _ _).alloc (Nat.le_refl _) _).alloc (by simp) _) _⟩
  by_cases ce : 0 ≤ ue ∧ ue ≤ le
  case neg =>
    have Hd := Lib.hid (clamp_in cd)
    have Hn := Lib.hid (clamp_in cn)
    have Hb := Lib.hid (clamp_in cb)
    have Ha := Lib.hid (clamp_in ca)
    have q := clamp_out ce
    have hr := Lib.hid ce
    obtain ⟨ke, hke⟩ : ∃ k, clampI ue le = k := ⟨_, rfl⟩
    rw [hke] at q
    have He := Lib.hid hke
    clear hke
    clear cd cn cb ca ce
    go_enter Try.func17, Try.ntmps17
    go_wp2
    go_quiet ((go_at_call 20; (first | with_reducible exact Calls.quiet_of_same (clamp_is hud Hd) | with_reducible exact Calls.quiet_of_same (clamp_is hun Hn) | with_reducible exact Calls.quiet_of_same (clamp_is hub Hb) | with_reducible exact Calls.quiet_of_same (clamp_is hua Ha) | with_reducible exact Calls.quiet_of_same (clamp_is hue He))))
    go_wp2
    go_ret
    exact ⟨ret_bool (by unfold winB; rw [decide_eq_false (fun q => hr.out q.2.2.2.2)]), below_drewN (((Below.refl _ _).alloc (Nat.le_refl _) _).alloc (by simp) _) _⟩
  have Hd := Lib.hid (clamp_in cd)
  have Hn := Lib.hid (clamp_in cn)
  have Hb := Lib.hid (clamp_in cb)
  have Ha := Lib.hid (clamp_in ca)
  have He := Lib.hid (clamp_in ce)
  have hr := Lib.hid (And.intro cd (And.intro cn (And.intro cb (And.intro ca ce))))
  clear cd cn cb ca ce
  go_enter Try.func17, Try.ntmps17
  go_wp2
  go_quiet ((go_at_call 20; (first | with_reducible exact Calls.quiet_of_same (clamp_is hud Hd) | with_reducible exact Calls.quiet_of_same (clamp_is hun Hn) | with_reducible exact Calls.quiet_of_same (clamp_is hub Hb) | with_reducible exact Calls.quiet_of_same (clamp_is hua Ha) | with_reducible exact Calls.quiet_of_same (clamp_is hue He))))
  go_wp2
  go_ret
  exact ⟨ret_bool (by unfold winB; rw [decide_eq_true hr.out]), below_drewN (((Below.refl _ _).alloc (Nat.le_refl _) _).alloc (by simp) _) _⟩

end Go.Proofs.Ythkpcanlimhhfaa.Lim
