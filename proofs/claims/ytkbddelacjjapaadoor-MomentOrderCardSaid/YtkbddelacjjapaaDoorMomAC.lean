/-
  Package moment: the law MomentOrder.
-/
import Derived.Test.YtkbddelacjjapaaDoorMomAB
import Derived.Test.YtkbddelacjjapaaDoorMomP
namespace Go.Proofs.YtkbddelacjjapaaDoor.Mom
open Go.RowKit
set_option linter.unusedVariables false
set_option linter.unusedSimpArgs false
open Go.Proofs.YtkbddelacjjapaaDoor.Cal
theorem zR_cases (k d n o off : Int) : (∃ e, e ≠ 0 ∧ zR k d n o off = (0, 0, 0, 0, e)) ∨ (∃ a b c g, zR k d n o off = (a, b, c, g, 0)) := by
  unfold zR
  split
  · split
    · split
      · unfold dR
        split
        · exact .inl ⟨2, by decide, rfl⟩
        · exact .inr ⟨_, _, _, _, rfl⟩
      · exact .inl ⟨2, by decide, rfl⟩
    · exact .inl ⟨6, by decide, rfl⟩
  · exact .inl ⟨1, by decide, rfl⟩
theorem mC_cong {d n o d' n' o' e m p : Int} (h1 : uD d' n' o' = uD d n o) (h2 : uN n' o' = uN n o) : mC d' n' o' e m p = mC d n o e m p := by unfold mC; rw [h1, h2]
theorem mC_self {d n o d' n' o' : Int} (h1 : uD d' n' o' = uD d n o) (h2 : uN n' o' = uN n o) : mC d n o d' n' o' = 0 := by
  unfold mC; rw [h1, h2, if_pos ((icmp_0 _ _).2 rfl)]; exact (icmp_0 _ _).2 rfl
set_option maxRecDepth 100000 in
set_option maxHeartbeats 8000000 in
theorem order_bad (k1 d1 n1 o1 k2 d2 n2 o2 k3 d3 n3 o3 off : Int) (v1 v2 v3 : Bool) (w : World) (HAW : Hid (∀ w' : World, Below w.heap.size w w' → Calls Tryd.prog 7 #[] w' fun e w'' => e = .returned (.bool true) ∧ Below w'.heap.size w' w'')) (HV1 : Hid (∀ w, Calls Tryd.prog 6 #[.agg #[.int .i64 k1, .int .i64 d1, .int .i64 n1, .int .i64 o1]] w fun e w' => e = .returned (.bool v1) ∧ Below w.heap.size w w')) (HV2 : Hid (∀ w, Calls Tryd.prog 6 #[.agg #[.int .i64 k2, .int .i64 d2, .int .i64 n2, .int .i64 o2]] w fun e w' => e = .returned (.bool v2) ∧ Below w.heap.size w w')) (HV3 : Hid (∀ w, Calls Tryd.prog 6 #[.agg #[.int .i64 k3, .int .i64 d3, .int .i64 n3, .int .i64 o3]] w fun e w' => e = .returned (.bool v3) ∧ Below w.heap.size w w')) (hv : (v1 && v2 && v3) = false) :
    Calls Tryd.prog 3 #[.agg #[.int .i64 k1, .int .i64 d1, .int .i64 n1, .int .i64 o1], .agg #[.int .i64 k2, .int .i64 d2, .int .i64 n2, .int .i64 o2], .agg #[.int .i64 k3, .int .i64 d3, .int .i64 n3, .int .i64 o3], .int .i64 off] w fun e w' => e = .returned (.bool true) ∧ Below w.heap.size w w' := by
  have T := T3.new w k1 d1 n1 o1 k2 d2 n2 o2 k3 d3 n3 o3
  cases v1 <;> cases v2 <;> cases v3 <;> first
    | (exact absurd hv (by decide))
    | (clear hv
       go_enter Tryd.func3, Tryd.ntmps3
       go_wp2_with (first | (go_at_call 6; (with_reducible refine (HV1.out _).mono ?_); rintro e w1 ⟨rfl, hX⟩; have T := T3.step hX T; clear hX; obtain ⟨a0, a1, a2, a3, b0, b1, b2, b3, c0, c1, c2, c3⟩ := T.cells) | (go_at_call 6; (with_reducible refine (HV2.out _).mono ?_); rintro e w1 ⟨rfl, hX⟩; have T := T3.step hX T; clear hX; obtain ⟨a0, a1, a2, a3, b0, b1, b2, b3, c0, c1, c2, c3⟩ := T.cells) | (go_at_call 6; (with_reducible refine (HV3.out _).mono ?_); rintro e w1 ⟨rfl, hX⟩; have T := T3.step hX T; clear hX; obtain ⟨a0, a1, a2, a3, b0, b1, b2, b3, c0, c1, c2, c3⟩ := T.cells) | (go_at_call 7; (with_reducible refine (HAW.out _ T.bel).mono ?_); rintro e w2 ⟨rfl, hX⟩; have bl := T.bel.trans (hX.mono T.bel.size); clear hX))
       go_ret
       exact ⟨rfl, bl⟩)
theorem order_walk (k1 d1 n1 o1 k2 d2 n2 o2 k3 d3 n3 o3 off : Int) (w : World) (ht : Tb w) :
    Calls Tryd.prog 3 #[.agg #[.int .i64 k1, .int .i64 d1, .int .i64 n1, .int .i64 o1], .agg #[.int .i64 k2, .int .i64 d2, .int .i64 n2, .int .i64 o2], .agg #[.int .i64 k3, .int .i64 d3, .int .i64 n3, .int .i64 o3], .int .i64 off] w fun e w' => e = .returned (.bool true) ∧ Below w.heap.size w w' := by
  have HAW := Lib.hid (fun (w' : World) (hb : Below w.heap.size w w') => awake_any w' (ht.next hb))
  cases hv : (vT k1 d1 n1 o1 && vT k2 d2 n2 o2 && vT k3 d3 n3 o3) with
  | false => exact order_bad k1 d1 n1 o1 k2 d2 n2 o2 k3 d3 n3 o3 off _ _ _ w HAW (Lib.hid fun w => valid_any k1 d1 n1 o1 w) (Lib.hid fun w => valid_any k2 d2 n2 o2 w) (Lib.hid fun w => valid_any k3 d3 n3 o3 w) hv
  | true =>
    rw [Bool.and_eq_true, Bool.and_eq_true] at hv
    obtain ⟨⟨t1, t2⟩, t3⟩ := hv
    have h1 : vP k1 d1 n1 o1 := of_decide_eq_true t1
    have h2 : vP k2 d2 n2 o2 := of_decide_eq_true t2
    have h3 : vP k3 d3 n3 o3 := of_decide_eq_true t3
    have m1 := nP_of h1
    have m2 := nP_of h2
    have m3 := nP_of h3
    obtain ⟨L1, L2, L3⟩ := tC_laws (k1 := k1) (k2 := k2) (k3 := k3) m1 m2 m3
    have LZ := tC_zero h1 h2
    have LY := tC_zero h2 h3
    have HT : ∃ s1 s2 : ByteArray, ((tC k1 d1 n1 o1 k2 d2 n2 o2 ≠ 0 ∧ s1 ≠ s2 ∧ (¬ k1 = k2 ∨ (k1 = k2 ∧ ¬ d1 = d2) ∨ (k1 = k2 ∧ d1 = d2 ∧ ¬ n1 = n2) ∨ (k1 = k2 ∧ d1 = d2 ∧ n1 = n2 ∧ ¬ o1 = o2))) ∨ (tC k1 d1 n1 o1 k2 d2 n2 o2 = 0 ∧ s1 = s2 ∧ k1 = k2 ∧ d1 = d2 ∧ n1 = n2 ∧ o1 = o2)) ∧ (∀ w, Tb w → Calls Tryd.prog 9 #[.agg #[.int .i64 k1, .int .i64 d1, .int .i64 n1, .int .i64 o1]] w fun e w' => e = .returned (.string s1) ∧ Below w.heap.size w w') ∧ (∀ w, Tb w → Calls Tryd.prog 9 #[.agg #[.int .i64 k2, .int .i64 d2, .int .i64 n2, .int .i64 o2]] w fun e w' => e = .returned (.string s2) ∧ Below w.heap.size w w') := by
      by_cases hE : k1 = k2 ∧ d1 = d2 ∧ n1 = n2 ∧ o1 = o2
      · obtain ⟨a, y, m, dd, n, e1, e2, hb, hn, hT⟩ := text_fn h1
        refine ⟨_, _, .inr ⟨LZ.2 hE, rfl, hE⟩, hT, ?_⟩
        obtain ⟨q1, q2, q3, q4⟩ := hE
        subst q1 q2 q3 q4
        exact hT
      · obtain ⟨s1, s2, hne, c1, c2⟩ := texts_two h1 h2 hE
        refine ⟨s1, s2, .inl ⟨fun h => hE (LZ.1 h), hne, ?_⟩, c1, c2⟩
        by_cases q1 : k1 = k2
        · by_cases q2 : d1 = d2
          · by_cases q3 : n1 = n2
            · exact .inr (.inr (.inr ⟨q1, q2, q3, fun q4 => hE ⟨q1, q2, q3, q4⟩⟩))
            · exact .inr (.inr (.inl ⟨q1, q2, q3⟩))
          · exact .inr (.inl ⟨q1, q2⟩)
        · exact .inl q1
    obtain ⟨s1, s2, HD, C1, C2⟩ := HT
    have HZ : Hid ((∃ ze : Int, ze ≠ 0 ∧ Hid (∀ w, Calls Tryd.prog 10 #[.agg #[.int .i64 k1, .int .i64 d1, .int .i64 n1, .int .i64 o1], .int .i64 off] w fun e w' => e = .returned (.tuple #[.agg #[.int .i64 0, .int .i64 0, .int .i64 0, .int .i64 0], .int .i64 ze]) ∧ Below w.heap.size w w')) ∨ (∃ ub uc ug : Int, Hid (∀ w, Calls Tryd.prog 10 #[.agg #[.int .i64 k1, .int .i64 d1, .int .i64 n1, .int .i64 o1], .int .i64 off] w fun e w' => e = .returned (.tuple #[.agg #[.int .i64 4, .int .i64 ub, .int .i64 uc, .int .i64 ug], .int .i64 0]) ∧ Below w.heap.size w w') ∧ Hid (∀ w, Calls Tryd.prog 11 #[.agg #[.int .i64 k1, .int .i64 d1, .int .i64 n1, .int .i64 o1], .agg #[.int .i64 4, .int .i64 ub, .int .i64 uc, .int .i64 ug]] w fun e w' => e = .returned (.bool true) ∧ Below w.heap.size w w') ∧ ((Hid (∀ w, Calls Tryd.prog 11 #[.agg #[.int .i64 k1, .int .i64 d1, .int .i64 n1, .int .i64 o1], .agg #[.int .i64 k2, .int .i64 d2, .int .i64 n2, .int .i64 o2]] w fun e w' => e = .returned (.bool true) ∧ Below w.heap.size w w') ∧ Hid (∀ w, Calls Tryd.prog 11 #[.agg #[.int .i64 4, .int .i64 ub, .int .i64 uc, .int .i64 ug], .agg #[.int .i64 k2, .int .i64 d2, .int .i64 n2, .int .i64 o2]] w fun e w' => e = .returned (.bool true) ∧ Below w.heap.size w w')) ∨ (Hid (∀ w, Calls Tryd.prog 11 #[.agg #[.int .i64 k1, .int .i64 d1, .int .i64 n1, .int .i64 o1], .agg #[.int .i64 k2, .int .i64 d2, .int .i64 n2, .int .i64 o2]] w fun e w' => e = .returned (.bool false) ∧ Below w.heap.size w w') ∧ Hid (∀ w, Calls Tryd.prog 11 #[.agg #[.int .i64 4, .int .i64 ub, .int .i64 uc, .int .i64 ug], .agg #[.int .i64 k2, .int .i64 d2, .int .i64 n2, .int .i64 o2]] w fun e w' => e = .returned (.bool false) ∧ Below w.heap.size w w') ∧ Hid (∀ w, Calls Tryd.prog 8 #[.agg #[.int .i64 4, .int .i64 ub, .int .i64 uc, .int .i64 ug], .agg #[.int .i64 k2, .int .i64 d2, .int .i64 n2, .int .i64 o2]] w fun e w' => e = .returned (.int .i64 (tC k1 d1 n1 o1 k2 d2 n2 o2)) ∧ Below w.heap.size w w'))))) := by
      refine Lib.hid ?_
      rcases zR_cases k1 d1 n1 o1 off with ⟨e, he, hz⟩ | ⟨a, b, c, g, hz⟩
      · refine .inl ⟨e, he, Lib.hid fun w => ?_⟩
        have := zone_any k1 d1 n1 o1 off w
        rw [hz] at this
        exact this
      · obtain ⟨-, hk, rfl, mu, u1, u2⟩ := zone_moment hz
        refine .inr ⟨b, c, g, Lib.hid fun w => ?_, Lib.hid fun w => ?_, ?_⟩
        · have := zone_any k1 d1 n1 o1 off w
          rw [hz] at this
          exact this
        · have := equal_any k1 d1 n1 o1 4 b c g w m1 mu
          rwa [show eqT k1 d1 n1 o1 4 b c g = true by unfold eqT; exact decide_eq_true ⟨hk, mC_self u1 u2⟩] at this
        · have e1 : eqT 4 b c g k2 d2 n2 o2 = eqT k1 d1 n1 o1 k2 d2 n2 o2 := by unfold eqT; rw [mC_cong u1 u2, hk]
          cases hq : eqT k1 d1 n1 o1 k2 d2 n2 o2 with
          | true =>
            refine .inl ⟨Lib.hid fun w => ?_, Lib.hid fun w => ?_⟩
            · have := equal_any k1 d1 n1 o1 k2 d2 n2 o2 w m1 m2
              rwa [hq] at this
            · have := equal_any 4 b c g k2 d2 n2 o2 w mu m2
              rwa [e1, hq] at this
          | false =>
            refine .inr ⟨Lib.hid fun w => ?_, Lib.hid fun w => ?_, Lib.hid fun w => ?_⟩
            · have := equal_any k1 d1 n1 o1 k2 d2 n2 o2 w m1 m2
              rwa [hq] at this
            · have := equal_any 4 b c g k2 d2 n2 o2 w mu m2
              rwa [e1, hq] at this
            · have := tcmp_any 4 b c g k2 d2 n2 o2 w mu m2
              rwa [show tC 4 b c g k2 d2 n2 o2 = tC k1 d1 n1 o1 k2 d2 n2 o2 by
                unfold tC
                rw [mC_cong u1 u2, hk]
                by_cases q : icmp 4 k2 = 0
                · rw [if_pos q, if_pos q]
                  have hm : mC d1 n1 o1 d2 n2 o2 ≠ 0 := fun h => by
                    unfold eqT at hq
                    rw [decide_eq_true ⟨by rw [hk]; exact (icmp_0 _ _).1 q, h⟩] at hq
                    cases hq
                  rw [if_neg hm, if_neg hm]
                · rw [if_neg q, if_neg q]] at this
    refine order_any k1 d1 n1 o1 k2 d2 n2 o2 k3 d3 n3 o3 off (tC k1 d1 n1 o1 k2 d2 n2 o2) (tC k2 d2 n2 o2 k3 d3 n3 o3) (tC k1 d1 n1 o1 k3 d3 n3 o3) s1 s2 w HAW
      (Lib.hid fun w => by have := valid_any k1 d1 n1 o1 w; rwa [t1] at this) (Lib.hid fun w => by have := valid_any k2 d2 n2 o2 w; rwa [t2] at this) (Lib.hid fun w => by have := valid_any k3 d3 n3 o3 w; rwa [t3] at this)
      (Lib.hid fun w => tcmp_any _ _ _ _ _ _ _ _ w m1 m2) (Lib.hid fun w => tcmp_any _ _ _ _ _ _ _ _ w m2 m3) (Lib.hid fun w => tcmp_any _ _ _ _ _ _ _ _ w m1 m3) (Lib.hid fun w => by have := tcmp_any k2 d2 n2 o2 k1 d1 n1 o1 w m2 m1; rwa [show tC k2 d2 n2 o2 k1 d1 n1 o1 = -(tC k1 d1 n1 o1 k2 d2 n2 o2) by omega] at this)
      (Lib.hid fun w' hb => C1 w' (ht.next hb)) (Lib.hid fun w' hb => C2 w' (ht.next hb)) (Lib.hid HD) (Lib.hid ?_) HZ (by omega) (by omega) (decide_eq_false (by omega)) (decide_eq_false (by omega)) (IntWalk.i64_in _ (by omega))
    generalize tC k1 d1 n1 o1 k2 d2 n2 o2 = x at *
    generalize tC k2 d2 n2 o2 k3 d3 n3 o3 = y at *
    generalize tC k1 d1 n1 o1 k3 d3 n3 o3 = z at *
    by_cases hx : 0 < x
    · exact .inl hx
    · by_cases hy : 0 < y
      · exact .inr (.inl ⟨by omega, hy⟩)
      · obtain ⟨l1, l2⟩ := L3 (by omega) (by omega)
        by_cases hz : z = 0
        · obtain ⟨e1, e2⟩ := l2 hz
          exact .inr (.inr (.inr ⟨e1, e2, hz⟩))
        · exact .inr (.inr (.inl ⟨by omega, by omega, by omega⟩))
end Go.Proofs.YtkbddelacjjapaaDoor.Mom
