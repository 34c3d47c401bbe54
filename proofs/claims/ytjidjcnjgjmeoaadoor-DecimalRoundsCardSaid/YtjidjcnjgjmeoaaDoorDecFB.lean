/-
  Package decimal: whether a quotient is rounded away from zero, on both sides.
-/
import Derived.Test.YtjidjcnjgjmeoaaDoorDecFA
import Derived.BigQuiet
namespace Go.Proofs.YtjidjcnjgjmeoaaDoor.Dec
open Go.RowKit
set_option linter.unusedVariables false
set_option linter.unusedSimpArgs false
open Go.Proofs.YtjidjcnjgjmeoaaDoor.Dig

theorem last_dig {q : Nat} (hq : 0 < q) (h : (S q).size - 1 < (S q).size) : ((S q)[(S q).size - 1]'h).toNat = 48 + q % 10 := by
  have e := num_step hq
  have hl : (S q).size = (num (q / 10)).length + 1 := by rw [S_size, e, List.length_append]; rfl
  have hd : (S q).data.toList = num (q / 10) ++ [dgt (q % 10)] := e
  have hg : (S q)[(S q).size - 1]'h = dgt (q % 10) := by
    have h2 : (S q).data.toList[(S q).size - 1]? = some (dgt (q % 10)) := by
      rw [hd, hl, Nat.add_sub_cancel, List.getElem?_append_right (Nat.le_refl _), Nat.sub_self]; rfl
    have h3 : (S q).data.toList[(S q).size - 1]? = some ((S q)[(S q).size - 1]'h) := by
      rw [List.getElem?_eq_getElem (by show _ < (S q).data.toList.length; rw [Array.length_toList]; exact h)]; rfl
    exact Option.some.inj (h3.symm.trans h2)
  rw [hg]
  have : q % 10 < 10 := Nat.mod_lt _ (by omega)
  generalize q % 10 = d at *
  unfold dgt
  simp <;> omega
theorem size_dbl {r k : Nat} (h : (S r).size ≤ k) : (S (r + r)).size ≤ k + 1 := by
  rw [S_size, num_len] at *
  rw [Nat.pow_succ]; omega
theorem up_0 {ng : Bool} {q y : Nat} {m : Int} : upB ng q 0 y m = false := if_pos rfl
theorem up_v {ng : Bool} {q r y : Nat} {m : Int} (hr : 0 < r) : upB ng q r y m = if m = 0 then ng else if m = 1 then !ng else if m = 2 then false else if m = 3 then decide (y < r + r) || (decide (r + r = y) && decide (q % 2 = 1)) else decide (y ≤ r + r) := if_neg (by omega)
set_option maxRecDepth 100000 in
set_option maxHeartbeats 8000000 in
theorem raises_z (q r y : Nat) (g : Bool) (w : World) (m : Int) (hr : r = 0) : Calls Tryd.prog 19 #[.string (S q), .string (S r), .string (S y), .bool g, .int .i64 m] w fun e w' => e = .returned (.bool (upB g q r y m)) ∧ Below w.heap.size w w' := by
  rw [hr, up_0]
  have e1 : (S 0).toList = [] := tl_nil rfl
  clear hr
  generalize S 0 = R at *
  go_enter Tryd.func19, Tryd.ntmps19
  go_wp2
  go_ret
  exact ⟨rfl, Below.refl _ _⟩
set_option maxRecDepth 100000 in
set_option maxHeartbeats 8000000 in
theorem raises_0l (q r y : Nat) (g : Bool) (w : World) (hr : 0 < r) (hry : r < y) (hy : (S y).size ≤ 600) (hc : r + r < y)  : Calls Tryd.prog 19 #[.string (S q), .string (S r), .string (S y), .bool g, .int .i64 0] w fun e w' => e = .returned (.bool (upB g q r y 0)) ∧ Below w.heap.size w w' := by
  have hv : upB g q r y 0 = g := by
    rw [up_v hr]
    skip
    rfl
  rw [hv]
  have hrs : (S r).size ≤ 600 := S_less hy (Nat.le_of_lt hry)
  have e1 := tl_ne (S_pos hr)
  have e2 := tl_ne' (S_pos hr)
  have HS := Lib.hid (fun w => sub_any y r w hy hrs)
  rw [subE_0 (Nat.le_of_lt hry)] at HS
  have hds : (S (y - r)).size ≤ 600 := S_less hy (Nat.sub_le _ _)
  have HC := Lib.hid (fun w => cmp_any r (y - r) w (by omega) (by omega))
  rw [half_rest hry, show cmpN (r + r) y = -1 from cmpN_lt hc] at HC
  generalize S (y - r) = D at *
  clear hv hr hry hy hc hrs hds
  generalize S r = R at *
  generalize S y = Y at *
  generalize S q = Q at *
  go_enter Tryd.func19, Tryd.ntmps19
  go_wp2_with (first | (go_at_call 34; (with_reducible refine (HS.out _).mono ?_); rintro e w1 ⟨rfl, bl⟩) | (go_at_call 33; (with_reducible refine (HC.out _).mono ?_); rintro e w2 ⟨rfl, rfl⟩))
  go_ret
  exact ⟨rfl, bl⟩
set_option maxRecDepth 100000 in
set_option maxHeartbeats 8000000 in
theorem raises_0e (q r y : Nat) (g : Bool) (w : World) (hr : 0 < r) (hry : r < y) (hy : (S y).size ≤ 600) (hc : r + r = y)  : Calls Tryd.prog 19 #[.string (S q), .string (S r), .string (S y), .bool g, .int .i64 0] w fun e w' => e = .returned (.bool (upB g q r y 0)) ∧ Below w.heap.size w w' := by
  have hv : upB g q r y 0 = g := by
    rw [up_v hr]
    skip
    rfl
  rw [hv]
  have hrs : (S r).size ≤ 600 := S_less hy (Nat.le_of_lt hry)
  have e1 := tl_ne (S_pos hr)
  have e2 := tl_ne' (S_pos hr)
  have HS := Lib.hid (fun w => sub_any y r w hy hrs)
  rw [subE_0 (Nat.le_of_lt hry)] at HS
  have hds : (S (y - r)).size ≤ 600 := S_less hy (Nat.sub_le _ _)
  have HC := Lib.hid (fun w => cmp_any r (y - r) w (by omega) (by omega))
  rw [half_rest hry, show cmpN (r + r) y = 0 from (by rw [hc, cmpN_eq])] at HC
  generalize S (y - r) = D at *
  clear hv hr hry hy hc hrs hds
  generalize S r = R at *
  generalize S y = Y at *
  generalize S q = Q at *
  go_enter Tryd.func19, Tryd.ntmps19
  go_wp2_with (first | (go_at_call 34; (with_reducible refine (HS.out _).mono ?_); rintro e w1 ⟨rfl, bl⟩) | (go_at_call 33; (with_reducible refine (HC.out _).mono ?_); rintro e w2 ⟨rfl, rfl⟩))
  go_ret
  exact ⟨rfl, bl⟩
set_option maxRecDepth 100000 in
set_option maxHeartbeats 8000000 in
theorem raises_0g (q r y : Nat) (g : Bool) (w : World) (hr : 0 < r) (hry : r < y) (hy : (S y).size ≤ 600) (hc : y < r + r)  : Calls Tryd.prog 19 #[.string (S q), .string (S r), .string (S y), .bool g, .int .i64 0] w fun e w' => e = .returned (.bool (upB g q r y 0)) ∧ Below w.heap.size w w' := by
  have hv : upB g q r y 0 = g := by
    rw [up_v hr]
    skip
    rfl
  rw [hv]
  have hrs : (S r).size ≤ 600 := S_less hy (Nat.le_of_lt hry)
  have e1 := tl_ne (S_pos hr)
  have e2 := tl_ne' (S_pos hr)
  have HS := Lib.hid (fun w => sub_any y r w hy hrs)
  rw [subE_0 (Nat.le_of_lt hry)] at HS
  have hds : (S (y - r)).size ≤ 600 := S_less hy (Nat.sub_le _ _)
  have HC := Lib.hid (fun w => cmp_any r (y - r) w (by omega) (by omega))
  rw [half_rest hry, show cmpN (r + r) y = 1 from cmpN_gt hc] at HC
  generalize S (y - r) = D at *
  clear hv hr hry hy hc hrs hds
  generalize S r = R at *
  generalize S y = Y at *
  generalize S q = Q at *
  go_enter Tryd.func19, Tryd.ntmps19
  go_wp2_with (first | (go_at_call 34; (with_reducible refine (HS.out _).mono ?_); rintro e w1 ⟨rfl, bl⟩) | (go_at_call 33; (with_reducible refine (HC.out _).mono ?_); rintro e w2 ⟨rfl, rfl⟩))
  go_ret
  exact ⟨rfl, bl⟩
set_option maxRecDepth 100000 in
set_option maxHeartbeats 8000000 in
theorem raises_1l (q r y : Nat) (g : Bool) (w : World) (hr : 0 < r) (hry : r < y) (hy : (S y).size ≤ 600) (hc : r + r < y)  : Calls Tryd.prog 19 #[.string (S q), .string (S r), .string (S y), .bool g, .int .i64 1] w fun e w' => e = .returned (.bool (upB g q r y 1)) ∧ Below w.heap.size w w' := by
  have hv : upB g q r y 1 = !g := by
    rw [up_v hr]
    skip
    rfl
  rw [hv]
  have hrs : (S r).size ≤ 600 := S_less hy (Nat.le_of_lt hry)
  have e1 := tl_ne (S_pos hr)
  have e2 := tl_ne' (S_pos hr)
  have HS := Lib.hid (fun w => sub_any y r w hy hrs)
  rw [subE_0 (Nat.le_of_lt hry)] at HS
  have hds : (S (y - r)).size ≤ 600 := S_less hy (Nat.sub_le _ _)
  have HC := Lib.hid (fun w => cmp_any r (y - r) w (by omega) (by omega))
  rw [half_rest hry, show cmpN (r + r) y = -1 from cmpN_lt hc] at HC
  generalize S (y - r) = D at *
  clear hv hr hry hy hc hrs hds
  generalize S r = R at *
  generalize S y = Y at *
  generalize S q = Q at *
  go_enter Tryd.func19, Tryd.ntmps19
  go_wp2_with (first | (go_at_call 34; (with_reducible refine (HS.out _).mono ?_); rintro e w1 ⟨rfl, bl⟩) | (go_at_call 33; (with_reducible refine (HC.out _).mono ?_); rintro e w2 ⟨rfl, rfl⟩))
  go_ret
  exact ⟨rfl, bl⟩
set_option maxRecDepth 100000 in
set_option maxHeartbeats 8000000 in
theorem raises_1e (q r y : Nat) (g : Bool) (w : World) (hr : 0 < r) (hry : r < y) (hy : (S y).size ≤ 600) (hc : r + r = y)  : Calls Tryd.prog 19 #[.string (S q), .string (S r), .string (S y), .bool g, .int .i64 1] w fun e w' => e = .returned (.bool (upB g q r y 1)) ∧ Below w.heap.size w w' := by
  have hv : upB g q r y 1 = !g := by
    rw [up_v hr]
    skip
    rfl
  rw [hv]
  have hrs : (S r).size ≤ 600 := S_less hy (Nat.le_of_lt hry)
  have e1 := tl_ne (S_pos hr)
  have e2 := tl_ne' (S_pos hr)
  have HS := Lib.hid (fun w => sub_any y r w hy hrs)
  rw [subE_0 (Nat.le_of_lt hry)] at HS
  have hds : (S (y - r)).size ≤ 600 := S_less hy (Nat.sub_le _ _)
  have HC := Lib.hid (fun w => cmp_any r (y - r) w (by omega) (by omega))
  rw [half_rest hry, show cmpN (r + r) y = 0 from (by rw [hc, cmpN_eq])] at HC
  generalize S (y - r) = D at *
  clear hv hr hry hy hc hrs hds
  generalize S r = R at *
  generalize S y = Y at *
  generalize S q = Q at *
  go_enter Tryd.func19, Tryd.ntmps19
  go_wp2_with (first | (go_at_call 34; (with_reducible refine (HS.out _).mono ?_); rintro e w1 ⟨rfl, bl⟩) | (go_at_call 33; (with_reducible refine (HC.out _).mono ?_); rintro e w2 ⟨rfl, rfl⟩))
  go_ret
  exact ⟨rfl, bl⟩
set_option maxRecDepth 100000 in
set_option maxHeartbeats 8000000 in
theorem raises_1g (q r y : Nat) (g : Bool) (w : World) (hr : 0 < r) (hry : r < y) (hy : (S y).size ≤ 600) (hc : y < r + r)  : Calls Tryd.prog 19 #[.string (S q), .string (S r), .string (S y), .bool g, .int .i64 1] w fun e w' => e = .returned (.bool (upB g q r y 1)) ∧ Below w.heap.size w w' := by
  have hv : upB g q r y 1 = !g := by
    rw [up_v hr]
    skip
    rfl
  rw [hv]
  have hrs : (S r).size ≤ 600 := S_less hy (Nat.le_of_lt hry)
  have e1 := tl_ne (S_pos hr)
  have e2 := tl_ne' (S_pos hr)
  have HS := Lib.hid (fun w => sub_any y r w hy hrs)
  rw [subE_0 (Nat.le_of_lt hry)] at HS
  have hds : (S (y - r)).size ≤ 600 := S_less hy (Nat.sub_le _ _)
  have HC := Lib.hid (fun w => cmp_any r (y - r) w (by omega) (by omega))
  rw [half_rest hry, show cmpN (r + r) y = 1 from cmpN_gt hc] at HC
  generalize S (y - r) = D at *
  clear hv hr hry hy hc hrs hds
  generalize S r = R at *
  generalize S y = Y at *
  generalize S q = Q at *
  go_enter Tryd.func19, Tryd.ntmps19
  go_wp2_with (first | (go_at_call 34; (with_reducible refine (HS.out _).mono ?_); rintro e w1 ⟨rfl, bl⟩) | (go_at_call 33; (with_reducible refine (HC.out _).mono ?_); rintro e w2 ⟨rfl, rfl⟩))
  go_ret
  exact ⟨rfl, bl⟩
set_option maxRecDepth 100000 in
set_option maxHeartbeats 8000000 in
theorem raises_2l (q r y : Nat) (g : Bool) (w : World) (hr : 0 < r) (hry : r < y) (hy : (S y).size ≤ 600) (hc : r + r < y)  : Calls Tryd.prog 19 #[.string (S q), .string (S r), .string (S y), .bool g, .int .i64 2] w fun e w' => e = .returned (.bool (upB g q r y 2)) ∧ Below w.heap.size w w' := by
  have hv : upB g q r y 2 = false := by
    rw [up_v hr]
    skip
    rfl
  rw [hv]
  have hrs : (S r).size ≤ 600 := S_less hy (Nat.le_of_lt hry)
  have e1 := tl_ne (S_pos hr)
  have e2 := tl_ne' (S_pos hr)
  have HS := Lib.hid (fun w => sub_any y r w hy hrs)
  rw [subE_0 (Nat.le_of_lt hry)] at HS
  have hds : (S (y - r)).size ≤ 600 := S_less hy (Nat.sub_le _ _)
  have HC := Lib.hid (fun w => cmp_any r (y - r) w (by omega) (by omega))
  rw [half_rest hry, show cmpN (r + r) y = -1 from cmpN_lt hc] at HC
  generalize S (y - r) = D at *
  clear hv hr hry hy hc hrs hds
  generalize S r = R at *
  generalize S y = Y at *
  generalize S q = Q at *
  go_enter Tryd.func19, Tryd.ntmps19
  go_wp2_with (first | (go_at_call 34; (with_reducible refine (HS.out _).mono ?_); rintro e w1 ⟨rfl, bl⟩) | (go_at_call 33; (with_reducible refine (HC.out _).mono ?_); rintro e w2 ⟨rfl, rfl⟩))
  go_ret
  exact ⟨rfl, bl⟩
set_option maxRecDepth 100000 in
set_option maxHeartbeats 8000000 in
theorem raises_2e (q r y : Nat) (g : Bool) (w : World) (hr : 0 < r) (hry : r < y) (hy : (S y).size ≤ 600) (hc : r + r = y)  : Calls Tryd.prog 19 #[.string (S q), .string (S r), .string (S y), .bool g, .int .i64 2] w fun e w' => e = .returned (.bool (upB g q r y 2)) ∧ Below w.heap.size w w' := by
  have hv : upB g q r y 2 = false := by
    rw [up_v hr]
    skip
    rfl
  rw [hv]
  have hrs : (S r).size ≤ 600 := S_less hy (Nat.le_of_lt hry)
  have e1 := tl_ne (S_pos hr)
  have e2 := tl_ne' (S_pos hr)
  have HS := Lib.hid (fun w => sub_any y r w hy hrs)
  rw [subE_0 (Nat.le_of_lt hry)] at HS
  have hds : (S (y - r)).size ≤ 600 := S_less hy (Nat.sub_le _ _)
  have HC := Lib.hid (fun w => cmp_any r (y - r) w (by omega) (by omega))
  rw [half_rest hry, show cmpN (r + r) y = 0 from (by rw [hc, cmpN_eq])] at HC
  generalize S (y - r) = D at *
  clear hv hr hry hy hc hrs hds
  generalize S r = R at *
  generalize S y = Y at *
  generalize S q = Q at *
  go_enter Tryd.func19, Tryd.ntmps19
  go_wp2_with (first | (go_at_call 34; (with_reducible refine (HS.out _).mono ?_); rintro e w1 ⟨rfl, bl⟩) | (go_at_call 33; (with_reducible refine (HC.out _).mono ?_); rintro e w2 ⟨rfl, rfl⟩))
  go_ret
  exact ⟨rfl, bl⟩
set_option maxRecDepth 100000 in
set_option maxHeartbeats 8000000 in
theorem raises_2g (q r y : Nat) (g : Bool) (w : World) (hr : 0 < r) (hry : r < y) (hy : (S y).size ≤ 600) (hc : y < r + r)  : Calls Tryd.prog 19 #[.string (S q), .string (S r), .string (S y), .bool g, .int .i64 2] w fun e w' => e = .returned (.bool (upB g q r y 2)) ∧ Below w.heap.size w w' := by
  have hv : upB g q r y 2 = false := by
    rw [up_v hr]
    skip
    rfl
  rw [hv]
  have hrs : (S r).size ≤ 600 := S_less hy (Nat.le_of_lt hry)
  have e1 := tl_ne (S_pos hr)
  have e2 := tl_ne' (S_pos hr)
  have HS := Lib.hid (fun w => sub_any y r w hy hrs)
  rw [subE_0 (Nat.le_of_lt hry)] at HS
  have hds : (S (y - r)).size ≤ 600 := S_less hy (Nat.sub_le _ _)
  have HC := Lib.hid (fun w => cmp_any r (y - r) w (by omega) (by omega))
  rw [half_rest hry, show cmpN (r + r) y = 1 from cmpN_gt hc] at HC
  generalize S (y - r) = D at *
  clear hv hr hry hy hc hrs hds
  generalize S r = R at *
  generalize S y = Y at *
  generalize S q = Q at *
  go_enter Tryd.func19, Tryd.ntmps19
  go_wp2_with (first | (go_at_call 34; (with_reducible refine (HS.out _).mono ?_); rintro e w1 ⟨rfl, bl⟩) | (go_at_call 33; (with_reducible refine (HC.out _).mono ?_); rintro e w2 ⟨rfl, rfl⟩))
  go_ret
  exact ⟨rfl, bl⟩
set_option maxRecDepth 100000 in
set_option maxHeartbeats 8000000 in
theorem raises_3l_q0 (q r y : Nat) (g : Bool) (w : World) (hr : 0 < r) (hry : r < y) (hy : (S y).size ≤ 600) (hc : r + r < y) (hq : q = 0) : Calls Tryd.prog 19 #[.string (S q), .string (S r), .string (S y), .bool g, .int .i64 3] w fun e w' => e = .returned (.bool (upB g q r y 3)) ∧ Below w.heap.size w w' := by
  have hv : upB g q r y 3 = false := by
    rw [up_v hr]
    simp only [show ¬ ((3 : Int) = 0) by decide, if_false, show ¬ ((3 : Int) = 1) by decide, show ¬ ((3 : Int) = 2) by decide, if_true]
    rw [decide_eq_false (by omega), decide_eq_false (by omega)]; rfl
  rw [hv]
  have hrs : (S r).size ≤ 600 := S_less hy (Nat.le_of_lt hry)
  have e1 := tl_ne (S_pos hr)
  have e2 := tl_ne' (S_pos hr)
  have HS := Lib.hid (fun w => sub_any y r w hy hrs)
  rw [subE_0 (Nat.le_of_lt hry)] at HS
  have hds : (S (y - r)).size ≤ 600 := S_less hy (Nat.sub_le _ _)
  have HC := Lib.hid (fun w => cmp_any r (y - r) w (by omega) (by omega))
  rw [half_rest hry, show cmpN (r + r) y = -1 from cmpN_lt hc] at HC
  generalize S (y - r) = D at *
  have q1 : (S q).toList = [] := tl_nil (by rw [hq]; rfl)
  clear hv hr hry hy hc hrs hds hq
  generalize S r = R at *
  generalize S y = Y at *
  generalize S q = Q at *
  go_enter Tryd.func19, Tryd.ntmps19
  go_wp2_with (first | (go_at_call 34; (with_reducible refine (HS.out _).mono ?_); rintro e w1 ⟨rfl, bl⟩) | (go_at_call 33; (with_reducible refine (HC.out _).mono ?_); rintro e w2 ⟨rfl, rfl⟩))
  go_ret
  exact ⟨rfl, bl⟩
set_option maxRecDepth 100000 in
set_option maxHeartbeats 8000000 in
theorem raises_3l_o (q r y : Nat) (g : Bool) (w : World) (hr : 0 < r) (hry : r < y) (hy : (S y).size ≤ 600) (hc : r + r < y) (hqs : (S q).size ≤ 4000) (hq : 0 < q) (ho : q % 2 = 1) : Calls Tryd.prog 19 #[.string (S q), .string (S r), .string (S y), .bool g, .int .i64 3] w fun e w' => e = .returned (.bool (upB g q r y 3)) ∧ Below w.heap.size w w' := by
  have hv : upB g q r y 3 = false := by
    rw [up_v hr]
    simp only [show ¬ ((3 : Int) = 0) by decide, if_false, show ¬ ((3 : Int) = 1) by decide, show ¬ ((3 : Int) = 2) by decide, if_true]
    rw [decide_eq_false (by omega), decide_eq_false (by omega)]; rfl
  rw [hv]
  have hrs : (S r).size ≤ 600 := S_less hy (Nat.le_of_lt hry)
  have e1 := tl_ne (S_pos hr)
  have e2 := tl_ne' (S_pos hr)
  have HS := Lib.hid (fun w => sub_any y r w hy hrs)
  rw [subE_0 (Nat.le_of_lt hry)] at HS
  have hds : (S (y - r)).size ≤ 600 := S_less hy (Nat.sub_le _ _)
  have HC := Lib.hid (fun w => cmp_any r (y - r) w (by omega) (by omega))
  rw [half_rest hry, show cmpN (r + r) y = -1 from cmpN_lt hc] at HC
  generalize S (y - r) = D at *
  have q1 := tl_ne (S_pos hq)
  have q2 := tl_ne' (S_pos hq)
  have hq3 : 0 < (S q).size := by have := S_pos hq; omega
  have hld := last_dig hq (by omega)
  have hd10 : q % 10 < 10 := Nat.mod_lt _ (by omega)
  have hd2 : q % 2 = q % 10 % 2 := by omega
  have hbq : ((((S q)[(S q).size - 1]'(by omega)).toNat - 48 : Int) % 2 == 1) = true := by rw [hld]; simp; omega
  clear hld hd10 hd2 ho
  clear hv hr hry hy hc hrs hds hq
  generalize S r = R at *
  generalize S y = Y at *
  go_enter Tryd.func19, Tryd.ntmps19
  go_wp2_with (first | (go_at_call 34; (with_reducible refine (HS.out _).mono ?_); rintro e w1 ⟨rfl, bl⟩) | (go_at_call 33; (with_reducible refine (HC.out _).mono ?_); rintro e w2 ⟨rfl, rfl⟩))
  go_ret
  exact ⟨rfl, bl⟩
set_option maxRecDepth 100000 in
set_option maxHeartbeats 8000000 in
theorem raises_3l_n (q r y : Nat) (g : Bool) (w : World) (hr : 0 < r) (hry : r < y) (hy : (S y).size ≤ 600) (hc : r + r < y) (hqs : (S q).size ≤ 4000) (hq : 0 < q) (ho : ¬ q % 2 = 1) : Calls Tryd.prog 19 #[.string (S q), .string (S r), .string (S y), .bool g, .int .i64 3] w fun e w' => e = .returned (.bool (upB g q r y 3)) ∧ Below w.heap.size w w' := by
  have hv : upB g q r y 3 = false := by
    rw [up_v hr]
    simp only [show ¬ ((3 : Int) = 0) by decide, if_false, show ¬ ((3 : Int) = 1) by decide, show ¬ ((3 : Int) = 2) by decide, if_true]
    rw [decide_eq_false (by omega), decide_eq_false (by omega)]; rfl
  rw [hv]
  have hrs : (S r).size ≤ 600 := S_less hy (Nat.le_of_lt hry)
  have e1 := tl_ne (S_pos hr)
  have e2 := tl_ne' (S_pos hr)
  have HS := Lib.hid (fun w => sub_any y r w hy hrs)
  rw [subE_0 (Nat.le_of_lt hry)] at HS
  have hds : (S (y - r)).size ≤ 600 := S_less hy (Nat.sub_le _ _)
  have HC := Lib.hid (fun w => cmp_any r (y - r) w (by omega) (by omega))
  rw [half_rest hry, show cmpN (r + r) y = -1 from cmpN_lt hc] at HC
  generalize S (y - r) = D at *
  have q1 := tl_ne (S_pos hq)
  have q2 := tl_ne' (S_pos hq)
  have hq3 : 0 < (S q).size := by have := S_pos hq; omega
  have hld := last_dig hq (by omega)
  have hd10 : q % 10 < 10 := Nat.mod_lt _ (by omega)
  have hd2 : q % 2 = q % 10 % 2 := by omega
  have hbq : ((((S q)[(S q).size - 1]'(by omega)).toNat - 48 : Int) % 2 == 1) = false := by rw [hld]; simp; omega
  clear hld hd10 hd2 ho
  clear hv hr hry hy hc hrs hds hq
  generalize S r = R at *
  generalize S y = Y at *
  go_enter Tryd.func19, Tryd.ntmps19
  go_wp2_with (first | (go_at_call 34; (with_reducible refine (HS.out _).mono ?_); rintro e w1 ⟨rfl, bl⟩) | (go_at_call 33; (with_reducible refine (HC.out _).mono ?_); rintro e w2 ⟨rfl, rfl⟩))
  go_ret
  exact ⟨rfl, bl⟩
set_option maxRecDepth 100000 in
set_option maxHeartbeats 8000000 in
theorem raises_3e_q0 (q r y : Nat) (g : Bool) (w : World) (hr : 0 < r) (hry : r < y) (hy : (S y).size ≤ 600) (hc : r + r = y) (hq : q = 0) : Calls Tryd.prog 19 #[.string (S q), .string (S r), .string (S y), .bool g, .int .i64 3] w fun e w' => e = .returned (.bool (upB g q r y 3)) ∧ Below w.heap.size w w' := by
  have hv : upB g q r y 3 = false := by
    rw [up_v hr]
    simp only [show ¬ ((3 : Int) = 0) by decide, if_false, show ¬ ((3 : Int) = 1) by decide, show ¬ ((3 : Int) = 2) by decide, if_true]
    rw [decide_eq_false (by omega), decide_eq_true hc, decide_eq_false (by omega)]; rfl
  rw [hv]
  have hrs : (S r).size ≤ 600 := S_less hy (Nat.le_of_lt hry)
  have e1 := tl_ne (S_pos hr)
  have e2 := tl_ne' (S_pos hr)
  have HS := Lib.hid (fun w => sub_any y r w hy hrs)
  rw [subE_0 (Nat.le_of_lt hry)] at HS
  have hds : (S (y - r)).size ≤ 600 := S_less hy (Nat.sub_le _ _)
  have HC := Lib.hid (fun w => cmp_any r (y - r) w (by omega) (by omega))
  rw [half_rest hry, show cmpN (r + r) y = 0 from (by rw [hc, cmpN_eq])] at HC
  generalize S (y - r) = D at *
  have q1 : (S q).toList = [] := tl_nil (by rw [hq]; rfl)
  clear hv hr hry hy hc hrs hds hq
  generalize S r = R at *
  generalize S y = Y at *
  generalize S q = Q at *
  go_enter Tryd.func19, Tryd.ntmps19
  go_wp2_with (first | (go_at_call 34; (with_reducible refine (HS.out _).mono ?_); rintro e w1 ⟨rfl, bl⟩) | (go_at_call 33; (with_reducible refine (HC.out _).mono ?_); rintro e w2 ⟨rfl, rfl⟩))
  go_ret
  exact ⟨rfl, bl⟩
set_option maxRecDepth 100000 in
set_option maxHeartbeats 8000000 in
theorem raises_3e_o (q r y : Nat) (g : Bool) (w : World) (hr : 0 < r) (hry : r < y) (hy : (S y).size ≤ 600) (hc : r + r = y) (hqs : (S q).size ≤ 4000) (hq : 0 < q) (ho : q % 2 = 1) : Calls Tryd.prog 19 #[.string (S q), .string (S r), .string (S y), .bool g, .int .i64 3] w fun e w' => e = .returned (.bool (upB g q r y 3)) ∧ Below w.heap.size w w' := by
  have hv : upB g q r y 3 = true := by
    rw [up_v hr]
    simp only [show ¬ ((3 : Int) = 0) by decide, if_false, show ¬ ((3 : Int) = 1) by decide, show ¬ ((3 : Int) = 2) by decide, if_true]
    rw [decide_eq_false (by omega), decide_eq_true hc, decide_eq_true ho]; rfl
  rw [hv]
  have hrs : (S r).size ≤ 600 := S_less hy (Nat.le_of_lt hry)
  have e1 := tl_ne (S_pos hr)
  have e2 := tl_ne' (S_pos hr)
  have HS := Lib.hid (fun w => sub_any y r w hy hrs)
  rw [subE_0 (Nat.le_of_lt hry)] at HS
  have hds : (S (y - r)).size ≤ 600 := S_less hy (Nat.sub_le _ _)
  have HC := Lib.hid (fun w => cmp_any r (y - r) w (by omega) (by omega))
  rw [half_rest hry, show cmpN (r + r) y = 0 from (by rw [hc, cmpN_eq])] at HC
  generalize S (y - r) = D at *
  have q1 := tl_ne (S_pos hq)
  have q2 := tl_ne' (S_pos hq)
  have hq3 : 0 < (S q).size := by have := S_pos hq; omega
  have hld := last_dig hq (by omega)
  have hd10 : q % 10 < 10 := Nat.mod_lt _ (by omega)
  have hd2 : q % 2 = q % 10 % 2 := by omega
  have hbq : ((((S q)[(S q).size - 1]'(by omega)).toNat - 48 : Int) % 2 == 1) = true := by rw [hld]; simp; omega
  clear hld hd10 hd2 ho
  clear hv hr hry hy hc hrs hds hq
  generalize S r = R at *
  generalize S y = Y at *
  go_enter Tryd.func19, Tryd.ntmps19
  go_wp2_with (first | (go_at_call 34; (with_reducible refine (HS.out _).mono ?_); rintro e w1 ⟨rfl, bl⟩) | (go_at_call 33; (with_reducible refine (HC.out _).mono ?_); rintro e w2 ⟨rfl, rfl⟩))
  go_ret
  exact ⟨rfl, bl⟩
set_option maxRecDepth 100000 in
set_option maxHeartbeats 8000000 in
theorem raises_3e_n (q r y : Nat) (g : Bool) (w : World) (hr : 0 < r) (hry : r < y) (hy : (S y).size ≤ 600) (hc : r + r = y) (hqs : (S q).size ≤ 4000) (hq : 0 < q) (ho : ¬ q % 2 = 1) : Calls Tryd.prog 19 #[.string (S q), .string (S r), .string (S y), .bool g, .int .i64 3] w fun e w' => e = .returned (.bool (upB g q r y 3)) ∧ Below w.heap.size w w' := by
  have hv : upB g q r y 3 = false := by
    rw [up_v hr]
    simp only [show ¬ ((3 : Int) = 0) by decide, if_false, show ¬ ((3 : Int) = 1) by decide, show ¬ ((3 : Int) = 2) by decide, if_true]
    rw [decide_eq_false (by omega), decide_eq_true hc, decide_eq_false ho]; rfl
  rw [hv]
  have hrs : (S r).size ≤ 600 := S_less hy (Nat.le_of_lt hry)
  have e1 := tl_ne (S_pos hr)
  have e2 := tl_ne' (S_pos hr)
  have HS := Lib.hid (fun w => sub_any y r w hy hrs)
  rw [subE_0 (Nat.le_of_lt hry)] at HS
  have hds : (S (y - r)).size ≤ 600 := S_less hy (Nat.sub_le _ _)
  have HC := Lib.hid (fun w => cmp_any r (y - r) w (by omega) (by omega))
  rw [half_rest hry, show cmpN (r + r) y = 0 from (by rw [hc, cmpN_eq])] at HC
  generalize S (y - r) = D at *
  have q1 := tl_ne (S_pos hq)
  have q2 := tl_ne' (S_pos hq)
  have hq3 : 0 < (S q).size := by have := S_pos hq; omega
  have hld := last_dig hq (by omega)
  have hd10 : q % 10 < 10 := Nat.mod_lt _ (by omega)
  have hd2 : q % 2 = q % 10 % 2 := by omega
  have hbq : ((((S q)[(S q).size - 1]'(by omega)).toNat - 48 : Int) % 2 == 1) = false := by rw [hld]; simp; omega
  clear hld hd10 hd2 ho
  clear hv hr hry hy hc hrs hds hq
  generalize S r = R at *
  generalize S y = Y at *
  go_enter Tryd.func19, Tryd.ntmps19
  go_wp2_with (first | (go_at_call 34; (with_reducible refine (HS.out _).mono ?_); rintro e w1 ⟨rfl, bl⟩) | (go_at_call 33; (with_reducible refine (HC.out _).mono ?_); rintro e w2 ⟨rfl, rfl⟩))
  go_ret
  exact ⟨rfl, bl⟩
set_option maxRecDepth 100000 in
set_option maxHeartbeats 8000000 in
theorem raises_3g_q0 (q r y : Nat) (g : Bool) (w : World) (hr : 0 < r) (hry : r < y) (hy : (S y).size ≤ 600) (hc : y < r + r) (hq : q = 0) : Calls Tryd.prog 19 #[.string (S q), .string (S r), .string (S y), .bool g, .int .i64 3] w fun e w' => e = .returned (.bool (upB g q r y 3)) ∧ Below w.heap.size w w' := by
  have hv : upB g q r y 3 = true := by
    rw [up_v hr]
    simp only [show ¬ ((3 : Int) = 0) by decide, if_false, show ¬ ((3 : Int) = 1) by decide, show ¬ ((3 : Int) = 2) by decide, if_true]
    rw [decide_eq_true hc]; rfl
  rw [hv]
  have hrs : (S r).size ≤ 600 := S_less hy (Nat.le_of_lt hry)
  have e1 := tl_ne (S_pos hr)
  have e2 := tl_ne' (S_pos hr)
  have HS := Lib.hid (fun w => sub_any y r w hy hrs)
  rw [subE_0 (Nat.le_of_lt hry)] at HS
  have hds : (S (y - r)).size ≤ 600 := S_less hy (Nat.sub_le _ _)
  have HC := Lib.hid (fun w => cmp_any r (y - r) w (by omega) (by omega))
  rw [half_rest hry, show cmpN (r + r) y = 1 from cmpN_gt hc] at HC
  generalize S (y - r) = D at *
  have q1 : (S q).toList = [] := tl_nil (by rw [hq]; rfl)
  clear hv hr hry hy hc hrs hds hq
  generalize S r = R at *
  generalize S y = Y at *
  generalize S q = Q at *
  go_enter Tryd.func19, Tryd.ntmps19
  go_wp2_with (first | (go_at_call 34; (with_reducible refine (HS.out _).mono ?_); rintro e w1 ⟨rfl, bl⟩) | (go_at_call 33; (with_reducible refine (HC.out _).mono ?_); rintro e w2 ⟨rfl, rfl⟩))
  go_ret
  exact ⟨rfl, bl⟩
set_option maxRecDepth 100000 in
set_option maxHeartbeats 8000000 in
theorem raises_3g_o (q r y : Nat) (g : Bool) (w : World) (hr : 0 < r) (hry : r < y) (hy : (S y).size ≤ 600) (hc : y < r + r) (hqs : (S q).size ≤ 4000) (hq : 0 < q) (ho : q % 2 = 1) : Calls Tryd.prog 19 #[.string (S q), .string (S r), .string (S y), .bool g, .int .i64 3] w fun e w' => e = .returned (.bool (upB g q r y 3)) ∧ Below w.heap.size w w' := by
  have hv : upB g q r y 3 = true := by
    rw [up_v hr]
    simp only [show ¬ ((3 : Int) = 0) by decide, if_false, show ¬ ((3 : Int) = 1) by decide, show ¬ ((3 : Int) = 2) by decide, if_true]
    rw [decide_eq_true hc]; rfl
  rw [hv]
  have hrs : (S r).size ≤ 600 := S_less hy (Nat.le_of_lt hry)
  have e1 := tl_ne (S_pos hr)
  have e2 := tl_ne' (S_pos hr)
  have HS := Lib.hid (fun w => sub_any y r w hy hrs)
  rw [subE_0 (Nat.le_of_lt hry)] at HS
  have hds : (S (y - r)).size ≤ 600 := S_less hy (Nat.sub_le _ _)
  have HC := Lib.hid (fun w => cmp_any r (y - r) w (by omega) (by omega))
  rw [half_rest hry, show cmpN (r + r) y = 1 from cmpN_gt hc] at HC
  generalize S (y - r) = D at *
  have q1 := tl_ne (S_pos hq)
  have q2 := tl_ne' (S_pos hq)
  have hq3 : 0 < (S q).size := by have := S_pos hq; omega
  have hld := last_dig hq (by omega)
  have hd10 : q % 10 < 10 := Nat.mod_lt _ (by omega)
  have hd2 : q % 2 = q % 10 % 2 := by omega
  have hbq : ((((S q)[(S q).size - 1]'(by omega)).toNat - 48 : Int) % 2 == 1) = true := by rw [hld]; simp; omega
  clear hld hd10 hd2 ho
  clear hv hr hry hy hc hrs hds hq
  generalize S r = R at *
  generalize S y = Y at *
  go_enter Tryd.func19, Tryd.ntmps19
  go_wp2_with (first | (go_at_call 34; (with_reducible refine (HS.out _).mono ?_); rintro e w1 ⟨rfl, bl⟩) | (go_at_call 33; (with_reducible refine (HC.out _).mono ?_); rintro e w2 ⟨rfl, rfl⟩))
  go_ret
  exact ⟨rfl, bl⟩
set_option maxRecDepth 100000 in
set_option maxHeartbeats 8000000 in
theorem raises_3g_n (q r y : Nat) (g : Bool) (w : World) (hr : 0 < r) (hry : r < y) (hy : (S y).size ≤ 600) (hc : y < r + r) (hqs : (S q).size ≤ 4000) (hq : 0 < q) (ho : ¬ q % 2 = 1) : Calls Tryd.prog 19 #[.string (S q), .string (S r), .string (S y), .bool g, .int .i64 3] w fun e w' => e = .returned (.bool (upB g q r y 3)) ∧ Below w.heap.size w w' := by
  have hv : upB g q r y 3 = true := by
    rw [up_v hr]
    simp only [show ¬ ((3 : Int) = 0) by decide, if_false, show ¬ ((3 : Int) = 1) by decide, show ¬ ((3 : Int) = 2) by decide, if_true]
    rw [decide_eq_true hc]; rfl
  rw [hv]
  have hrs : (S r).size ≤ 600 := S_less hy (Nat.le_of_lt hry)
  have e1 := tl_ne (S_pos hr)
  have e2 := tl_ne' (S_pos hr)
  have HS := Lib.hid (fun w => sub_any y r w hy hrs)
  rw [subE_0 (Nat.le_of_lt hry)] at HS
  have hds : (S (y - r)).size ≤ 600 := S_less hy (Nat.sub_le _ _)
  have HC := Lib.hid (fun w => cmp_any r (y - r) w (by omega) (by omega))
  rw [half_rest hry, show cmpN (r + r) y = 1 from cmpN_gt hc] at HC
  generalize S (y - r) = D at *
  have q1 := tl_ne (S_pos hq)
  have q2 := tl_ne' (S_pos hq)
  have hq3 : 0 < (S q).size := by have := S_pos hq; omega
  have hld := last_dig hq (by omega)
  have hd10 : q % 10 < 10 := Nat.mod_lt _ (by omega)
  have hd2 : q % 2 = q % 10 % 2 := by omega
  have hbq : ((((S q)[(S q).size - 1]'(by omega)).toNat - 48 : Int) % 2 == 1) = false := by rw [hld]; simp; omega
  clear hld hd10 hd2 ho
  clear hv hr hry hy hc hrs hds hq
  generalize S r = R at *
  generalize S y = Y at *
  go_enter Tryd.func19, Tryd.ntmps19
  go_wp2_with (first | (go_at_call 34; (with_reducible refine (HS.out _).mono ?_); rintro e w1 ⟨rfl, bl⟩) | (go_at_call 33; (with_reducible refine (HC.out _).mono ?_); rintro e w2 ⟨rfl, rfl⟩))
  go_ret
  exact ⟨rfl, bl⟩
set_option maxRecDepth 100000 in
set_option maxHeartbeats 8000000 in
theorem raises_4l (q r y : Nat) (g : Bool) (w : World) (hr : 0 < r) (hry : r < y) (hy : (S y).size ≤ 600) (hc : r + r < y)  : Calls Tryd.prog 19 #[.string (S q), .string (S r), .string (S y), .bool g, .int .i64 4] w fun e w' => e = .returned (.bool (upB g q r y 4)) ∧ Below w.heap.size w w' := by
  have hv : upB g q r y 4 = false := by
    rw [up_v hr]
    simp only [show ¬ ((4 : Int) = 0) by decide, if_false, show ¬ ((4 : Int) = 1) by decide, show ¬ ((4 : Int) = 2) by decide, show ¬ ((4 : Int) = 3) by decide]
    exact decide_eq_false (by omega)
  rw [hv]
  have hrs : (S r).size ≤ 600 := S_less hy (Nat.le_of_lt hry)
  have e1 := tl_ne (S_pos hr)
  have e2 := tl_ne' (S_pos hr)
  have HS := Lib.hid (fun w => sub_any y r w hy hrs)
  rw [subE_0 (Nat.le_of_lt hry)] at HS
  have hds : (S (y - r)).size ≤ 600 := S_less hy (Nat.sub_le _ _)
  have HC := Lib.hid (fun w => cmp_any r (y - r) w (by omega) (by omega))
  rw [half_rest hry, show cmpN (r + r) y = -1 from cmpN_lt hc] at HC
  generalize S (y - r) = D at *
  clear hv hr hry hy hc hrs hds
  generalize S r = R at *
  generalize S y = Y at *
  generalize S q = Q at *
  go_enter Tryd.func19, Tryd.ntmps19
  go_wp2_with (first | (go_at_call 34; (with_reducible refine (HS.out _).mono ?_); rintro e w1 ⟨rfl, bl⟩) | (go_at_call 33; (with_reducible refine (HC.out _).mono ?_); rintro e w2 ⟨rfl, rfl⟩))
  go_ret
  exact ⟨rfl, bl⟩
set_option maxRecDepth 100000 in
set_option maxHeartbeats 8000000 in
theorem raises_4e (q r y : Nat) (g : Bool) (w : World) (hr : 0 < r) (hry : r < y) (hy : (S y).size ≤ 600) (hc : r + r = y)  : Calls Tryd.prog 19 #[.string (S q), .string (S r), .string (S y), .bool g, .int .i64 4] w fun e w' => e = .returned (.bool (upB g q r y 4)) ∧ Below w.heap.size w w' := by
  have hv : upB g q r y 4 = true := by
    rw [up_v hr]
    simp only [show ¬ ((4 : Int) = 0) by decide, if_false, show ¬ ((4 : Int) = 1) by decide, show ¬ ((4 : Int) = 2) by decide, show ¬ ((4 : Int) = 3) by decide]
    exact decide_eq_true (by omega)
  rw [hv]
  have hrs : (S r).size ≤ 600 := S_less hy (Nat.le_of_lt hry)
  have e1 := tl_ne (S_pos hr)
  have e2 := tl_ne' (S_pos hr)
  have HS := Lib.hid (fun w => sub_any y r w hy hrs)
  rw [subE_0 (Nat.le_of_lt hry)] at HS
  have hds : (S (y - r)).size ≤ 600 := S_less hy (Nat.sub_le _ _)
  have HC := Lib.hid (fun w => cmp_any r (y - r) w (by omega) (by omega))
  rw [half_rest hry, show cmpN (r + r) y = 0 from (by rw [hc, cmpN_eq])] at HC
  generalize S (y - r) = D at *
  clear hv hr hry hy hc hrs hds
  generalize S r = R at *
  generalize S y = Y at *
  generalize S q = Q at *
  go_enter Tryd.func19, Tryd.ntmps19
  go_wp2_with (first | (go_at_call 34; (with_reducible refine (HS.out _).mono ?_); rintro e w1 ⟨rfl, bl⟩) | (go_at_call 33; (with_reducible refine (HC.out _).mono ?_); rintro e w2 ⟨rfl, rfl⟩))
  go_ret
  exact ⟨rfl, bl⟩
set_option maxRecDepth 100000 in
set_option maxHeartbeats 8000000 in
theorem raises_4g (q r y : Nat) (g : Bool) (w : World) (hr : 0 < r) (hry : r < y) (hy : (S y).size ≤ 600) (hc : y < r + r)  : Calls Tryd.prog 19 #[.string (S q), .string (S r), .string (S y), .bool g, .int .i64 4] w fun e w' => e = .returned (.bool (upB g q r y 4)) ∧ Below w.heap.size w w' := by
  have hv : upB g q r y 4 = true := by
    rw [up_v hr]
    simp only [show ¬ ((4 : Int) = 0) by decide, if_false, show ¬ ((4 : Int) = 1) by decide, show ¬ ((4 : Int) = 2) by decide, show ¬ ((4 : Int) = 3) by decide]
    exact decide_eq_true (by omega)
  rw [hv]
  have hrs : (S r).size ≤ 600 := S_less hy (Nat.le_of_lt hry)
  have e1 := tl_ne (S_pos hr)
  have e2 := tl_ne' (S_pos hr)
  have HS := Lib.hid (fun w => sub_any y r w hy hrs)
  rw [subE_0 (Nat.le_of_lt hry)] at HS
  have hds : (S (y - r)).size ≤ 600 := S_less hy (Nat.sub_le _ _)
  have HC := Lib.hid (fun w => cmp_any r (y - r) w (by omega) (by omega))
  rw [half_rest hry, show cmpN (r + r) y = 1 from cmpN_gt hc] at HC
  generalize S (y - r) = D at *
  clear hv hr hry hy hc hrs hds
  generalize S r = R at *
  generalize S y = Y at *
  generalize S q = Q at *
  go_enter Tryd.func19, Tryd.ntmps19
  go_wp2_with (first | (go_at_call 34; (with_reducible refine (HS.out _).mono ?_); rintro e w1 ⟨rfl, bl⟩) | (go_at_call 33; (with_reducible refine (HC.out _).mono ?_); rintro e w2 ⟨rfl, rfl⟩))
  go_ret
  exact ⟨rfl, bl⟩
theorem raises_any (q r y : Nat) (g : Bool) (w : World) (m : Int) (hm : 0 ≤ m ∧ m ≤ 4) (hry : r < y) (hy : (S y).size ≤ 600) (hqs : (S q).size ≤ 4000) : Calls Tryd.prog 19 #[.string (S q), .string (S r), .string (S y), .bool g, .int .i64 m] w fun e w' => e = .returned (.bool (upB g q r y m)) ∧ Below w.heap.size w w' := by
  rcases Nat.eq_zero_or_pos r with hr | hr
  · exact raises_z q r y g w m hr
  rcases (show m = 0 ∨ m = 1 ∨ m = 2 ∨ m = 3 ∨ m = 4 by omega) with rfl | rfl | rfl | rfl | rfl
  · rcases (show r + r < y ∨ r + r = y ∨ y < r + r by omega) with hc | hc | hc
    · exact raises_0l q r y g w hr hry hy hc
    · exact raises_0e q r y g w hr hry hy hc
    · exact raises_0g q r y g w hr hry hy hc
  · rcases (show r + r < y ∨ r + r = y ∨ y < r + r by omega) with hc | hc | hc
    · exact raises_1l q r y g w hr hry hy hc
    · exact raises_1e q r y g w hr hry hy hc
    · exact raises_1g q r y g w hr hry hy hc
  · rcases (show r + r < y ∨ r + r = y ∨ y < r + r by omega) with hc | hc | hc
    · exact raises_2l q r y g w hr hry hy hc
    · exact raises_2e q r y g w hr hry hy hc
    · exact raises_2g q r y g w hr hry hy hc
  · rcases (show r + r < y ∨ r + r = y ∨ y < r + r by omega) with hc | hc | hc
    · rcases Nat.eq_zero_or_pos q with hq | hq
      · exact raises_3l_q0 q r y g w hr hry hy hc hq
      · by_cases ho : q % 2 = 1
        · exact raises_3l_o q r y g w hr hry hy hc hqs hq ho
        · exact raises_3l_n q r y g w hr hry hy hc hqs hq ho
    · rcases Nat.eq_zero_or_pos q with hq | hq
      · exact raises_3e_q0 q r y g w hr hry hy hc hq
      · by_cases ho : q % 2 = 1
        · exact raises_3e_o q r y g w hr hry hy hc hqs hq ho
        · exact raises_3e_n q r y g w hr hry hy hc hqs hq ho
    · rcases Nat.eq_zero_or_pos q with hq | hq
      · exact raises_3g_q0 q r y g w hr hry hy hc hq
      · by_cases ho : q % 2 = 1
        · exact raises_3g_o q r y g w hr hry hy hc hqs hq ho
        · exact raises_3g_n q r y g w hr hry hy hc hqs hq ho
  · rcases (show r + r < y ∨ r + r = y ∨ y < r + r by omega) with hc | hc | hc
    · exact raises_4l q r y g w hr hry hy hc
    · exact raises_4e q r y g w hr hry hy hc
    · exact raises_4g q r y g w hr hry hy hc
set_option maxRecDepth 100000 in
set_option maxHeartbeats 8000000 in
theorem rup_z (q r y : Nat) (g : Bool) (w : World) (m : Int) (hr : r = 0) : Calls Tryd.prog 25 #[.bool g, .string (S q), .string (S r), .string (S y), .int .i64 m] w fun e w' => e = .returned (.bool (upB g q r y m)) ∧ Below w.heap.size w w' := by
  rw [hr, up_0]
  have e1 : (S 0).toList = [] := tl_nil rfl
  clear hr
  generalize S 0 = R at *
  go_enter Tryd.func25, Tryd.ntmps25
  go_wp2
  go_ret
  exact ⟨rfl, Below.refl _ _⟩
set_option maxRecDepth 100000 in
set_option maxHeartbeats 8000000 in
theorem rup_0l_q0 (q r y : Nat) (g : Bool) (w : World) (hr : 0 < r) (hry : r < y) (hy : (S y).size ≤ 4000) (hc : r + r < y) (hq : q = 0) : Calls Tryd.prog 25 #[.bool g, .string (S q), .string (S r), .string (S y), .int .i64 0] w fun e w' => e = .returned (.bool (upB g q r y 0)) ∧ Below w.heap.size w w' := by
  have hv : upB g q r y 0 = g := by
    rw [up_v hr]
    skip
    rfl
  rw [hv]
  have hrs : (S r).size ≤ 4000 := S_less hy (Nat.le_of_lt hry)
  have e1 := tl_ne (S_pos hr)
  have e2 := tl_ne' (S_pos hr)
  have HS := Lib.hid (fun w => sum_any r r w hrs hrs)
  have hds : (S (r + r)).size ≤ 4001 := by have := size_dbl hrs; omega
  have HC := Lib.hid (fun w => rcmp_any (r + r) y w (by omega) (by omega))
  rw [show cmpN (r + r) y = -1 from cmpN_lt hc] at HC
  generalize S (r + r) = D at *
  have q1 : (S q).toList = [] := tl_nil (by rw [hq]; rfl)
  clear hv hr hry hy hc hrs hds hq
  generalize S r = R at *
  generalize S y = Y at *
  generalize S q = Q at *
  go_enter Tryd.func25, Tryd.ntmps25
  go_wp2_with (first | (go_at_call 26; (with_reducible refine (HS.out _).mono ?_); rintro e w1 ⟨rfl, bl⟩) | (go_at_call 43; (with_reducible refine (HC.out _).mono ?_); rintro e w2 ⟨rfl, rfl⟩))
  go_ret
  exact ⟨rfl, bl⟩
set_option maxRecDepth 100000 in
set_option maxHeartbeats 8000000 in
theorem rup_0l_o (q r y : Nat) (g : Bool) (w : World) (hr : 0 < r) (hry : r < y) (hy : (S y).size ≤ 4000) (hc : r + r < y) (hqs : (S q).size ≤ 4000) (hq : 0 < q) (ho : q % 2 = 1) : Calls Tryd.prog 25 #[.bool g, .string (S q), .string (S r), .string (S y), .int .i64 0] w fun e w' => e = .returned (.bool (upB g q r y 0)) ∧ Below w.heap.size w w' := by
  have hv : upB g q r y 0 = g := by
    rw [up_v hr]
    skip
    rfl
  rw [hv]
  have hrs : (S r).size ≤ 4000 := S_less hy (Nat.le_of_lt hry)
  have e1 := tl_ne (S_pos hr)
  have e2 := tl_ne' (S_pos hr)
  have HS := Lib.hid (fun w => sum_any r r w hrs hrs)
  have hds : (S (r + r)).size ≤ 4001 := by have := size_dbl hrs; omega
  have HC := Lib.hid (fun w => rcmp_any (r + r) y w (by omega) (by omega))
  rw [show cmpN (r + r) y = -1 from cmpN_lt hc] at HC
  generalize S (r + r) = D at *
  have q1 := tl_ne (S_pos hq)
  have q2 := tl_ne' (S_pos hq)
  have hq3 : 0 < (S q).size := by have := S_pos hq; omega
  have hld := last_dig hq (by omega)
  have hd10 : q % 10 < 10 := Nat.mod_lt _ (by omega)
  have hd2 : q % 2 = q % 10 % 2 := by omega
  have hbq : ((((S q)[(S q).size - 1]'(by omega)).toNat - 48 : Int) % 2 == 1) = true := by rw [hld]; simp; omega
  clear hld hd10 hd2 ho
  clear hv hr hry hy hc hrs hds hq
  generalize S r = R at *
  generalize S y = Y at *
  go_enter Tryd.func25, Tryd.ntmps25
  go_wp2_with (first | (go_at_call 26; (with_reducible refine (HS.out _).mono ?_); rintro e w1 ⟨rfl, bl⟩) | (go_at_call 43; (with_reducible refine (HC.out _).mono ?_); rintro e w2 ⟨rfl, rfl⟩))
  go_ret
  exact ⟨rfl, bl⟩
set_option maxRecDepth 100000 in
set_option maxHeartbeats 8000000 in
theorem rup_0l_n (q r y : Nat) (g : Bool) (w : World) (hr : 0 < r) (hry : r < y) (hy : (S y).size ≤ 4000) (hc : r + r < y) (hqs : (S q).size ≤ 4000) (hq : 0 < q) (ho : ¬ q % 2 = 1) : Calls Tryd.prog 25 #[.bool g, .string (S q), .string (S r), .string (S y), .int .i64 0] w fun e w' => e = .returned (.bool (upB g q r y 0)) ∧ Below w.heap.size w w' := by
  have hv : upB g q r y 0 = g := by
    rw [up_v hr]
    skip
    rfl
  rw [hv]
  have hrs : (S r).size ≤ 4000 := S_less hy (Nat.le_of_lt hry)
  have e1 := tl_ne (S_pos hr)
  have e2 := tl_ne' (S_pos hr)
  have HS := Lib.hid (fun w => sum_any r r w hrs hrs)
  have hds : (S (r + r)).size ≤ 4001 := by have := size_dbl hrs; omega
  have HC := Lib.hid (fun w => rcmp_any (r + r) y w (by omega) (by omega))
  rw [show cmpN (r + r) y = -1 from cmpN_lt hc] at HC
  generalize S (r + r) = D at *
  have q1 := tl_ne (S_pos hq)
  have q2 := tl_ne' (S_pos hq)
  have hq3 : 0 < (S q).size := by have := S_pos hq; omega
  have hld := last_dig hq (by omega)
  have hd10 : q % 10 < 10 := Nat.mod_lt _ (by omega)
  have hd2 : q % 2 = q % 10 % 2 := by omega
  have hbq : ((((S q)[(S q).size - 1]'(by omega)).toNat - 48 : Int) % 2 == 1) = false := by rw [hld]; simp; omega
  clear hld hd10 hd2 ho
  clear hv hr hry hy hc hrs hds hq
  generalize S r = R at *
  generalize S y = Y at *
  go_enter Tryd.func25, Tryd.ntmps25
  go_wp2_with (first | (go_at_call 26; (with_reducible refine (HS.out _).mono ?_); rintro e w1 ⟨rfl, bl⟩) | (go_at_call 43; (with_reducible refine (HC.out _).mono ?_); rintro e w2 ⟨rfl, rfl⟩))
  go_ret
  exact ⟨rfl, bl⟩
set_option maxRecDepth 100000 in
set_option maxHeartbeats 8000000 in
theorem rup_0e_q0 (q r y : Nat) (g : Bool) (w : World) (hr : 0 < r) (hry : r < y) (hy : (S y).size ≤ 4000) (hc : r + r = y) (hq : q = 0) : Calls Tryd.prog 25 #[.bool g, .string (S q), .string (S r), .string (S y), .int .i64 0] w fun e w' => e = .returned (.bool (upB g q r y 0)) ∧ Below w.heap.size w w' := by
  have hv : upB g q r y 0 = g := by
    rw [up_v hr]
    skip
    rfl
  rw [hv]
  have hrs : (S r).size ≤ 4000 := S_less hy (Nat.le_of_lt hry)
  have e1 := tl_ne (S_pos hr)
  have e2 := tl_ne' (S_pos hr)
  have HS := Lib.hid (fun w => sum_any r r w hrs hrs)
  have hds : (S (r + r)).size ≤ 4001 := by have := size_dbl hrs; omega
  have HC := Lib.hid (fun w => rcmp_any (r + r) y w (by omega) (by omega))
  rw [show cmpN (r + r) y = 0 from (by rw [hc, cmpN_eq])] at HC
  generalize S (r + r) = D at *
  have q1 : (S q).toList = [] := tl_nil (by rw [hq]; rfl)
  clear hv hr hry hy hc hrs hds hq
  generalize S r = R at *
  generalize S y = Y at *
  generalize S q = Q at *
  go_enter Tryd.func25, Tryd.ntmps25
  go_wp2_with (first | (go_at_call 26; (with_reducible refine (HS.out _).mono ?_); rintro e w1 ⟨rfl, bl⟩) | (go_at_call 43; (with_reducible refine (HC.out _).mono ?_); rintro e w2 ⟨rfl, rfl⟩))
  go_ret
  exact ⟨rfl, bl⟩
set_option maxRecDepth 100000 in
set_option maxHeartbeats 8000000 in
theorem rup_0e_o (q r y : Nat) (g : Bool) (w : World) (hr : 0 < r) (hry : r < y) (hy : (S y).size ≤ 4000) (hc : r + r = y) (hqs : (S q).size ≤ 4000) (hq : 0 < q) (ho : q % 2 = 1) : Calls Tryd.prog 25 #[.bool g, .string (S q), .string (S r), .string (S y), .int .i64 0] w fun e w' => e = .returned (.bool (upB g q r y 0)) ∧ Below w.heap.size w w' := by
  have hv : upB g q r y 0 = g := by
    rw [up_v hr]
    skip
    rfl
  rw [hv]
  have hrs : (S r).size ≤ 4000 := S_less hy (Nat.le_of_lt hry)
  have e1 := tl_ne (S_pos hr)
  have e2 := tl_ne' (S_pos hr)
  have HS := Lib.hid (fun w => sum_any r r w hrs hrs)
  have hds : (S (r + r)).size ≤ 4001 := by have := size_dbl hrs; omega
  have HC := Lib.hid (fun w => rcmp_any (r + r) y w (by omega) (by omega))
  rw [show cmpN (r + r) y = 0 from (by rw [hc, cmpN_eq])] at HC
  generalize S (r + r) = D at *
  have q1 := tl_ne (S_pos hq)
  have q2 := tl_ne' (S_pos hq)
  have hq3 : 0 < (S q).size := by have := S_pos hq; omega
  have hld := last_dig hq (by omega)
  have hd10 : q % 10 < 10 := Nat.mod_lt _ (by omega)
  have hd2 : q % 2 = q % 10 % 2 := by omega
  have hbq : ((((S q)[(S q).size - 1]'(by omega)).toNat - 48 : Int) % 2 == 1) = true := by rw [hld]; simp; omega
  clear hld hd10 hd2 ho
  clear hv hr hry hy hc hrs hds hq
  generalize S r = R at *
  generalize S y = Y at *
  go_enter Tryd.func25, Tryd.ntmps25
  go_wp2_with (first | (go_at_call 26; (with_reducible refine (HS.out _).mono ?_); rintro e w1 ⟨rfl, bl⟩) | (go_at_call 43; (with_reducible refine (HC.out _).mono ?_); rintro e w2 ⟨rfl, rfl⟩))
  go_ret
  exact ⟨rfl, bl⟩
set_option maxRecDepth 100000 in
set_option maxHeartbeats 8000000 in
theorem rup_0e_n (q r y : Nat) (g : Bool) (w : World) (hr : 0 < r) (hry : r < y) (hy : (S y).size ≤ 4000) (hc : r + r = y) (hqs : (S q).size ≤ 4000) (hq : 0 < q) (ho : ¬ q % 2 = 1) : Calls Tryd.prog 25 #[.bool g, .string (S q), .string (S r), .string (S y), .int .i64 0] w fun e w' => e = .returned (.bool (upB g q r y 0)) ∧ Below w.heap.size w w' := by
  have hv : upB g q r y 0 = g := by
    rw [up_v hr]
    skip
    rfl
  rw [hv]
  have hrs : (S r).size ≤ 4000 := S_less hy (Nat.le_of_lt hry)
  have e1 := tl_ne (S_pos hr)
  have e2 := tl_ne' (S_pos hr)
  have HS := Lib.hid (fun w => sum_any r r w hrs hrs)
  have hds : (S (r + r)).size ≤ 4001 := by have := size_dbl hrs; omega
  have HC := Lib.hid (fun w => rcmp_any (r + r) y w (by omega) (by omega))
  rw [show cmpN (r + r) y = 0 from (by rw [hc, cmpN_eq])] at HC
  generalize S (r + r) = D at *
  have q1 := tl_ne (S_pos hq)
  have q2 := tl_ne' (S_pos hq)
  have hq3 : 0 < (S q).size := by have := S_pos hq; omega
  have hld := last_dig hq (by omega)
  have hd10 : q % 10 < 10 := Nat.mod_lt _ (by omega)
  have hd2 : q % 2 = q % 10 % 2 := by omega
  have hbq : ((((S q)[(S q).size - 1]'(by omega)).toNat - 48 : Int) % 2 == 1) = false := by rw [hld]; simp; omega
  clear hld hd10 hd2 ho
  clear hv hr hry hy hc hrs hds hq
  generalize S r = R at *
  generalize S y = Y at *
  go_enter Tryd.func25, Tryd.ntmps25
  go_wp2_with (first | (go_at_call 26; (with_reducible refine (HS.out _).mono ?_); rintro e w1 ⟨rfl, bl⟩) | (go_at_call 43; (with_reducible refine (HC.out _).mono ?_); rintro e w2 ⟨rfl, rfl⟩))
  go_ret
  exact ⟨rfl, bl⟩
set_option maxRecDepth 100000 in
set_option maxHeartbeats 8000000 in
theorem rup_0g_q0 (q r y : Nat) (g : Bool) (w : World) (hr : 0 < r) (hry : r < y) (hy : (S y).size ≤ 4000) (hc : y < r + r) (hq : q = 0) : Calls Tryd.prog 25 #[.bool g, .string (S q), .string (S r), .string (S y), .int .i64 0] w fun e w' => e = .returned (.bool (upB g q r y 0)) ∧ Below w.heap.size w w' := by
  have hv : upB g q r y 0 = g := by
    rw [up_v hr]
    skip
    rfl
  rw [hv]
  have hrs : (S r).size ≤ 4000 := S_less hy (Nat.le_of_lt hry)
  have e1 := tl_ne (S_pos hr)
  have e2 := tl_ne' (S_pos hr)
  have HS := Lib.hid (fun w => sum_any r r w hrs hrs)
  have hds : (S (r + r)).size ≤ 4001 := by have := size_dbl hrs; omega
  have HC := Lib.hid (fun w => rcmp_any (r + r) y w (by omega) (by omega))
  rw [show cmpN (r + r) y = 1 from cmpN_gt hc] at HC
  generalize S (r + r) = D at *
  have q1 : (S q).toList = [] := tl_nil (by rw [hq]; rfl)
  clear hv hr hry hy hc hrs hds hq
  generalize S r = R at *
  generalize S y = Y at *
  generalize S q = Q at *
  go_enter Tryd.func25, Tryd.ntmps25
  go_wp2_with (first | (go_at_call 26; (with_reducible refine (HS.out _).mono ?_); rintro e w1 ⟨rfl, bl⟩) | (go_at_call 43; (with_reducible refine (HC.out _).mono ?_); rintro e w2 ⟨rfl, rfl⟩))
  go_ret
  exact ⟨rfl, bl⟩
set_option maxRecDepth 100000 in
set_option maxHeartbeats 8000000 in
theorem rup_0g_o (q r y : Nat) (g : Bool) (w : World) (hr : 0 < r) (hry : r < y) (hy : (S y).size ≤ 4000) (hc : y < r + r) (hqs : (S q).size ≤ 4000) (hq : 0 < q) (ho : q % 2 = 1) : Calls Tryd.prog 25 #[.bool g, .string (S q), .string (S r), .string (S y), .int .i64 0] w fun e w' => e = .returned (.bool (upB g q r y 0)) ∧ Below w.heap.size w w' := by
  have hv : upB g q r y 0 = g := by
    rw [up_v hr]
    skip
    rfl
  rw [hv]
  have hrs : (S r).size ≤ 4000 := S_less hy (Nat.le_of_lt hry)
  have e1 := tl_ne (S_pos hr)
  have e2 := tl_ne' (S_pos hr)
  have HS := Lib.hid (fun w => sum_any r r w hrs hrs)
  have hds : (S (r + r)).size ≤ 4001 := by have := size_dbl hrs; omega
  have HC := Lib.hid (fun w => rcmp_any (r + r) y w (by omega) (by omega))
  rw [show cmpN (r + r) y = 1 from cmpN_gt hc] at HC
  generalize S (r + r) = D at *
  have q1 := tl_ne (S_pos hq)
  have q2 := tl_ne' (S_pos hq)
  have hq3 : 0 < (S q).size := by have := S_pos hq; omega
  have hld := last_dig hq (by omega)
  have hd10 : q % 10 < 10 := Nat.mod_lt _ (by omega)
  have hd2 : q % 2 = q % 10 % 2 := by omega
  have hbq : ((((S q)[(S q).size - 1]'(by omega)).toNat - 48 : Int) % 2 == 1) = true := by rw [hld]; simp; omega
  clear hld hd10 hd2 ho
  clear hv hr hry hy hc hrs hds hq
  generalize S r = R at *
  generalize S y = Y at *
  go_enter Tryd.func25, Tryd.ntmps25
  go_wp2_with (first | (go_at_call 26; (with_reducible refine (HS.out _).mono ?_); rintro e w1 ⟨rfl, bl⟩) | (go_at_call 43; (with_reducible refine (HC.out _).mono ?_); rintro e w2 ⟨rfl, rfl⟩))
  go_ret
  exact ⟨rfl, bl⟩
set_option maxRecDepth 100000 in
set_option maxHeartbeats 8000000 in
theorem rup_0g_n (q r y : Nat) (g : Bool) (w : World) (hr : 0 < r) (hry : r < y) (hy : (S y).size ≤ 4000) (hc : y < r + r) (hqs : (S q).size ≤ 4000) (hq : 0 < q) (ho : ¬ q % 2 = 1) : Calls Tryd.prog 25 #[.bool g, .string (S q), .string (S r), .string (S y), .int .i64 0] w fun e w' => e = .returned (.bool (upB g q r y 0)) ∧ Below w.heap.size w w' := by
  have hv : upB g q r y 0 = g := by
    rw [up_v hr]
    skip
    rfl
  rw [hv]
  have hrs : (S r).size ≤ 4000 := S_less hy (Nat.le_of_lt hry)
  have e1 := tl_ne (S_pos hr)
  have e2 := tl_ne' (S_pos hr)
  have HS := Lib.hid (fun w => sum_any r r w hrs hrs)
  have hds : (S (r + r)).size ≤ 4001 := by have := size_dbl hrs; omega
  have HC := Lib.hid (fun w => rcmp_any (r + r) y w (by omega) (by omega))
  rw [show cmpN (r + r) y = 1 from cmpN_gt hc] at HC
  generalize S (r + r) = D at *
  have q1 := tl_ne (S_pos hq)
  have q2 := tl_ne' (S_pos hq)
  have hq3 : 0 < (S q).size := by have := S_pos hq; omega
  have hld := last_dig hq (by omega)
  have hd10 : q % 10 < 10 := Nat.mod_lt _ (by omega)
  have hd2 : q % 2 = q % 10 % 2 := by omega
  have hbq : ((((S q)[(S q).size - 1]'(by omega)).toNat - 48 : Int) % 2 == 1) = false := by rw [hld]; simp; omega
  clear hld hd10 hd2 ho
  clear hv hr hry hy hc hrs hds hq
  generalize S r = R at *
  generalize S y = Y at *
  go_enter Tryd.func25, Tryd.ntmps25
  go_wp2_with (first | (go_at_call 26; (with_reducible refine (HS.out _).mono ?_); rintro e w1 ⟨rfl, bl⟩) | (go_at_call 43; (with_reducible refine (HC.out _).mono ?_); rintro e w2 ⟨rfl, rfl⟩))
  go_ret
  exact ⟨rfl, bl⟩
set_option maxRecDepth 100000 in
set_option maxHeartbeats 8000000 in
theorem rup_1l_q0 (q r y : Nat) (g : Bool) (w : World) (hr : 0 < r) (hry : r < y) (hy : (S y).size ≤ 4000) (hc : r + r < y) (hq : q = 0) : Calls Tryd.prog 25 #[.bool g, .string (S q), .string (S r), .string (S y), .int .i64 1] w fun e w' => e = .returned (.bool (upB g q r y 1)) ∧ Below w.heap.size w w' := by
  have hv : upB g q r y 1 = !g := by
    rw [up_v hr]
    skip
    rfl
  rw [hv]
  have hrs : (S r).size ≤ 4000 := S_less hy (Nat.le_of_lt hry)
  have e1 := tl_ne (S_pos hr)
  have e2 := tl_ne' (S_pos hr)
  have HS := Lib.hid (fun w => sum_any r r w hrs hrs)
  have hds : (S (r + r)).size ≤ 4001 := by have := size_dbl hrs; omega
  have HC := Lib.hid (fun w => rcmp_any (r + r) y w (by omega) (by omega))
  rw [show cmpN (r + r) y = -1 from cmpN_lt hc] at HC
  generalize S (r + r) = D at *
  have q1 : (S q).toList = [] := tl_nil (by rw [hq]; rfl)
  clear hv hr hry hy hc hrs hds hq
  generalize S r = R at *
  generalize S y = Y at *
  generalize S q = Q at *
  go_enter Tryd.func25, Tryd.ntmps25
  go_wp2_with (first | (go_at_call 26; (with_reducible refine (HS.out _).mono ?_); rintro e w1 ⟨rfl, bl⟩) | (go_at_call 43; (with_reducible refine (HC.out _).mono ?_); rintro e w2 ⟨rfl, rfl⟩))
  go_ret
  exact ⟨rfl, bl⟩
set_option maxRecDepth 100000 in
set_option maxHeartbeats 8000000 in
theorem rup_1l_o (q r y : Nat) (g : Bool) (w : World) (hr : 0 < r) (hry : r < y) (hy : (S y).size ≤ 4000) (hc : r + r < y) (hqs : (S q).size ≤ 4000) (hq : 0 < q) (ho : q % 2 = 1) : Calls Tryd.prog 25 #[.bool g, .string (S q), .string (S r), .string (S y), .int .i64 1] w fun e w' => e = .returned (.bool (upB g q r y 1)) ∧ Below w.heap.size w w' := by
  have hv : upB g q r y 1 = !g := by
    rw [up_v hr]
    skip
    rfl
  rw [hv]
  have hrs : (S r).size ≤ 4000 := S_less hy (Nat.le_of_lt hry)
  have e1 := tl_ne (S_pos hr)
  have e2 := tl_ne' (S_pos hr)
  have HS := Lib.hid (fun w => sum_any r r w hrs hrs)
  have hds : (S (r + r)).size ≤ 4001 := by have := size_dbl hrs; omega
  have HC := Lib.hid (fun w => rcmp_any (r + r) y w (by omega) (by omega))
  rw [show cmpN (r + r) y = -1 from cmpN_lt hc] at HC
  generalize S (r + r) = D at *
  have q1 := tl_ne (S_pos hq)
  have q2 := tl_ne' (S_pos hq)
  have hq3 : 0 < (S q).size := by have := S_pos hq; omega
  have hld := last_dig hq (by omega)
  have hd10 : q % 10 < 10 := Nat.mod_lt _ (by omega)
  have hd2 : q % 2 = q % 10 % 2 := by omega
  have hbq : ((((S q)[(S q).size - 1]'(by omega)).toNat - 48 : Int) % 2 == 1) = true := by rw [hld]; simp; omega
  clear hld hd10 hd2 ho
  clear hv hr hry hy hc hrs hds hq
  generalize S r = R at *
  generalize S y = Y at *
  go_enter Tryd.func25, Tryd.ntmps25
  go_wp2_with (first | (go_at_call 26; (with_reducible refine (HS.out _).mono ?_); rintro e w1 ⟨rfl, bl⟩) | (go_at_call 43; (with_reducible refine (HC.out _).mono ?_); rintro e w2 ⟨rfl, rfl⟩))
  go_ret
  exact ⟨rfl, bl⟩
set_option maxRecDepth 100000 in
set_option maxHeartbeats 8000000 in
theorem rup_1l_n (q r y : Nat) (g : Bool) (w : World) (hr : 0 < r) (hry : r < y) (hy : (S y).size ≤ 4000) (hc : r + r < y) (hqs : (S q).size ≤ 4000) (hq : 0 < q) (ho : ¬ q % 2 = 1) : Calls Tryd.prog 25 #[.bool g, .string (S q), .string (S r), .string (S y), .int .i64 1] w fun e w' => e = .returned (.bool (upB g q r y 1)) ∧ Below w.heap.size w w' := by
  have hv : upB g q r y 1 = !g := by
    rw [up_v hr]
    skip
    rfl
  rw [hv]
  have hrs : (S r).size ≤ 4000 := S_less hy (Nat.le_of_lt hry)
  have e1 := tl_ne (S_pos hr)
  have e2 := tl_ne' (S_pos hr)
  have HS := Lib.hid (fun w => sum_any r r w hrs hrs)
  have hds : (S (r + r)).size ≤ 4001 := by have := size_dbl hrs; omega
  have HC := Lib.hid (fun w => rcmp_any (r + r) y w (by omega) (by omega))
  rw [show cmpN (r + r) y = -1 from cmpN_lt hc] at HC
  generalize S (r + r) = D at *
  have q1 := tl_ne (S_pos hq)
  have q2 := tl_ne' (S_pos hq)
  have hq3 : 0 < (S q).size := by have := S_pos hq; omega
  have hld := last_dig hq (by omega)
  have hd10 : q % 10 < 10 := Nat.mod_lt _ (by omega)
  have hd2 : q % 2 = q % 10 % 2 := by omega
  have hbq : ((((S q)[(S q).size - 1]'(by omega)).toNat - 48 : Int) % 2 == 1) = false := by rw [hld]; simp; omega
  clear hld hd10 hd2 ho
  clear hv hr hry hy hc hrs hds hq
  generalize S r = R at *
  generalize S y = Y at *
  go_enter Tryd.func25, Tryd.ntmps25
  go_wp2_with (first | (go_at_call 26; (with_reducible refine (HS.out _).mono ?_); rintro e w1 ⟨rfl, bl⟩) | (go_at_call 43; (with_reducible refine (HC.out _).mono ?_); rintro e w2 ⟨rfl, rfl⟩))
  go_ret
  exact ⟨rfl, bl⟩
set_option maxRecDepth 100000 in
set_option maxHeartbeats 8000000 in
theorem rup_1e_q0 (q r y : Nat) (g : Bool) (w : World) (hr : 0 < r) (hry : r < y) (hy : (S y).size ≤ 4000) (hc : r + r = y) (hq : q = 0) : Calls Tryd.prog 25 #[.bool g, .string (S q), .string (S r), .string (S y), .int .i64 1] w fun e w' => e = .returned (.bool (upB g q r y 1)) ∧ Below w.heap.size w w' := by
  have hv : upB g q r y 1 = !g := by
    rw [up_v hr]
    skip
    rfl
  rw [hv]
  have hrs : (S r).size ≤ 4000 := S_less hy (Nat.le_of_lt hry)
  have e1 := tl_ne (S_pos hr)
  have e2 := tl_ne' (S_pos hr)
  have HS := Lib.hid (fun w => sum_any r r w hrs hrs)
  have hds : (S (r + r)).size ≤ 4001 := by have := size_dbl hrs; omega
  have HC := Lib.hid (fun w => rcmp_any (r + r) y w (by omega) (by omega))
  rw [show cmpN (r + r) y = 0 from (by rw [hc, cmpN_eq])] at HC
  generalize S (r + r) = D at *
  have q1 : (S q).toList = [] := tl_nil (by rw [hq]; rfl)
  clear hv hr hry hy hc hrs hds hq
  generalize S r = R at *
  generalize S y = Y at *
  generalize S q = Q at *
  go_enter Tryd.func25, Tryd.ntmps25
  go_wp2_with (first | (go_at_call 26; (with_reducible refine (HS.out _).mono ?_); rintro e w1 ⟨rfl, bl⟩) | (go_at_call 43; (with_reducible refine (HC.out _).mono ?_); rintro e w2 ⟨rfl, rfl⟩))
  go_ret
  exact ⟨rfl, bl⟩
set_option maxRecDepth 100000 in
set_option maxHeartbeats 8000000 in
theorem rup_1e_o (q r y : Nat) (g : Bool) (w : World) (hr : 0 < r) (hry : r < y) (hy : (S y).size ≤ 4000) (hc : r + r = y) (hqs : (S q).size ≤ 4000) (hq : 0 < q) (ho : q % 2 = 1) : Calls Tryd.prog 25 #[.bool g, .string (S q), .string (S r), .string (S y), .int .i64 1] w fun e w' => e = .returned (.bool (upB g q r y 1)) ∧ Below w.heap.size w w' := by
  have hv : upB g q r y 1 = !g := by
    rw [up_v hr]
    skip
    rfl
  rw [hv]
  have hrs : (S r).size ≤ 4000 := S_less hy (Nat.le_of_lt hry)
  have e1 := tl_ne (S_pos hr)
  have e2 := tl_ne' (S_pos hr)
  have HS := Lib.hid (fun w => sum_any r r w hrs hrs)
  have hds : (S (r + r)).size ≤ 4001 := by have := size_dbl hrs; omega
  have HC := Lib.hid (fun w => rcmp_any (r + r) y w (by omega) (by omega))
  rw [show cmpN (r + r) y = 0 from (by rw [hc, cmpN_eq])] at HC
  generalize S (r + r) = D at *
  have q1 := tl_ne (S_pos hq)
  have q2 := tl_ne' (S_pos hq)
  have hq3 : 0 < (S q).size := by have := S_pos hq; omega
  have hld := last_dig hq (by omega)
  have hd10 : q % 10 < 10 := Nat.mod_lt _ (by omega)
  have hd2 : q % 2 = q % 10 % 2 := by omega
  have hbq : ((((S q)[(S q).size - 1]'(by omega)).toNat - 48 : Int) % 2 == 1) = true := by rw [hld]; simp; omega
  clear hld hd10 hd2 ho
  clear hv hr hry hy hc hrs hds hq
  generalize S r = R at *
  generalize S y = Y at *
  go_enter Tryd.func25, Tryd.ntmps25
  go_wp2_with (first | (go_at_call 26; (with_reducible refine (HS.out _).mono ?_); rintro e w1 ⟨rfl, bl⟩) | (go_at_call 43; (with_reducible refine (HC.out _).mono ?_); rintro e w2 ⟨rfl, rfl⟩))
  go_ret
  exact ⟨rfl, bl⟩
set_option maxRecDepth 100000 in
set_option maxHeartbeats 8000000 in
theorem rup_1e_n (q r y : Nat) (g : Bool) (w : World) (hr : 0 < r) (hry : r < y) (hy : (S y).size ≤ 4000) (hc : r + r = y) (hqs : (S q).size ≤ 4000) (hq : 0 < q) (ho : ¬ q % 2 = 1) : Calls Tryd.prog 25 #[.bool g, .string (S q), .string (S r), .string (S y), .int .i64 1] w fun e w' => e = .returned (.bool (upB g q r y 1)) ∧ Below w.heap.size w w' := by
  have hv : upB g q r y 1 = !g := by
    rw [up_v hr]
    skip
    rfl
  rw [hv]
  have hrs : (S r).size ≤ 4000 := S_less hy (Nat.le_of_lt hry)
  have e1 := tl_ne (S_pos hr)
  have e2 := tl_ne' (S_pos hr)
  have HS := Lib.hid (fun w => sum_any r r w hrs hrs)
  have hds : (S (r + r)).size ≤ 4001 := by have := size_dbl hrs; omega
  have HC := Lib.hid (fun w => rcmp_any (r + r) y w (by omega) (by omega))
  rw [show cmpN (r + r) y = 0 from (by rw [hc, cmpN_eq])] at HC
  generalize S (r + r) = D at *
  have q1 := tl_ne (S_pos hq)
  have q2 := tl_ne' (S_pos hq)
  have hq3 : 0 < (S q).size := by have := S_pos hq; omega
  have hld := last_dig hq (by omega)
  have hd10 : q % 10 < 10 := Nat.mod_lt _ (by omega)
  have hd2 : q % 2 = q % 10 % 2 := by omega
  have hbq : ((((S q)[(S q).size - 1]'(by omega)).toNat - 48 : Int) % 2 == 1) = false := by rw [hld]; simp; omega
  clear hld hd10 hd2 ho
  clear hv hr hry hy hc hrs hds hq
  generalize S r = R at *
  generalize S y = Y at *
  go_enter Tryd.func25, Tryd.ntmps25
  go_wp2_with (first | (go_at_call 26; (with_reducible refine (HS.out _).mono ?_); rintro e w1 ⟨rfl, bl⟩) | (go_at_call 43; (with_reducible refine (HC.out _).mono ?_); rintro e w2 ⟨rfl, rfl⟩))
  go_ret
  exact ⟨rfl, bl⟩
set_option maxRecDepth 100000 in
set_option maxHeartbeats 8000000 in
theorem rup_1g_q0 (q r y : Nat) (g : Bool) (w : World) (hr : 0 < r) (hry : r < y) (hy : (S y).size ≤ 4000) (hc : y < r + r) (hq : q = 0) : Calls Tryd.prog 25 #[.bool g, .string (S q), .string (S r), .string (S y), .int .i64 1] w fun e w' => e = .returned (.bool (upB g q r y 1)) ∧ Below w.heap.size w w' := by
  have hv : upB g q r y 1 = !g := by
    rw [up_v hr]
    skip
    rfl
  rw [hv]
  have hrs : (S r).size ≤ 4000 := S_less hy (Nat.le_of_lt hry)
  have e1 := tl_ne (S_pos hr)
  have e2 := tl_ne' (S_pos hr)
  have HS := Lib.hid (fun w => sum_any r r w hrs hrs)
  have hds : (S (r + r)).size ≤ 4001 := by have := size_dbl hrs; omega
  have HC := Lib.hid (fun w => rcmp_any (r + r) y w (by omega) (by omega))
  rw [show cmpN (r + r) y = 1 from cmpN_gt hc] at HC
  generalize S (r + r) = D at *
  have q1 : (S q).toList = [] := tl_nil (by rw [hq]; rfl)
  clear hv hr hry hy hc hrs hds hq
  generalize S r = R at *
  generalize S y = Y at *
  generalize S q = Q at *
  go_enter Tryd.func25, Tryd.ntmps25
  go_wp2_with (first | (go_at_call 26; (with_reducible refine (HS.out _).mono ?_); rintro e w1 ⟨rfl, bl⟩) | (go_at_call 43; (with_reducible refine (HC.out _).mono ?_); rintro e w2 ⟨rfl, rfl⟩))
  go_ret
  exact ⟨rfl, bl⟩
set_option maxRecDepth 100000 in
set_option maxHeartbeats 8000000 in
theorem rup_1g_o (q r y : Nat) (g : Bool) (w : World) (hr : 0 < r) (hry : r < y) (hy : (S y).size ≤ 4000) (hc : y < r + r) (hqs : (S q).size ≤ 4000) (hq : 0 < q) (ho : q % 2 = 1) : Calls Tryd.prog 25 #[.bool g, .string (S q), .string (S r), .string (S y), .int .i64 1] w fun e w' => e = .returned (.bool (upB g q r y 1)) ∧ Below w.heap.size w w' := by
  have hv : upB g q r y 1 = !g := by
    rw [up_v hr]
    skip
    rfl
  rw [hv]
  have hrs : (S r).size ≤ 4000 := S_less hy (Nat.le_of_lt hry)
  have e1 := tl_ne (S_pos hr)
  have e2 := tl_ne' (S_pos hr)
  have HS := Lib.hid (fun w => sum_any r r w hrs hrs)
  have hds : (S (r + r)).size ≤ 4001 := by have := size_dbl hrs; omega
  have HC := Lib.hid (fun w => rcmp_any (r + r) y w (by omega) (by omega))
  rw [show cmpN (r + r) y = 1 from cmpN_gt hc] at HC
  generalize S (r + r) = D at *
  have q1 := tl_ne (S_pos hq)
  have q2 := tl_ne' (S_pos hq)
  have hq3 : 0 < (S q).size := by have := S_pos hq; omega
  have hld := last_dig hq (by omega)
  have hd10 : q % 10 < 10 := Nat.mod_lt _ (by omega)
  have hd2 : q % 2 = q % 10 % 2 := by omega
  have hbq : ((((S q)[(S q).size - 1]'(by omega)).toNat - 48 : Int) % 2 == 1) = true := by rw [hld]; simp; omega
  clear hld hd10 hd2 ho
  clear hv hr hry hy hc hrs hds hq
  generalize S r = R at *
  generalize S y = Y at *
  go_enter Tryd.func25, Tryd.ntmps25
  go_wp2_with (first | (go_at_call 26; (with_reducible refine (HS.out _).mono ?_); rintro e w1 ⟨rfl, bl⟩) | (go_at_call 43; (with_reducible refine (HC.out _).mono ?_); rintro e w2 ⟨rfl, rfl⟩))
  go_ret
  exact ⟨rfl, bl⟩
set_option maxRecDepth 100000 in
set_option maxHeartbeats 8000000 in
theorem rup_1g_n (q r y : Nat) (g : Bool) (w : World) (hr : 0 < r) (hry : r < y) (hy : (S y).size ≤ 4000) (hc : y < r + r) (hqs : (S q).size ≤ 4000) (hq : 0 < q) (ho : ¬ q % 2 = 1) : Calls Tryd.prog 25 #[.bool g, .string (S q), .string (S r), .string (S y), .int .i64 1] w fun e w' => e = .returned (.bool (upB g q r y 1)) ∧ Below w.heap.size w w' := by
  have hv : upB g q r y 1 = !g := by
    rw [up_v hr]
    skip
    rfl
  rw [hv]
  have hrs : (S r).size ≤ 4000 := S_less hy (Nat.le_of_lt hry)
  have e1 := tl_ne (S_pos hr)
  have e2 := tl_ne' (S_pos hr)
  have HS := Lib.hid (fun w => sum_any r r w hrs hrs)
  have hds : (S (r + r)).size ≤ 4001 := by have := size_dbl hrs; omega
  have HC := Lib.hid (fun w => rcmp_any (r + r) y w (by omega) (by omega))
  rw [show cmpN (r + r) y = 1 from cmpN_gt hc] at HC
  generalize S (r + r) = D at *
  have q1 := tl_ne (S_pos hq)
  have q2 := tl_ne' (S_pos hq)
  have hq3 : 0 < (S q).size := by have := S_pos hq; omega
  have hld := last_dig hq (by omega)
  have hd10 : q % 10 < 10 := Nat.mod_lt _ (by omega)
  have hd2 : q % 2 = q % 10 % 2 := by omega
  have hbq : ((((S q)[(S q).size - 1]'(by omega)).toNat - 48 : Int) % 2 == 1) = false := by rw [hld]; simp; omega
  clear hld hd10 hd2 ho
  clear hv hr hry hy hc hrs hds hq
  generalize S r = R at *
  generalize S y = Y at *
  go_enter Tryd.func25, Tryd.ntmps25
  go_wp2_with (first | (go_at_call 26; (with_reducible refine (HS.out _).mono ?_); rintro e w1 ⟨rfl, bl⟩) | (go_at_call 43; (with_reducible refine (HC.out _).mono ?_); rintro e w2 ⟨rfl, rfl⟩))
  go_ret
  exact ⟨rfl, bl⟩
set_option maxRecDepth 100000 in
set_option maxHeartbeats 8000000 in
theorem rup_2l_q0 (q r y : Nat) (g : Bool) (w : World) (hr : 0 < r) (hry : r < y) (hy : (S y).size ≤ 4000) (hc : r + r < y) (hq : q = 0) : Calls Tryd.prog 25 #[.bool g, .string (S q), .string (S r), .string (S y), .int .i64 2] w fun e w' => e = .returned (.bool (upB g q r y 2)) ∧ Below w.heap.size w w' := by
  have hv : upB g q r y 2 = false := by
    rw [up_v hr]
    skip
    rfl
  rw [hv]
  have hrs : (S r).size ≤ 4000 := S_less hy (Nat.le_of_lt hry)
  have e1 := tl_ne (S_pos hr)
  have e2 := tl_ne' (S_pos hr)
  have HS := Lib.hid (fun w => sum_any r r w hrs hrs)
  have hds : (S (r + r)).size ≤ 4001 := by have := size_dbl hrs; omega
  have HC := Lib.hid (fun w => rcmp_any (r + r) y w (by omega) (by omega))
  rw [show cmpN (r + r) y = -1 from cmpN_lt hc] at HC
  generalize S (r + r) = D at *
  have q1 : (S q).toList = [] := tl_nil (by rw [hq]; rfl)
  clear hv hr hry hy hc hrs hds hq
  generalize S r = R at *
  generalize S y = Y at *
  generalize S q = Q at *
  go_enter Tryd.func25, Tryd.ntmps25
  go_wp2_with (first | (go_at_call 26; (with_reducible refine (HS.out _).mono ?_); rintro e w1 ⟨rfl, bl⟩) | (go_at_call 43; (with_reducible refine (HC.out _).mono ?_); rintro e w2 ⟨rfl, rfl⟩))
  go_ret
  exact ⟨rfl, bl⟩
set_option maxRecDepth 100000 in
set_option maxHeartbeats 8000000 in
theorem rup_2l_o (q r y : Nat) (g : Bool) (w : World) (hr : 0 < r) (hry : r < y) (hy : (S y).size ≤ 4000) (hc : r + r < y) (hqs : (S q).size ≤ 4000) (hq : 0 < q) (ho : q % 2 = 1) : Calls Tryd.prog 25 #[.bool g, .string (S q), .string (S r), .string (S y), .int .i64 2] w fun e w' => e = .returned (.bool (upB g q r y 2)) ∧ Below w.heap.size w w' := by
  have hv : upB g q r y 2 = false := by
    rw [up_v hr]
    skip
    rfl
  rw [hv]
  have hrs : (S r).size ≤ 4000 := S_less hy (Nat.le_of_lt hry)
  have e1 := tl_ne (S_pos hr)
  have e2 := tl_ne' (S_pos hr)
  have HS := Lib.hid (fun w => sum_any r r w hrs hrs)
  have hds : (S (r + r)).size ≤ 4001 := by have := size_dbl hrs; omega
  have HC := Lib.hid (fun w => rcmp_any (r + r) y w (by omega) (by omega))
  rw [show cmpN (r + r) y = -1 from cmpN_lt hc] at HC
  generalize S (r + r) = D at *
  have q1 := tl_ne (S_pos hq)
  have q2 := tl_ne' (S_pos hq)
  have hq3 : 0 < (S q).size := by have := S_pos hq; omega
  have hld := last_dig hq (by omega)
  have hd10 : q % 10 < 10 := Nat.mod_lt _ (by omega)
  have hd2 : q % 2 = q % 10 % 2 := by omega
  have hbq : ((((S q)[(S q).size - 1]'(by omega)).toNat - 48 : Int) % 2 == 1) = true := by rw [hld]; simp; omega
  clear hld hd10 hd2 ho
  clear hv hr hry hy hc hrs hds hq
  generalize S r = R at *
  generalize S y = Y at *
  go_enter Tryd.func25, Tryd.ntmps25
  go_wp2_with (first | (go_at_call 26; (with_reducible refine (HS.out _).mono ?_); rintro e w1 ⟨rfl, bl⟩) | (go_at_call 43; (with_reducible refine (HC.out _).mono ?_); rintro e w2 ⟨rfl, rfl⟩))
  go_ret
  exact ⟨rfl, bl⟩
set_option maxRecDepth 100000 in
set_option maxHeartbeats 8000000 in
theorem rup_2l_n (q r y : Nat) (g : Bool) (w : World) (hr : 0 < r) (hry : r < y) (hy : (S y).size ≤ 4000) (hc : r + r < y) (hqs : (S q).size ≤ 4000) (hq : 0 < q) (ho : ¬ q % 2 = 1) : Calls Tryd.prog 25 #[.bool g, .string (S q), .string (S r), .string (S y), .int .i64 2] w fun e w' => e = .returned (.bool (upB g q r y 2)) ∧ Below w.heap.size w w' := by
  have hv : upB g q r y 2 = false := by
    rw [up_v hr]
    skip
    rfl
  rw [hv]
  have hrs : (S r).size ≤ 4000 := S_less hy (Nat.le_of_lt hry)
  have e1 := tl_ne (S_pos hr)
  have e2 := tl_ne' (S_pos hr)
  have HS := Lib.hid (fun w => sum_any r r w hrs hrs)
  have hds : (S (r + r)).size ≤ 4001 := by have := size_dbl hrs; omega
  have HC := Lib.hid (fun w => rcmp_any (r + r) y w (by omega) (by omega))
  rw [show cmpN (r + r) y = -1 from cmpN_lt hc] at HC
  generalize S (r + r) = D at *
  have q1 := tl_ne (S_pos hq)
  have q2 := tl_ne' (S_pos hq)
  have hq3 : 0 < (S q).size := by have := S_pos hq; omega
  have hld := last_dig hq (by omega)
  have hd10 : q % 10 < 10 := Nat.mod_lt _ (by omega)
  have hd2 : q % 2 = q % 10 % 2 := by omega
  have hbq : ((((S q)[(S q).size - 1]'(by omega)).toNat - 48 : Int) % 2 == 1) = false := by rw [hld]; simp; omega
  clear hld hd10 hd2 ho
  clear hv hr hry hy hc hrs hds hq
  generalize S r = R at *
  generalize S y = Y at *
  go_enter Tryd.func25, Tryd.ntmps25
  go_wp2_with (first | (go_at_call 26; (with_reducible refine (HS.out _).mono ?_); rintro e w1 ⟨rfl, bl⟩) | (go_at_call 43; (with_reducible refine (HC.out _).mono ?_); rintro e w2 ⟨rfl, rfl⟩))
  go_ret
  exact ⟨rfl, bl⟩
set_option maxRecDepth 100000 in
set_option maxHeartbeats 8000000 in
theorem rup_2e_q0 (q r y : Nat) (g : Bool) (w : World) (hr : 0 < r) (hry : r < y) (hy : (S y).size ≤ 4000) (hc : r + r = y) (hq : q = 0) : Calls Tryd.prog 25 #[.bool g, .string (S q), .string (S r), .string (S y), .int .i64 2] w fun e w' => e = .returned (.bool (upB g q r y 2)) ∧ Below w.heap.size w w' := by
  have hv : upB g q r y 2 = false := by
    rw [up_v hr]
    skip
    rfl
  rw [hv]
  have hrs : (S r).size ≤ 4000 := S_less hy (Nat.le_of_lt hry)
  have e1 := tl_ne (S_pos hr)
  have e2 := tl_ne' (S_pos hr)
  have HS := Lib.hid (fun w => sum_any r r w hrs hrs)
  have hds : (S (r + r)).size ≤ 4001 := by have := size_dbl hrs; omega
  have HC := Lib.hid (fun w => rcmp_any (r + r) y w (by omega) (by omega))
  rw [show cmpN (r + r) y = 0 from (by rw [hc, cmpN_eq])] at HC
  generalize S (r + r) = D at *
  have q1 : (S q).toList = [] := tl_nil (by rw [hq]; rfl)
  clear hv hr hry hy hc hrs hds hq
  generalize S r = R at *
  generalize S y = Y at *
  generalize S q = Q at *
  go_enter Tryd.func25, Tryd.ntmps25
  go_wp2_with (first | (go_at_call 26; (with_reducible refine (HS.out _).mono ?_); rintro e w1 ⟨rfl, bl⟩) | (go_at_call 43; (with_reducible refine (HC.out _).mono ?_); rintro e w2 ⟨rfl, rfl⟩))
  go_ret
  exact ⟨rfl, bl⟩
set_option maxRecDepth 100000 in
set_option maxHeartbeats 8000000 in
theorem rup_2e_o (q r y : Nat) (g : Bool) (w : World) (hr : 0 < r) (hry : r < y) (hy : (S y).size ≤ 4000) (hc : r + r = y) (hqs : (S q).size ≤ 4000) (hq : 0 < q) (ho : q % 2 = 1) : Calls Tryd.prog 25 #[.bool g, .string (S q), .string (S r), .string (S y), .int .i64 2] w fun e w' => e = .returned (.bool (upB g q r y 2)) ∧ Below w.heap.size w w' := by
  have hv : upB g q r y 2 = false := by
    rw [up_v hr]
    skip
    rfl
  rw [hv]
  have hrs : (S r).size ≤ 4000 := S_less hy (Nat.le_of_lt hry)
  have e1 := tl_ne (S_pos hr)
  have e2 := tl_ne' (S_pos hr)
  have HS := Lib.hid (fun w => sum_any r r w hrs hrs)
  have hds : (S (r + r)).size ≤ 4001 := by have := size_dbl hrs; omega
  have HC := Lib.hid (fun w => rcmp_any (r + r) y w (by omega) (by omega))
  rw [show cmpN (r + r) y = 0 from (by rw [hc, cmpN_eq])] at HC
  generalize S (r + r) = D at *
  have q1 := tl_ne (S_pos hq)
  have q2 := tl_ne' (S_pos hq)
  have hq3 : 0 < (S q).size := by have := S_pos hq; omega
  have hld := last_dig hq (by omega)
  have hd10 : q % 10 < 10 := Nat.mod_lt _ (by omega)
  have hd2 : q % 2 = q % 10 % 2 := by omega
  have hbq : ((((S q)[(S q).size - 1]'(by omega)).toNat - 48 : Int) % 2 == 1) = true := by rw [hld]; simp; omega
  clear hld hd10 hd2 ho
  clear hv hr hry hy hc hrs hds hq
  generalize S r = R at *
  generalize S y = Y at *
  go_enter Tryd.func25, Tryd.ntmps25
  go_wp2_with (first | (go_at_call 26; (with_reducible refine (HS.out _).mono ?_); rintro e w1 ⟨rfl, bl⟩) | (go_at_call 43; (with_reducible refine (HC.out _).mono ?_); rintro e w2 ⟨rfl, rfl⟩))
  go_ret
  exact ⟨rfl, bl⟩
set_option maxRecDepth 100000 in
set_option maxHeartbeats 8000000 in
theorem rup_2e_n (q r y : Nat) (g : Bool) (w : World) (hr : 0 < r) (hry : r < y) (hy : (S y).size ≤ 4000) (hc : r + r = y) (hqs : (S q).size ≤ 4000) (hq : 0 < q) (ho : ¬ q % 2 = 1) : Calls Tryd.prog 25 #[.bool g, .string (S q), .string (S r), .string (S y), .int .i64 2] w fun e w' => e = .returned (.bool (upB g q r y 2)) ∧ Below w.heap.size w w' := by
  have hv : upB g q r y 2 = false := by
    rw [up_v hr]
    skip
    rfl
  rw [hv]
  have hrs : (S r).size ≤ 4000 := S_less hy (Nat.le_of_lt hry)
  have e1 := tl_ne (S_pos hr)
  have e2 := tl_ne' (S_pos hr)
  have HS := Lib.hid (fun w => sum_any r r w hrs hrs)
  have hds : (S (r + r)).size ≤ 4001 := by have := size_dbl hrs; omega
  have HC := Lib.hid (fun w => rcmp_any (r + r) y w (by omega) (by omega))
  rw [show cmpN (r + r) y = 0 from (by rw [hc, cmpN_eq])] at HC
  generalize S (r + r) = D at *
  have q1 := tl_ne (S_pos hq)
  have q2 := tl_ne' (S_pos hq)
  have hq3 : 0 < (S q).size := by have := S_pos hq; omega
  have hld := last_dig hq (by omega)
  have hd10 : q % 10 < 10 := Nat.mod_lt _ (by omega)
  have hd2 : q % 2 = q % 10 % 2 := by omega
  have hbq : ((((S q)[(S q).size - 1]'(by omega)).toNat - 48 : Int) % 2 == 1) = false := by rw [hld]; simp; omega
  clear hld hd10 hd2 ho
  clear hv hr hry hy hc hrs hds hq
  generalize S r = R at *
  generalize S y = Y at *
  go_enter Tryd.func25, Tryd.ntmps25
  go_wp2_with (first | (go_at_call 26; (with_reducible refine (HS.out _).mono ?_); rintro e w1 ⟨rfl, bl⟩) | (go_at_call 43; (with_reducible refine (HC.out _).mono ?_); rintro e w2 ⟨rfl, rfl⟩))
  go_ret
  exact ⟨rfl, bl⟩
set_option maxRecDepth 100000 in
set_option maxHeartbeats 8000000 in
theorem rup_2g_q0 (q r y : Nat) (g : Bool) (w : World) (hr : 0 < r) (hry : r < y) (hy : (S y).size ≤ 4000) (hc : y < r + r) (hq : q = 0) : Calls Tryd.prog 25 #[.bool g, .string (S q), .string (S r), .string (S y), .int .i64 2] w fun e w' => e = .returned (.bool (upB g q r y 2)) ∧ Below w.heap.size w w' := by
  have hv : upB g q r y 2 = false := by
    rw [up_v hr]
    skip
    rfl
  rw [hv]
  have hrs : (S r).size ≤ 4000 := S_less hy (Nat.le_of_lt hry)
  have e1 := tl_ne (S_pos hr)
  have e2 := tl_ne' (S_pos hr)
  have HS := Lib.hid (fun w => sum_any r r w hrs hrs)
  have hds : (S (r + r)).size ≤ 4001 := by have := size_dbl hrs; omega
  have HC := Lib.hid (fun w => rcmp_any (r + r) y w (by omega) (by omega))
  rw [show cmpN (r + r) y = 1 from cmpN_gt hc] at HC
  generalize S (r + r) = D at *
  have q1 : (S q).toList = [] := tl_nil (by rw [hq]; rfl)
  clear hv hr hry hy hc hrs hds hq
  generalize S r = R at *
  generalize S y = Y at *
  generalize S q = Q at *
  go_enter Tryd.func25, Tryd.ntmps25
  go_wp2_with (first | (go_at_call 26; (with_reducible refine (HS.out _).mono ?_); rintro e w1 ⟨rfl, bl⟩) | (go_at_call 43; (with_reducible refine (HC.out _).mono ?_); rintro e w2 ⟨rfl, rfl⟩))
  go_ret
  exact ⟨rfl, bl⟩
set_option maxRecDepth 100000 in
set_option maxHeartbeats 8000000 in
theorem rup_2g_o (q r y : Nat) (g : Bool) (w : World) (hr : 0 < r) (hry : r < y) (hy : (S y).size ≤ 4000) (hc : y < r + r) (hqs : (S q).size ≤ 4000) (hq : 0 < q) (ho : q % 2 = 1) : Calls Tryd.prog 25 #[.bool g, .string (S q), .string (S r), .string (S y), .int .i64 2] w fun e w' => e = .returned (.bool (upB g q r y 2)) ∧ Below w.heap.size w w' := by
  have hv : upB g q r y 2 = false := by
    rw [up_v hr]
    skip
    rfl
  rw [hv]
  have hrs : (S r).size ≤ 4000 := S_less hy (Nat.le_of_lt hry)
  have e1 := tl_ne (S_pos hr)
  have e2 := tl_ne' (S_pos hr)
  have HS := Lib.hid (fun w => sum_any r r w hrs hrs)
  have hds : (S (r + r)).size ≤ 4001 := by have := size_dbl hrs; omega
  have HC := Lib.hid (fun w => rcmp_any (r + r) y w (by omega) (by omega))
  rw [show cmpN (r + r) y = 1 from cmpN_gt hc] at HC
  generalize S (r + r) = D at *
  have q1 := tl_ne (S_pos hq)
  have q2 := tl_ne' (S_pos hq)
  have hq3 : 0 < (S q).size := by have := S_pos hq; omega
  have hld := last_dig hq (by omega)
  have hd10 : q % 10 < 10 := Nat.mod_lt _ (by omega)
  have hd2 : q % 2 = q % 10 % 2 := by omega
  have hbq : ((((S q)[(S q).size - 1]'(by omega)).toNat - 48 : Int) % 2 == 1) = true := by rw [hld]; simp; omega
  clear hld hd10 hd2 ho
  clear hv hr hry hy hc hrs hds hq
  generalize S r = R at *
  generalize S y = Y at *
  go_enter Tryd.func25, Tryd.ntmps25
  go_wp2_with (first | (go_at_call 26; (with_reducible refine (HS.out _).mono ?_); rintro e w1 ⟨rfl, bl⟩) | (go_at_call 43; (with_reducible refine (HC.out _).mono ?_); rintro e w2 ⟨rfl, rfl⟩))
  go_ret
  exact ⟨rfl, bl⟩
set_option maxRecDepth 100000 in
set_option maxHeartbeats 8000000 in
theorem rup_2g_n (q r y : Nat) (g : Bool) (w : World) (hr : 0 < r) (hry : r < y) (hy : (S y).size ≤ 4000) (hc : y < r + r) (hqs : (S q).size ≤ 4000) (hq : 0 < q) (ho : ¬ q % 2 = 1) : Calls Tryd.prog 25 #[.bool g, .string (S q), .string (S r), .string (S y), .int .i64 2] w fun e w' => e = .returned (.bool (upB g q r y 2)) ∧ Below w.heap.size w w' := by
  have hv : upB g q r y 2 = false := by
    rw [up_v hr]
    skip
    rfl
  rw [hv]
  have hrs : (S r).size ≤ 4000 := S_less hy (Nat.le_of_lt hry)
  have e1 := tl_ne (S_pos hr)
  have e2 := tl_ne' (S_pos hr)
  have HS := Lib.hid (fun w => sum_any r r w hrs hrs)
  have hds : (S (r + r)).size ≤ 4001 := by have := size_dbl hrs; omega
  have HC := Lib.hid (fun w => rcmp_any (r + r) y w (by omega) (by omega))
  rw [show cmpN (r + r) y = 1 from cmpN_gt hc] at HC
  generalize S (r + r) = D at *
  have q1 := tl_ne (S_pos hq)
  have q2 := tl_ne' (S_pos hq)
  have hq3 : 0 < (S q).size := by have := S_pos hq; omega
  have hld := last_dig hq (by omega)
  have hd10 : q % 10 < 10 := Nat.mod_lt _ (by omega)
  have hd2 : q % 2 = q % 10 % 2 := by omega
  have hbq : ((((S q)[(S q).size - 1]'(by omega)).toNat - 48 : Int) % 2 == 1) = false := by rw [hld]; simp; omega
  clear hld hd10 hd2 ho
  clear hv hr hry hy hc hrs hds hq
  generalize S r = R at *
  generalize S y = Y at *
  go_enter Tryd.func25, Tryd.ntmps25
  go_wp2_with (first | (go_at_call 26; (with_reducible refine (HS.out _).mono ?_); rintro e w1 ⟨rfl, bl⟩) | (go_at_call 43; (with_reducible refine (HC.out _).mono ?_); rintro e w2 ⟨rfl, rfl⟩))
  go_ret
  exact ⟨rfl, bl⟩
set_option maxRecDepth 100000 in
set_option maxHeartbeats 8000000 in
theorem rup_3l_q0 (q r y : Nat) (g : Bool) (w : World) (hr : 0 < r) (hry : r < y) (hy : (S y).size ≤ 4000) (hc : r + r < y) (hq : q = 0) : Calls Tryd.prog 25 #[.bool g, .string (S q), .string (S r), .string (S y), .int .i64 3] w fun e w' => e = .returned (.bool (upB g q r y 3)) ∧ Below w.heap.size w w' := by
  have hv : upB g q r y 3 = false := by
    rw [up_v hr]
    simp only [show ¬ ((3 : Int) = 0) by decide, if_false, show ¬ ((3 : Int) = 1) by decide, show ¬ ((3 : Int) = 2) by decide, if_true]
    rw [decide_eq_false (by omega), decide_eq_false (by omega)]; rfl
  rw [hv]
  have hrs : (S r).size ≤ 4000 := S_less hy (Nat.le_of_lt hry)
  have e1 := tl_ne (S_pos hr)
  have e2 := tl_ne' (S_pos hr)
  have HS := Lib.hid (fun w => sum_any r r w hrs hrs)
  have hds : (S (r + r)).size ≤ 4001 := by have := size_dbl hrs; omega
  have HC := Lib.hid (fun w => rcmp_any (r + r) y w (by omega) (by omega))
  rw [show cmpN (r + r) y = -1 from cmpN_lt hc] at HC
  generalize S (r + r) = D at *
  have q1 : (S q).toList = [] := tl_nil (by rw [hq]; rfl)
  clear hv hr hry hy hc hrs hds hq
  generalize S r = R at *
  generalize S y = Y at *
  generalize S q = Q at *
  go_enter Tryd.func25, Tryd.ntmps25
  go_wp2_with (first | (go_at_call 26; (with_reducible refine (HS.out _).mono ?_); rintro e w1 ⟨rfl, bl⟩) | (go_at_call 43; (with_reducible refine (HC.out _).mono ?_); rintro e w2 ⟨rfl, rfl⟩))
  go_ret
  exact ⟨rfl, bl⟩
set_option maxRecDepth 100000 in
set_option maxHeartbeats 8000000 in
theorem rup_3l_o (q r y : Nat) (g : Bool) (w : World) (hr : 0 < r) (hry : r < y) (hy : (S y).size ≤ 4000) (hc : r + r < y) (hqs : (S q).size ≤ 4000) (hq : 0 < q) (ho : q % 2 = 1) : Calls Tryd.prog 25 #[.bool g, .string (S q), .string (S r), .string (S y), .int .i64 3] w fun e w' => e = .returned (.bool (upB g q r y 3)) ∧ Below w.heap.size w w' := by
  have hv : upB g q r y 3 = false := by
    rw [up_v hr]
    simp only [show ¬ ((3 : Int) = 0) by decide, if_false, show ¬ ((3 : Int) = 1) by decide, show ¬ ((3 : Int) = 2) by decide, if_true]
    rw [decide_eq_false (by omega), decide_eq_false (by omega)]; rfl
  rw [hv]
  have hrs : (S r).size ≤ 4000 := S_less hy (Nat.le_of_lt hry)
  have e1 := tl_ne (S_pos hr)
  have e2 := tl_ne' (S_pos hr)
  have HS := Lib.hid (fun w => sum_any r r w hrs hrs)
  have hds : (S (r + r)).size ≤ 4001 := by have := size_dbl hrs; omega
  have HC := Lib.hid (fun w => rcmp_any (r + r) y w (by omega) (by omega))
  rw [show cmpN (r + r) y = -1 from cmpN_lt hc] at HC
  generalize S (r + r) = D at *
  have q1 := tl_ne (S_pos hq)
  have q2 := tl_ne' (S_pos hq)
  have hq3 : 0 < (S q).size := by have := S_pos hq; omega
  have hld := last_dig hq (by omega)
  have hd10 : q % 10 < 10 := Nat.mod_lt _ (by omega)
  have hd2 : q % 2 = q % 10 % 2 := by omega
  have hbq : ((((S q)[(S q).size - 1]'(by omega)).toNat - 48 : Int) % 2 == 1) = true := by rw [hld]; simp; omega
  clear hld hd10 hd2 ho
  clear hv hr hry hy hc hrs hds hq
  generalize S r = R at *
  generalize S y = Y at *
  go_enter Tryd.func25, Tryd.ntmps25
  go_wp2_with (first | (go_at_call 26; (with_reducible refine (HS.out _).mono ?_); rintro e w1 ⟨rfl, bl⟩) | (go_at_call 43; (with_reducible refine (HC.out _).mono ?_); rintro e w2 ⟨rfl, rfl⟩))
  go_ret
  exact ⟨rfl, bl⟩
set_option maxRecDepth 100000 in
set_option maxHeartbeats 8000000 in
theorem rup_3l_n (q r y : Nat) (g : Bool) (w : World) (hr : 0 < r) (hry : r < y) (hy : (S y).size ≤ 4000) (hc : r + r < y) (hqs : (S q).size ≤ 4000) (hq : 0 < q) (ho : ¬ q % 2 = 1) : Calls Tryd.prog 25 #[.bool g, .string (S q), .string (S r), .string (S y), .int .i64 3] w fun e w' => e = .returned (.bool (upB g q r y 3)) ∧ Below w.heap.size w w' := by
  have hv : upB g q r y 3 = false := by
    rw [up_v hr]
    simp only [show ¬ ((3 : Int) = 0) by decide, if_false, show ¬ ((3 : Int) = 1) by decide, show ¬ ((3 : Int) = 2) by decide, if_true]
    rw [decide_eq_false (by omega), decide_eq_false (by omega)]; rfl
  rw [hv]
  have hrs : (S r).size ≤ 4000 := S_less hy (Nat.le_of_lt hry)
  have e1 := tl_ne (S_pos hr)
  have e2 := tl_ne' (S_pos hr)
  have HS := Lib.hid (fun w => sum_any r r w hrs hrs)
  have hds : (S (r + r)).size ≤ 4001 := by have := size_dbl hrs; omega
  have HC := Lib.hid (fun w => rcmp_any (r + r) y w (by omega) (by omega))
  rw [show cmpN (r + r) y = -1 from cmpN_lt hc] at HC
  generalize S (r + r) = D at *
  have q1 := tl_ne (S_pos hq)
  have q2 := tl_ne' (S_pos hq)
  have hq3 : 0 < (S q).size := by have := S_pos hq; omega
  have hld := last_dig hq (by omega)
  have hd10 : q % 10 < 10 := Nat.mod_lt _ (by omega)
  have hd2 : q % 2 = q % 10 % 2 := by omega
  have hbq : ((((S q)[(S q).size - 1]'(by omega)).toNat - 48 : Int) % 2 == 1) = false := by rw [hld]; simp; omega
  clear hld hd10 hd2 ho
  clear hv hr hry hy hc hrs hds hq
  generalize S r = R at *
  generalize S y = Y at *
  go_enter Tryd.func25, Tryd.ntmps25
  go_wp2_with (first | (go_at_call 26; (with_reducible refine (HS.out _).mono ?_); rintro e w1 ⟨rfl, bl⟩) | (go_at_call 43; (with_reducible refine (HC.out _).mono ?_); rintro e w2 ⟨rfl, rfl⟩))
  go_ret
  exact ⟨rfl, bl⟩
set_option maxRecDepth 100000 in
set_option maxHeartbeats 8000000 in
theorem rup_3e_q0 (q r y : Nat) (g : Bool) (w : World) (hr : 0 < r) (hry : r < y) (hy : (S y).size ≤ 4000) (hc : r + r = y) (hq : q = 0) : Calls Tryd.prog 25 #[.bool g, .string (S q), .string (S r), .string (S y), .int .i64 3] w fun e w' => e = .returned (.bool (upB g q r y 3)) ∧ Below w.heap.size w w' := by
  have hv : upB g q r y 3 = false := by
    rw [up_v hr]
    simp only [show ¬ ((3 : Int) = 0) by decide, if_false, show ¬ ((3 : Int) = 1) by decide, show ¬ ((3 : Int) = 2) by decide, if_true]
    rw [decide_eq_false (by omega), decide_eq_true hc, decide_eq_false (by omega)]; rfl
  rw [hv]
  have hrs : (S r).size ≤ 4000 := S_less hy (Nat.le_of_lt hry)
  have e1 := tl_ne (S_pos hr)
  have e2 := tl_ne' (S_pos hr)
  have HS := Lib.hid (fun w => sum_any r r w hrs hrs)
  have hds : (S (r + r)).size ≤ 4001 := by have := size_dbl hrs; omega
  have HC := Lib.hid (fun w => rcmp_any (r + r) y w (by omega) (by omega))
  rw [show cmpN (r + r) y = 0 from (by rw [hc, cmpN_eq])] at HC
  generalize S (r + r) = D at *
  have q1 : (S q).toList = [] := tl_nil (by rw [hq]; rfl)
  clear hv hr hry hy hc hrs hds hq
  generalize S r = R at *
  generalize S y = Y at *
  generalize S q = Q at *
  go_enter Tryd.func25, Tryd.ntmps25
  go_wp2_with (first | (go_at_call 26; (with_reducible refine (HS.out _).mono ?_); rintro e w1 ⟨rfl, bl⟩) | (go_at_call 43; (with_reducible refine (HC.out _).mono ?_); rintro e w2 ⟨rfl, rfl⟩))
  go_ret
  exact ⟨rfl, bl⟩
set_option maxRecDepth 100000 in
set_option maxHeartbeats 8000000 in
theorem rup_3e_o (q r y : Nat) (g : Bool) (w : World) (hr : 0 < r) (hry : r < y) (hy : (S y).size ≤ 4000) (hc : r + r = y) (hqs : (S q).size ≤ 4000) (hq : 0 < q) (ho : q % 2 = 1) : Calls Tryd.prog 25 #[.bool g, .string (S q), .string (S r), .string (S y), .int .i64 3] w fun e w' => e = .returned (.bool (upB g q r y 3)) ∧ Below w.heap.size w w' := by
  have hv : upB g q r y 3 = true := by
    rw [up_v hr]
    simp only [show ¬ ((3 : Int) = 0) by decide, if_false, show ¬ ((3 : Int) = 1) by decide, show ¬ ((3 : Int) = 2) by decide, if_true]
    rw [decide_eq_false (by omega), decide_eq_true hc, decide_eq_true ho]; rfl
  rw [hv]
  have hrs : (S r).size ≤ 4000 := S_less hy (Nat.le_of_lt hry)
  have e1 := tl_ne (S_pos hr)
  have e2 := tl_ne' (S_pos hr)
  have HS := Lib.hid (fun w => sum_any r r w hrs hrs)
  have hds : (S (r + r)).size ≤ 4001 := by have := size_dbl hrs; omega
  have HC := Lib.hid (fun w => rcmp_any (r + r) y w (by omega) (by omega))
  rw [show cmpN (r + r) y = 0 from (by rw [hc, cmpN_eq])] at HC
  generalize S (r + r) = D at *
  have q1 := tl_ne (S_pos hq)
  have q2 := tl_ne' (S_pos hq)
  have hq3 : 0 < (S q).size := by have := S_pos hq; omega
  have hld := last_dig hq (by omega)
  have hd10 : q % 10 < 10 := Nat.mod_lt _ (by omega)
  have hd2 : q % 2 = q % 10 % 2 := by omega
  have hbq : ((((S q)[(S q).size - 1]'(by omega)).toNat - 48 : Int) % 2 == 1) = true := by rw [hld]; simp; omega
  clear hld hd10 hd2 ho
  clear hv hr hry hy hc hrs hds hq
  generalize S r = R at *
  generalize S y = Y at *
  go_enter Tryd.func25, Tryd.ntmps25
  go_wp2_with (first | (go_at_call 26; (with_reducible refine (HS.out _).mono ?_); rintro e w1 ⟨rfl, bl⟩) | (go_at_call 43; (with_reducible refine (HC.out _).mono ?_); rintro e w2 ⟨rfl, rfl⟩))
  go_ret
  exact ⟨rfl, bl⟩
set_option maxRecDepth 100000 in
set_option maxHeartbeats 8000000 in
theorem rup_3e_n (q r y : Nat) (g : Bool) (w : World) (hr : 0 < r) (hry : r < y) (hy : (S y).size ≤ 4000) (hc : r + r = y) (hqs : (S q).size ≤ 4000) (hq : 0 < q) (ho : ¬ q % 2 = 1) : Calls Tryd.prog 25 #[.bool g, .string (S q), .string (S r), .string (S y), .int .i64 3] w fun e w' => e = .returned (.bool (upB g q r y 3)) ∧ Below w.heap.size w w' := by
  have hv : upB g q r y 3 = false := by
    rw [up_v hr]
    simp only [show ¬ ((3 : Int) = 0) by decide, if_false, show ¬ ((3 : Int) = 1) by decide, show ¬ ((3 : Int) = 2) by decide, if_true]
    rw [decide_eq_false (by omega), decide_eq_true hc, decide_eq_false ho]; rfl
  rw [hv]
  have hrs : (S r).size ≤ 4000 := S_less hy (Nat.le_of_lt hry)
  have e1 := tl_ne (S_pos hr)
  have e2 := tl_ne' (S_pos hr)
  have HS := Lib.hid (fun w => sum_any r r w hrs hrs)
  have hds : (S (r + r)).size ≤ 4001 := by have := size_dbl hrs; omega
  have HC := Lib.hid (fun w => rcmp_any (r + r) y w (by omega) (by omega))
  rw [show cmpN (r + r) y = 0 from (by rw [hc, cmpN_eq])] at HC
  generalize S (r + r) = D at *
  have q1 := tl_ne (S_pos hq)
  have q2 := tl_ne' (S_pos hq)
  have hq3 : 0 < (S q).size := by have := S_pos hq; omega
  have hld := last_dig hq (by omega)
  have hd10 : q % 10 < 10 := Nat.mod_lt _ (by omega)
  have hd2 : q % 2 = q % 10 % 2 := by omega
  have hbq : ((((S q)[(S q).size - 1]'(by omega)).toNat - 48 : Int) % 2 == 1) = false := by rw [hld]; simp; omega
  clear hld hd10 hd2 ho
  clear hv hr hry hy hc hrs hds hq
  generalize S r = R at *
  generalize S y = Y at *
  go_enter Tryd.func25, Tryd.ntmps25
  go_wp2_with (first | (go_at_call 26; (with_reducible refine (HS.out _).mono ?_); rintro e w1 ⟨rfl, bl⟩) | (go_at_call 43; (with_reducible refine (HC.out _).mono ?_); rintro e w2 ⟨rfl, rfl⟩))
  go_ret
  exact ⟨rfl, bl⟩
set_option maxRecDepth 100000 in
set_option maxHeartbeats 8000000 in
theorem rup_3g_q0 (q r y : Nat) (g : Bool) (w : World) (hr : 0 < r) (hry : r < y) (hy : (S y).size ≤ 4000) (hc : y < r + r) (hq : q = 0) : Calls Tryd.prog 25 #[.bool g, .string (S q), .string (S r), .string (S y), .int .i64 3] w fun e w' => e = .returned (.bool (upB g q r y 3)) ∧ Below w.heap.size w w' := by
  have hv : upB g q r y 3 = true := by
    rw [up_v hr]
    simp only [show ¬ ((3 : Int) = 0) by decide, if_false, show ¬ ((3 : Int) = 1) by decide, show ¬ ((3 : Int) = 2) by decide, if_true]
    rw [decide_eq_true hc]; rfl
  rw [hv]
  have hrs : (S r).size ≤ 4000 := S_less hy (Nat.le_of_lt hry)
  have e1 := tl_ne (S_pos hr)
  have e2 := tl_ne' (S_pos hr)
  have HS := Lib.hid (fun w => sum_any r r w hrs hrs)
  have hds : (S (r + r)).size ≤ 4001 := by have := size_dbl hrs; omega
  have HC := Lib.hid (fun w => rcmp_any (r + r) y w (by omega) (by omega))
  rw [show cmpN (r + r) y = 1 from cmpN_gt hc] at HC
  generalize S (r + r) = D at *
  have q1 : (S q).toList = [] := tl_nil (by rw [hq]; rfl)
  clear hv hr hry hy hc hrs hds hq
  generalize S r = R at *
  generalize S y = Y at *
  generalize S q = Q at *
  go_enter Tryd.func25, Tryd.ntmps25
  go_wp2_with (first | (go_at_call 26; (with_reducible refine (HS.out _).mono ?_); rintro e w1 ⟨rfl, bl⟩) | (go_at_call 43; (with_reducible refine (HC.out _).mono ?_); rintro e w2 ⟨rfl, rfl⟩))
  go_ret
  exact ⟨rfl, bl⟩
set_option maxRecDepth 100000 in
set_option maxHeartbeats 8000000 in
theorem rup_3g_o (q r y : Nat) (g : Bool) (w : World) (hr : 0 < r) (hry : r < y) (hy : (S y).size ≤ 4000) (hc : y < r + r) (hqs : (S q).size ≤ 4000) (hq : 0 < q) (ho : q % 2 = 1) : Calls Tryd.prog 25 #[.bool g, .string (S q), .string (S r), .string (S y), .int .i64 3] w fun e w' => e = .returned (.bool (upB g q r y 3)) ∧ Below w.heap.size w w' := by
  have hv : upB g q r y 3 = true := by
    rw [up_v hr]
    simp only [show ¬ ((3 : Int) = 0) by decide, if_false, show ¬ ((3 : Int) = 1) by decide, show ¬ ((3 : Int) = 2) by decide, if_true]
    rw [decide_eq_true hc]; rfl
  rw [hv]
  have hrs : (S r).size ≤ 4000 := S_less hy (Nat.le_of_lt hry)
  have e1 := tl_ne (S_pos hr)
  have e2 := tl_ne' (S_pos hr)
  have HS := Lib.hid (fun w => sum_any r r w hrs hrs)
  have hds : (S (r + r)).size ≤ 4001 := by have := size_dbl hrs; omega
  have HC := Lib.hid (fun w => rcmp_any (r + r) y w (by omega) (by omega))
  rw [show cmpN (r + r) y = 1 from cmpN_gt hc] at HC
  generalize S (r + r) = D at *
  have q1 := tl_ne (S_pos hq)
  have q2 := tl_ne' (S_pos hq)
  have hq3 : 0 < (S q).size := by have := S_pos hq; omega
  have hld := last_dig hq (by omega)
  have hd10 : q % 10 < 10 := Nat.mod_lt _ (by omega)
  have hd2 : q % 2 = q % 10 % 2 := by omega
  have hbq : ((((S q)[(S q).size - 1]'(by omega)).toNat - 48 : Int) % 2 == 1) = true := by rw [hld]; simp; omega
  clear hld hd10 hd2 ho
  clear hv hr hry hy hc hrs hds hq
  generalize S r = R at *
  generalize S y = Y at *
  go_enter Tryd.func25, Tryd.ntmps25
  go_wp2_with (first | (go_at_call 26; (with_reducible refine (HS.out _).mono ?_); rintro e w1 ⟨rfl, bl⟩) | (go_at_call 43; (with_reducible refine (HC.out _).mono ?_); rintro e w2 ⟨rfl, rfl⟩))
  go_ret
  exact ⟨rfl, bl⟩
set_option maxRecDepth 100000 in
set_option maxHeartbeats 8000000 in
theorem rup_3g_n (q r y : Nat) (g : Bool) (w : World) (hr : 0 < r) (hry : r < y) (hy : (S y).size ≤ 4000) (hc : y < r + r) (hqs : (S q).size ≤ 4000) (hq : 0 < q) (ho : ¬ q % 2 = 1) : Calls Tryd.prog 25 #[.bool g, .string (S q), .string (S r), .string (S y), .int .i64 3] w fun e w' => e = .returned (.bool (upB g q r y 3)) ∧ Below w.heap.size w w' := by
  have hv : upB g q r y 3 = true := by
    rw [up_v hr]
    simp only [show ¬ ((3 : Int) = 0) by decide, if_false, show ¬ ((3 : Int) = 1) by decide, show ¬ ((3 : Int) = 2) by decide, if_true]
    rw [decide_eq_true hc]; rfl
  rw [hv]
  have hrs : (S r).size ≤ 4000 := S_less hy (Nat.le_of_lt hry)
  have e1 := tl_ne (S_pos hr)
  have e2 := tl_ne' (S_pos hr)
  have HS := Lib.hid (fun w => sum_any r r w hrs hrs)
  have hds : (S (r + r)).size ≤ 4001 := by have := size_dbl hrs; omega
  have HC := Lib.hid (fun w => rcmp_any (r + r) y w (by omega) (by omega))
  rw [show cmpN (r + r) y = 1 from cmpN_gt hc] at HC
  generalize S (r + r) = D at *
  have q1 := tl_ne (S_pos hq)
  have q2 := tl_ne' (S_pos hq)
  have hq3 : 0 < (S q).size := by have := S_pos hq; omega
  have hld := last_dig hq (by omega)
  have hd10 : q % 10 < 10 := Nat.mod_lt _ (by omega)
  have hd2 : q % 2 = q % 10 % 2 := by omega
  have hbq : ((((S q)[(S q).size - 1]'(by omega)).toNat - 48 : Int) % 2 == 1) = false := by rw [hld]; simp; omega
  clear hld hd10 hd2 ho
  clear hv hr hry hy hc hrs hds hq
  generalize S r = R at *
  generalize S y = Y at *
  go_enter Tryd.func25, Tryd.ntmps25
  go_wp2_with (first | (go_at_call 26; (with_reducible refine (HS.out _).mono ?_); rintro e w1 ⟨rfl, bl⟩) | (go_at_call 43; (with_reducible refine (HC.out _).mono ?_); rintro e w2 ⟨rfl, rfl⟩))
  go_ret
  exact ⟨rfl, bl⟩
set_option maxRecDepth 100000 in
set_option maxHeartbeats 8000000 in
theorem rup_4l_q0 (q r y : Nat) (g : Bool) (w : World) (hr : 0 < r) (hry : r < y) (hy : (S y).size ≤ 4000) (hc : r + r < y) (hq : q = 0) : Calls Tryd.prog 25 #[.bool g, .string (S q), .string (S r), .string (S y), .int .i64 4] w fun e w' => e = .returned (.bool (upB g q r y 4)) ∧ Below w.heap.size w w' := by
  have hv : upB g q r y 4 = false := by
    rw [up_v hr]
    simp only [show ¬ ((4 : Int) = 0) by decide, if_false, show ¬ ((4 : Int) = 1) by decide, show ¬ ((4 : Int) = 2) by decide, show ¬ ((4 : Int) = 3) by decide]
    exact decide_eq_false (by omega)
  rw [hv]
  have hrs : (S r).size ≤ 4000 := S_less hy (Nat.le_of_lt hry)
  have e1 := tl_ne (S_pos hr)
  have e2 := tl_ne' (S_pos hr)
  have HS := Lib.hid (fun w => sum_any r r w hrs hrs)
  have hds : (S (r + r)).size ≤ 4001 := by have := size_dbl hrs; omega
  have HC := Lib.hid (fun w => rcmp_any (r + r) y w (by omega) (by omega))
  rw [show cmpN (r + r) y = -1 from cmpN_lt hc] at HC
  generalize S (r + r) = D at *
  have q1 : (S q).toList = [] := tl_nil (by rw [hq]; rfl)
  clear hv hr hry hy hc hrs hds hq
  generalize S r = R at *
  generalize S y = Y at *
  generalize S q = Q at *
  go_enter Tryd.func25, Tryd.ntmps25
  go_wp2_with (first | (go_at_call 26; (with_reducible refine (HS.out _).mono ?_); rintro e w1 ⟨rfl, bl⟩) | (go_at_call 43; (with_reducible refine (HC.out _).mono ?_); rintro e w2 ⟨rfl, rfl⟩))
  go_ret
  exact ⟨rfl, bl⟩
set_option maxRecDepth 100000 in
set_option maxHeartbeats 8000000 in
theorem rup_4l_o (q r y : Nat) (g : Bool) (w : World) (hr : 0 < r) (hry : r < y) (hy : (S y).size ≤ 4000) (hc : r + r < y) (hqs : (S q).size ≤ 4000) (hq : 0 < q) (ho : q % 2 = 1) : Calls Tryd.prog 25 #[.bool g, .string (S q), .string (S r), .string (S y), .int .i64 4] w fun e w' => e = .returned (.bool (upB g q r y 4)) ∧ Below w.heap.size w w' := by
  have hv : upB g q r y 4 = false := by
    rw [up_v hr]
    simp only [show ¬ ((4 : Int) = 0) by decide, if_false, show ¬ ((4 : Int) = 1) by decide, show ¬ ((4 : Int) = 2) by decide, show ¬ ((4 : Int) = 3) by decide]
    exact decide_eq_false (by omega)
  rw [hv]
  have hrs : (S r).size ≤ 4000 := S_less hy (Nat.le_of_lt hry)
  have e1 := tl_ne (S_pos hr)
  have e2 := tl_ne' (S_pos hr)
  have HS := Lib.hid (fun w => sum_any r r w hrs hrs)
  have hds : (S (r + r)).size ≤ 4001 := by have := size_dbl hrs; omega
  have HC := Lib.hid (fun w => rcmp_any (r + r) y w (by omega) (by omega))
  rw [show cmpN (r + r) y = -1 from cmpN_lt hc] at HC
  generalize S (r + r) = D at *
  have q1 := tl_ne (S_pos hq)
  have q2 := tl_ne' (S_pos hq)
  have hq3 : 0 < (S q).size := by have := S_pos hq; omega
  have hld := last_dig hq (by omega)
  have hd10 : q % 10 < 10 := Nat.mod_lt _ (by omega)
  have hd2 : q % 2 = q % 10 % 2 := by omega
  have hbq : ((((S q)[(S q).size - 1]'(by omega)).toNat - 48 : Int) % 2 == 1) = true := by rw [hld]; simp; omega
  clear hld hd10 hd2 ho
  clear hv hr hry hy hc hrs hds hq
  generalize S r = R at *
  generalize S y = Y at *
  go_enter Tryd.func25, Tryd.ntmps25
  go_wp2_with (first | (go_at_call 26; (with_reducible refine (HS.out _).mono ?_); rintro e w1 ⟨rfl, bl⟩) | (go_at_call 43; (with_reducible refine (HC.out _).mono ?_); rintro e w2 ⟨rfl, rfl⟩))
  go_ret
  exact ⟨rfl, bl⟩
set_option maxRecDepth 100000 in
set_option maxHeartbeats 8000000 in
theorem rup_4l_n (q r y : Nat) (g : Bool) (w : World) (hr : 0 < r) (hry : r < y) (hy : (S y).size ≤ 4000) (hc : r + r < y) (hqs : (S q).size ≤ 4000) (hq : 0 < q) (ho : ¬ q % 2 = 1) : Calls Tryd.prog 25 #[.bool g, .string (S q), .string (S r), .string (S y), .int .i64 4] w fun e w' => e = .returned (.bool (upB g q r y 4)) ∧ Below w.heap.size w w' := by
  have hv : upB g q r y 4 = false := by
    rw [up_v hr]
    simp only [show ¬ ((4 : Int) = 0) by decide, if_false, show ¬ ((4 : Int) = 1) by decide, show ¬ ((4 : Int) = 2) by decide, show ¬ ((4 : Int) = 3) by decide]
    exact decide_eq_false (by omega)
  rw [hv]
  have hrs : (S r).size ≤ 4000 := S_less hy (Nat.le_of_lt hry)
  have e1 := tl_ne (S_pos hr)
  have e2 := tl_ne' (S_pos hr)
  have HS := Lib.hid (fun w => sum_any r r w hrs hrs)
  have hds : (S (r + r)).size ≤ 4001 := by have := size_dbl hrs; omega
  have HC := Lib.hid (fun w => rcmp_any (r + r) y w (by omega) (by omega))
  rw [show cmpN (r + r) y = -1 from cmpN_lt hc] at HC
  generalize S (r + r) = D at *
  have q1 := tl_ne (S_pos hq)
  have q2 := tl_ne' (S_pos hq)
  have hq3 : 0 < (S q).size := by have := S_pos hq; omega
  have hld := last_dig hq (by omega)
  have hd10 : q % 10 < 10 := Nat.mod_lt _ (by omega)
  have hd2 : q % 2 = q % 10 % 2 := by omega
  have hbq : ((((S q)[(S q).size - 1]'(by omega)).toNat - 48 : Int) % 2 == 1) = false := by rw [hld]; simp; omega
  clear hld hd10 hd2 ho
  clear hv hr hry hy hc hrs hds hq
  generalize S r = R at *
  generalize S y = Y at *
  go_enter Tryd.func25, Tryd.ntmps25
  go_wp2_with (first | (go_at_call 26; (with_reducible refine (HS.out _).mono ?_); rintro e w1 ⟨rfl, bl⟩) | (go_at_call 43; (with_reducible refine (HC.out _).mono ?_); rintro e w2 ⟨rfl, rfl⟩))
  go_ret
  exact ⟨rfl, bl⟩
set_option maxRecDepth 100000 in
set_option maxHeartbeats 8000000 in
theorem rup_4e_q0 (q r y : Nat) (g : Bool) (w : World) (hr : 0 < r) (hry : r < y) (hy : (S y).size ≤ 4000) (hc : r + r = y) (hq : q = 0) : Calls Tryd.prog 25 #[.bool g, .string (S q), .string (S r), .string (S y), .int .i64 4] w fun e w' => e = .returned (.bool (upB g q r y 4)) ∧ Below w.heap.size w w' := by
  have hv : upB g q r y 4 = true := by
    rw [up_v hr]
    simp only [show ¬ ((4 : Int) = 0) by decide, if_false, show ¬ ((4 : Int) = 1) by decide, show ¬ ((4 : Int) = 2) by decide, show ¬ ((4 : Int) = 3) by decide]
    exact decide_eq_true (by omega)
  rw [hv]
  have hrs : (S r).size ≤ 4000 := S_less hy (Nat.le_of_lt hry)
  have e1 := tl_ne (S_pos hr)
  have e2 := tl_ne' (S_pos hr)
  have HS := Lib.hid (fun w => sum_any r r w hrs hrs)
  have hds : (S (r + r)).size ≤ 4001 := by have := size_dbl hrs; omega
  have HC := Lib.hid (fun w => rcmp_any (r + r) y w (by omega) (by omega))
  rw [show cmpN (r + r) y = 0 from (by rw [hc, cmpN_eq])] at HC
  generalize S (r + r) = D at *
  have q1 : (S q).toList = [] := tl_nil (by rw [hq]; rfl)
  clear hv hr hry hy hc hrs hds hq
  generalize S r = R at *
  generalize S y = Y at *
  generalize S q = Q at *
  go_enter Tryd.func25, Tryd.ntmps25
  go_wp2_with (first | (go_at_call 26; (with_reducible refine (HS.out _).mono ?_); rintro e w1 ⟨rfl, bl⟩) | (go_at_call 43; (with_reducible refine (HC.out _).mono ?_); rintro e w2 ⟨rfl, rfl⟩))
  go_ret
  exact ⟨rfl, bl⟩
set_option maxRecDepth 100000 in
set_option maxHeartbeats 8000000 in
theorem rup_4e_o (q r y : Nat) (g : Bool) (w : World) (hr : 0 < r) (hry : r < y) (hy : (S y).size ≤ 4000) (hc : r + r = y) (hqs : (S q).size ≤ 4000) (hq : 0 < q) (ho : q % 2 = 1) : Calls Tryd.prog 25 #[.bool g, .string (S q), .string (S r), .string (S y), .int .i64 4] w fun e w' => e = .returned (.bool (upB g q r y 4)) ∧ Below w.heap.size w w' := by
  have hv : upB g q r y 4 = true := by
    rw [up_v hr]
    simp only [show ¬ ((4 : Int) = 0) by decide, if_false, show ¬ ((4 : Int) = 1) by decide, show ¬ ((4 : Int) = 2) by decide, show ¬ ((4 : Int) = 3) by decide]
    exact decide_eq_true (by omega)
  rw [hv]
  have hrs : (S r).size ≤ 4000 := S_less hy (Nat.le_of_lt hry)
  have e1 := tl_ne (S_pos hr)
  have e2 := tl_ne' (S_pos hr)
  have HS := Lib.hid (fun w => sum_any r r w hrs hrs)
  have hds : (S (r + r)).size ≤ 4001 := by have := size_dbl hrs; omega
  have HC := Lib.hid (fun w => rcmp_any (r + r) y w (by omega) (by omega))
  rw [show cmpN (r + r) y = 0 from (by rw [hc, cmpN_eq])] at HC
  generalize S (r + r) = D at *
  have q1 := tl_ne (S_pos hq)
  have q2 := tl_ne' (S_pos hq)
  have hq3 : 0 < (S q).size := by have := S_pos hq; omega
  have hld := last_dig hq (by omega)
  have hd10 : q % 10 < 10 := Nat.mod_lt _ (by omega)
  have hd2 : q % 2 = q % 10 % 2 := by omega
  have hbq : ((((S q)[(S q).size - 1]'(by omega)).toNat - 48 : Int) % 2 == 1) = true := by rw [hld]; simp; omega
  clear hld hd10 hd2 ho
  clear hv hr hry hy hc hrs hds hq
  generalize S r = R at *
  generalize S y = Y at *
  go_enter Tryd.func25, Tryd.ntmps25
  go_wp2_with (first | (go_at_call 26; (with_reducible refine (HS.out _).mono ?_); rintro e w1 ⟨rfl, bl⟩) | (go_at_call 43; (with_reducible refine (HC.out _).mono ?_); rintro e w2 ⟨rfl, rfl⟩))
  go_ret
  exact ⟨rfl, bl⟩
set_option maxRecDepth 100000 in
set_option maxHeartbeats 8000000 in
theorem rup_4e_n (q r y : Nat) (g : Bool) (w : World) (hr : 0 < r) (hry : r < y) (hy : (S y).size ≤ 4000) (hc : r + r = y) (hqs : (S q).size ≤ 4000) (hq : 0 < q) (ho : ¬ q % 2 = 1) : Calls Tryd.prog 25 #[.bool g, .string (S q), .string (S r), .string (S y), .int .i64 4] w fun e w' => e = .returned (.bool (upB g q r y 4)) ∧ Below w.heap.size w w' := by
  have hv : upB g q r y 4 = true := by
    rw [up_v hr]
    simp only [show ¬ ((4 : Int) = 0) by decide, if_false, show ¬ ((4 : Int) = 1) by decide, show ¬ ((4 : Int) = 2) by decide, show ¬ ((4 : Int) = 3) by decide]
    exact decide_eq_true (by omega)
  rw [hv]
  have hrs : (S r).size ≤ 4000 := S_less hy (Nat.le_of_lt hry)
  have e1 := tl_ne (S_pos hr)
  have e2 := tl_ne' (S_pos hr)
  have HS := Lib.hid (fun w => sum_any r r w hrs hrs)
  have hds : (S (r + r)).size ≤ 4001 := by have := size_dbl hrs; omega
  have HC := Lib.hid (fun w => rcmp_any (r + r) y w (by omega) (by omega))
  rw [show cmpN (r + r) y = 0 from (by rw [hc, cmpN_eq])] at HC
  generalize S (r + r) = D at *
  have q1 := tl_ne (S_pos hq)
  have q2 := tl_ne' (S_pos hq)
  have hq3 : 0 < (S q).size := by have := S_pos hq; omega
  have hld := last_dig hq (by omega)
  have hd10 : q % 10 < 10 := Nat.mod_lt _ (by omega)
  have hd2 : q % 2 = q % 10 % 2 := by omega
  have hbq : ((((S q)[(S q).size - 1]'(by omega)).toNat - 48 : Int) % 2 == 1) = false := by rw [hld]; simp; omega
  clear hld hd10 hd2 ho
  clear hv hr hry hy hc hrs hds hq
  generalize S r = R at *
  generalize S y = Y at *
  go_enter Tryd.func25, Tryd.ntmps25
  go_wp2_with (first | (go_at_call 26; (with_reducible refine (HS.out _).mono ?_); rintro e w1 ⟨rfl, bl⟩) | (go_at_call 43; (with_reducible refine (HC.out _).mono ?_); rintro e w2 ⟨rfl, rfl⟩))
  go_ret
  exact ⟨rfl, bl⟩
set_option maxRecDepth 100000 in
set_option maxHeartbeats 8000000 in
theorem rup_4g_q0 (q r y : Nat) (g : Bool) (w : World) (hr : 0 < r) (hry : r < y) (hy : (S y).size ≤ 4000) (hc : y < r + r) (hq : q = 0) : Calls Tryd.prog 25 #[.bool g, .string (S q), .string (S r), .string (S y), .int .i64 4] w fun e w' => e = .returned (.bool (upB g q r y 4)) ∧ Below w.heap.size w w' := by
  have hv : upB g q r y 4 = true := by
    rw [up_v hr]
    simp only [show ¬ ((4 : Int) = 0) by decide, if_false, show ¬ ((4 : Int) = 1) by decide, show ¬ ((4 : Int) = 2) by decide, show ¬ ((4 : Int) = 3) by decide]
    exact decide_eq_true (by omega)
  rw [hv]
  have hrs : (S r).size ≤ 4000 := S_less hy (Nat.le_of_lt hry)
  have e1 := tl_ne (S_pos hr)
  have e2 := tl_ne' (S_pos hr)
  have HS := Lib.hid (fun w => sum_any r r w hrs hrs)
  have hds : (S (r + r)).size ≤ 4001 := by have := size_dbl hrs; omega
  have HC := Lib.hid (fun w => rcmp_any (r + r) y w (by omega) (by omega))
  rw [show cmpN (r + r) y = 1 from cmpN_gt hc] at HC
  generalize S (r + r) = D at *
  have q1 : (S q).toList = [] := tl_nil (by rw [hq]; rfl)
  clear hv hr hry hy hc hrs hds hq
  generalize S r = R at *
  generalize S y = Y at *
  generalize S q = Q at *
  go_enter Tryd.func25, Tryd.ntmps25
  go_wp2_with (first | (go_at_call 26; (with_reducible refine (HS.out _).mono ?_); rintro e w1 ⟨rfl, bl⟩) | (go_at_call 43; (with_reducible refine (HC.out _).mono ?_); rintro e w2 ⟨rfl, rfl⟩))
  go_ret
  exact ⟨rfl, bl⟩
set_option maxRecDepth 100000 in
set_option maxHeartbeats 8000000 in
theorem rup_4g_o (q r y : Nat) (g : Bool) (w : World) (hr : 0 < r) (hry : r < y) (hy : (S y).size ≤ 4000) (hc : y < r + r) (hqs : (S q).size ≤ 4000) (hq : 0 < q) (ho : q % 2 = 1) : Calls Tryd.prog 25 #[.bool g, .string (S q), .string (S r), .string (S y), .int .i64 4] w fun e w' => e = .returned (.bool (upB g q r y 4)) ∧ Below w.heap.size w w' := by
  have hv : upB g q r y 4 = true := by
    rw [up_v hr]
    simp only [show ¬ ((4 : Int) = 0) by decide, if_false, show ¬ ((4 : Int) = 1) by decide, show ¬ ((4 : Int) = 2) by decide, show ¬ ((4 : Int) = 3) by decide]
    exact decide_eq_true (by omega)
  rw [hv]
  have hrs : (S r).size ≤ 4000 := S_less hy (Nat.le_of_lt hry)
  have e1 := tl_ne (S_pos hr)
  have e2 := tl_ne' (S_pos hr)
  have HS := Lib.hid (fun w => sum_any r r w hrs hrs)
  have hds : (S (r + r)).size ≤ 4001 := by have := size_dbl hrs; omega
  have HC := Lib.hid (fun w => rcmp_any (r + r) y w (by omega) (by omega))
  rw [show cmpN (r + r) y = 1 from cmpN_gt hc] at HC
  generalize S (r + r) = D at *
  have q1 := tl_ne (S_pos hq)
  have q2 := tl_ne' (S_pos hq)
  have hq3 : 0 < (S q).size := by have := S_pos hq; omega
  have hld := last_dig hq (by omega)
  have hd10 : q % 10 < 10 := Nat.mod_lt _ (by omega)
  have hd2 : q % 2 = q % 10 % 2 := by omega
  have hbq : ((((S q)[(S q).size - 1]'(by omega)).toNat - 48 : Int) % 2 == 1) = true := by rw [hld]; simp; omega
  clear hld hd10 hd2 ho
  clear hv hr hry hy hc hrs hds hq
  generalize S r = R at *
  generalize S y = Y at *
  go_enter Tryd.func25, Tryd.ntmps25
  go_wp2_with (first | (go_at_call 26; (with_reducible refine (HS.out _).mono ?_); rintro e w1 ⟨rfl, bl⟩) | (go_at_call 43; (with_reducible refine (HC.out _).mono ?_); rintro e w2 ⟨rfl, rfl⟩))
  go_ret
  exact ⟨rfl, bl⟩
set_option maxRecDepth 100000 in
set_option maxHeartbeats 8000000 in
theorem rup_4g_n (q r y : Nat) (g : Bool) (w : World) (hr : 0 < r) (hry : r < y) (hy : (S y).size ≤ 4000) (hc : y < r + r) (hqs : (S q).size ≤ 4000) (hq : 0 < q) (ho : ¬ q % 2 = 1) : Calls Tryd.prog 25 #[.bool g, .string (S q), .string (S r), .string (S y), .int .i64 4] w fun e w' => e = .returned (.bool (upB g q r y 4)) ∧ Below w.heap.size w w' := by
  have hv : upB g q r y 4 = true := by
    rw [up_v hr]
    simp only [show ¬ ((4 : Int) = 0) by decide, if_false, show ¬ ((4 : Int) = 1) by decide, show ¬ ((4 : Int) = 2) by decide, show ¬ ((4 : Int) = 3) by decide]
    exact decide_eq_true (by omega)
  rw [hv]
  have hrs : (S r).size ≤ 4000 := S_less hy (Nat.le_of_lt hry)
  have e1 := tl_ne (S_pos hr)
  have e2 := tl_ne' (S_pos hr)
  have HS := Lib.hid (fun w => sum_any r r w hrs hrs)
  have hds : (S (r + r)).size ≤ 4001 := by have := size_dbl hrs; omega
  have HC := Lib.hid (fun w => rcmp_any (r + r) y w (by omega) (by omega))
  rw [show cmpN (r + r) y = 1 from cmpN_gt hc] at HC
  generalize S (r + r) = D at *
  have q1 := tl_ne (S_pos hq)
  have q2 := tl_ne' (S_pos hq)
  have hq3 : 0 < (S q).size := by have := S_pos hq; omega
  have hld := last_dig hq (by omega)
  have hd10 : q % 10 < 10 := Nat.mod_lt _ (by omega)
  have hd2 : q % 2 = q % 10 % 2 := by omega
  have hbq : ((((S q)[(S q).size - 1]'(by omega)).toNat - 48 : Int) % 2 == 1) = false := by rw [hld]; simp; omega
  clear hld hd10 hd2 ho
  clear hv hr hry hy hc hrs hds hq
  generalize S r = R at *
  generalize S y = Y at *
  go_enter Tryd.func25, Tryd.ntmps25
  go_wp2_with (first | (go_at_call 26; (with_reducible refine (HS.out _).mono ?_); rintro e w1 ⟨rfl, bl⟩) | (go_at_call 43; (with_reducible refine (HC.out _).mono ?_); rintro e w2 ⟨rfl, rfl⟩))
  go_ret
  exact ⟨rfl, bl⟩
theorem rup_any (q r y : Nat) (g : Bool) (w : World) (m : Int) (hm : 0 ≤ m ∧ m ≤ 4) (hry : r < y) (hy : (S y).size ≤ 4000) (hqs : (S q).size ≤ 4000) : Calls Tryd.prog 25 #[.bool g, .string (S q), .string (S r), .string (S y), .int .i64 m] w fun e w' => e = .returned (.bool (upB g q r y m)) ∧ Below w.heap.size w w' := by
  rcases Nat.eq_zero_or_pos r with hr | hr
  · exact rup_z q r y g w m hr
  rcases (show m = 0 ∨ m = 1 ∨ m = 2 ∨ m = 3 ∨ m = 4 by omega) with rfl | rfl | rfl | rfl | rfl
  · rcases (show r + r < y ∨ r + r = y ∨ y < r + r by omega) with hc | hc | hc
    · rcases Nat.eq_zero_or_pos q with hq | hq
      · exact rup_0l_q0 q r y g w hr hry hy hc hq
      · by_cases ho : q % 2 = 1
        · exact rup_0l_o q r y g w hr hry hy hc hqs hq ho
        · exact rup_0l_n q r y g w hr hry hy hc hqs hq ho
    · rcases Nat.eq_zero_or_pos q with hq | hq
      · exact rup_0e_q0 q r y g w hr hry hy hc hq
      · by_cases ho : q % 2 = 1
        · exact rup_0e_o q r y g w hr hry hy hc hqs hq ho
        · exact rup_0e_n q r y g w hr hry hy hc hqs hq ho
    · rcases Nat.eq_zero_or_pos q with hq | hq
      · exact rup_0g_q0 q r y g w hr hry hy hc hq
      · by_cases ho : q % 2 = 1
        · exact rup_0g_o q r y g w hr hry hy hc hqs hq ho
        · exact rup_0g_n q r y g w hr hry hy hc hqs hq ho
  · rcases (show r + r < y ∨ r + r = y ∨ y < r + r by omega) with hc | hc | hc
    · rcases Nat.eq_zero_or_pos q with hq | hq
      · exact rup_1l_q0 q r y g w hr hry hy hc hq
      · by_cases ho : q % 2 = 1
        · exact rup_1l_o q r y g w hr hry hy hc hqs hq ho
        · exact rup_1l_n q r y g w hr hry hy hc hqs hq ho
    · rcases Nat.eq_zero_or_pos q with hq | hq
      · exact rup_1e_q0 q r y g w hr hry hy hc hq
      · by_cases ho : q % 2 = 1
        · exact rup_1e_o q r y g w hr hry hy hc hqs hq ho
        · exact rup_1e_n q r y g w hr hry hy hc hqs hq ho
    · rcases Nat.eq_zero_or_pos q with hq | hq
      · exact rup_1g_q0 q r y g w hr hry hy hc hq
      · by_cases ho : q % 2 = 1
        · exact rup_1g_o q r y g w hr hry hy hc hqs hq ho
        · exact rup_1g_n q r y g w hr hry hy hc hqs hq ho
  · rcases (show r + r < y ∨ r + r = y ∨ y < r + r by omega) with hc | hc | hc
    · rcases Nat.eq_zero_or_pos q with hq | hq
      · exact rup_2l_q0 q r y g w hr hry hy hc hq
      · by_cases ho : q % 2 = 1
        · exact rup_2l_o q r y g w hr hry hy hc hqs hq ho
        · exact rup_2l_n q r y g w hr hry hy hc hqs hq ho
    · rcases Nat.eq_zero_or_pos q with hq | hq
      · exact rup_2e_q0 q r y g w hr hry hy hc hq
      · by_cases ho : q % 2 = 1
        · exact rup_2e_o q r y g w hr hry hy hc hqs hq ho
        · exact rup_2e_n q r y g w hr hry hy hc hqs hq ho
    · rcases Nat.eq_zero_or_pos q with hq | hq
      · exact rup_2g_q0 q r y g w hr hry hy hc hq
      · by_cases ho : q % 2 = 1
        · exact rup_2g_o q r y g w hr hry hy hc hqs hq ho
        · exact rup_2g_n q r y g w hr hry hy hc hqs hq ho
  · rcases (show r + r < y ∨ r + r = y ∨ y < r + r by omega) with hc | hc | hc
    · rcases Nat.eq_zero_or_pos q with hq | hq
      · exact rup_3l_q0 q r y g w hr hry hy hc hq
      · by_cases ho : q % 2 = 1
        · exact rup_3l_o q r y g w hr hry hy hc hqs hq ho
        · exact rup_3l_n q r y g w hr hry hy hc hqs hq ho
    · rcases Nat.eq_zero_or_pos q with hq | hq
      · exact rup_3e_q0 q r y g w hr hry hy hc hq
      · by_cases ho : q % 2 = 1
        · exact rup_3e_o q r y g w hr hry hy hc hqs hq ho
        · exact rup_3e_n q r y g w hr hry hy hc hqs hq ho
    · rcases Nat.eq_zero_or_pos q with hq | hq
      · exact rup_3g_q0 q r y g w hr hry hy hc hq
      · by_cases ho : q % 2 = 1
        · exact rup_3g_o q r y g w hr hry hy hc hqs hq ho
        · exact rup_3g_n q r y g w hr hry hy hc hqs hq ho
  · rcases (show r + r < y ∨ r + r = y ∨ y < r + r by omega) with hc | hc | hc
    · rcases Nat.eq_zero_or_pos q with hq | hq
      · exact rup_4l_q0 q r y g w hr hry hy hc hq
      · by_cases ho : q % 2 = 1
        · exact rup_4l_o q r y g w hr hry hy hc hqs hq ho
        · exact rup_4l_n q r y g w hr hry hy hc hqs hq ho
    · rcases Nat.eq_zero_or_pos q with hq | hq
      · exact rup_4e_q0 q r y g w hr hry hy hc hq
      · by_cases ho : q % 2 = 1
        · exact rup_4e_o q r y g w hr hry hy hc hqs hq ho
        · exact rup_4e_n q r y g w hr hry hy hc hqs hq ho
    · rcases Nat.eq_zero_or_pos q with hq | hq
      · exact rup_4g_q0 q r y g w hr hry hy hc hq
      · by_cases ho : q % 2 = 1
        · exact rup_4g_o q r y g w hr hry hy hc hqs hq ho
        · exact rup_4g_n q r y g w hr hry hy hc hqs hq ho
end Go.Proofs.YtjidjcnjgjmeoaaDoor.Dec
