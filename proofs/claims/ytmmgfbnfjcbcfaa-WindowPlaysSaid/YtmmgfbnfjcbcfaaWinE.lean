/-
  The chapter's example; the law's walk: WindowNils.
-/
import Derived.Test.YtmmgfbnfjcbcfaaWinD
namespace Go.Proofs.Ytmmgfbnfjcbcfaa.Win
open Go.RowKit
set_option linter.unusedVariables false
set_option linter.unusedSimpArgs false

theorem a1 {w : World} {base B : Nat} (h : Wn w base B 3 [] 0 false) (hb : base ≤ w.heap.size) : Calls Try.prog 10 #[.pointer (some ⟨B, 0, none⟩), .string ⟨#[97, 98, 99]⟩] w fun e w' => e = .returned (.int .i64 0) ∧ Wn w' base B 3 [97, 98, 99] 0 false ∧ Below base w w' := win_feed h ⟨#[97, 98, 99]⟩ (by decide) hb
theorem a2 {w : World} {base B : Nat} (h : Wn w base B 3 [97, 98, 99] 0 false) (hb : base ≤ w.heap.size) : Calls Try.prog 10 #[.pointer (some ⟨B, 0, none⟩), .string ⟨#[100]⟩] w fun e w' => e = .returned (.int .i64 28) ∧ Wn w' base B 3 [97, 98, 99] 0 false ∧ Below base w w' := wn_feed3 ⟨#[100]⟩ h (by decide) (by decide)
theorem a3 {w : World} {base B : Nat} (h : Wn w base B 3 [97, 98, 99] 0 false) (hb : base ≤ w.heap.size) : Calls Try.prog 12 #[.pointer (some ⟨B, 0, none⟩), .int .i64 2] w fun e w' => e = .returned (.tuple #[.string ⟨#[97, 98]⟩, .int .i64 0]) ∧ Wn w' base B 3 [99] 2 false ∧ Below base w w' := win_take h 2 (by decide) (by decide)
theorem a4 {w : World} {base B : Nat} (h : Wn w base B 3 [99] 2 false) (hb : base ≤ w.heap.size) : Calls Try.prog 16 #[.pointer (some ⟨B, 0, none⟩), .int .i64 0] w fun e w' => e = .returned (.tuple #[.int .i64 99, .bool true]) ∧ Wn w' base B 3 [99] 2 false ∧ Below base w w' := wn_at h 0 (by decide)
theorem a5 {w : World} {base B : Nat} (h : Wn w base B 3 [99] 2 false) (hb : base ≤ w.heap.size) : Calls Try.prog 22 #[.pointer (some ⟨B, 0, none⟩)] w fun e w' => e = .returned (.int .i64 2) ∧ Wn w' base B 3 [99] 2 false ∧ Below base w w' := (wn_offset h).mono fun _ _ ⟨he, hw⟩ => ⟨he, hw ▸ h, hw ▸ Below.refl _ _⟩
theorem a6 {w : World} {base B : Nat} (h : Wn w base B 3 [99] 2 false) (hb : base ≤ w.heap.size) : Calls Try.prog 23 #[.pointer (some ⟨B, 0, none⟩)] w fun e w' => e = .returned (.int .i64 2) ∧ Wn w' base B 3 [99] 2 false ∧ Below base w w' := wn_free h
theorem a7 {w : World} {base B : Nat} (h : Wn w base B 3 [99] 2 false) (hb : base ≤ w.heap.size) : Calls Try.prog 10 #[.pointer (some ⟨B, 0, none⟩), .string ⟨#[100]⟩] w fun e w' => e = .returned (.int .i64 0) ∧ Wn w' base B 3 [99, 100] 2 false ∧ Below base w w' := win_feed h ⟨#[100]⟩ (by decide) hb
theorem a8 {w : World} {base B : Nat} (h : Wn w base B 3 [99, 100] 2 false) (hb : base ≤ w.heap.size) : Calls Try.prog 14 #[.pointer (some ⟨B, 0, none⟩)] w fun e w' => e = .returned (.int .i64 0) ∧ Wn w' base B 3 [99, 100] 2 true ∧ Below base w w' := win_close h
theorem a9 {w : World} {base B : Nat} (h : Wn w base B 3 [99, 100] 2 true) (hb : base ≤ w.heap.size) : Calls Try.prog 10 #[.pointer (some ⟨B, 0, none⟩), .string ⟨#[]⟩] w fun e w' => e = .returned (.int .i64 29) ∧ Wn w' base B 3 [99, 100] 2 true ∧ Below base w w' := (win_feed2 _ h).mono fun _ _ ⟨he, hw⟩ => ⟨he, hw ▸ h, hw ▸ Below.refl _ _⟩
theorem a10 {w : World} {base B : Nat} (h : Wn w base B 3 [99, 100] 2 true) (hb : base ≤ w.heap.size) : Calls Try.prog 12 #[.pointer (some ⟨B, 0, none⟩), .int .i64 1] w fun e w' => e = .returned (.tuple #[.string ⟨#[99]⟩, .int .i64 0]) ∧ Wn w' base B 3 [100] 3 true ∧ Below base w w' := win_take h 1 (by decide) (by decide)
theorem a11 {w : World} {base B : Nat} (h : Wn w base B 3 [100] 3 true) (hb : base ≤ w.heap.size) : Calls Try.prog 24 #[.pointer (some ⟨B, 0, none⟩)] w fun e w' => e = .returned (.bool true) ∧ Wn w' base B 3 [100] 3 true ∧ Below base w w' := (wn_closed h).mono fun _ _ ⟨he, hw⟩ => ⟨he, hw ▸ h, hw ▸ Below.refl _ _⟩
theorem a0 (w : World) : Calls Try.prog 8 #[.int .i64 3] w fun e w' => e = .returned (.tuple #[.pointer (some ⟨w.heap.size, 0, none⟩), .int .i64 0]) ∧ Wn w' w.heap.size w.heap.size 3 [] 0 false ∧ Below w.heap.size w w' := new_wn 3 w (by decide) (by decide)
set_option maxRecDepth 100000 in
set_option maxHeartbeats 4000000 in
theorem awake_any (w : World) : Calls Try.prog 7 #[] w fun e w' => e = .returned (.bool true) ∧ Below w.heap.size w w' := by
  go_enter Try.func7, Try.ntmps7
  go_wp2_with (first
    | (go_at_call 8; (with_reducible refine (a0 _).mono ?_); rintro e w' ⟨rfl, W, hb⟩; have hbW := hb.size)
    | (go_at_call 10; (first | ((with_reducible refine (a1 W hbW).mono ?_); rintro e w' ⟨rfl, W', b'⟩; replace W := W'; replace hb := hb.trans b'; replace hbW := hb.size; clear W' b') | ((with_reducible refine (a2 W hbW).mono ?_); rintro e w' ⟨rfl, W', b'⟩; replace W := W'; replace hb := hb.trans b'; replace hbW := hb.size; clear W' b') | ((with_reducible refine (a7 W hbW).mono ?_); rintro e w' ⟨rfl, W', b'⟩; replace W := W'; replace hb := hb.trans b'; replace hbW := hb.size; clear W' b') | ((with_reducible refine (a9 W hbW).mono ?_); rintro e w' ⟨rfl, W', b'⟩; replace W := W'; replace hb := hb.trans b'; replace hbW := hb.size; clear W' b')))
    | (go_at_call 12; (first | ((with_reducible refine (a3 W hbW).mono ?_); rintro e w' ⟨rfl, W', b'⟩; replace W := W'; replace hb := hb.trans b'; replace hbW := hb.size; clear W' b') | ((with_reducible refine (a10 W hbW).mono ?_); rintro e w' ⟨rfl, W', b'⟩; replace W := W'; replace hb := hb.trans b'; replace hbW := hb.size; clear W' b')))
    | (go_at_call 16; (first | ((with_reducible refine (a4 W hbW).mono ?_); rintro e w' ⟨rfl, W', b'⟩; replace W := W'; replace hb := hb.trans b'; replace hbW := hb.size; clear W' b')))
    | (go_at_call 22; (first | ((with_reducible refine (a5 W hbW).mono ?_); rintro e w' ⟨rfl, W', b'⟩; replace W := W'; replace hb := hb.trans b'; replace hbW := hb.size; clear W' b')))
    | (go_at_call 23; (first | ((with_reducible refine (a6 W hbW).mono ?_); rintro e w' ⟨rfl, W', b'⟩; replace W := W'; replace hb := hb.trans b'; replace hbW := hb.size; clear W' b')))
    | (go_at_call 14; (first | ((with_reducible refine (a8 W hbW).mono ?_); rintro e w' ⟨rfl, W', b'⟩; replace W := W'; replace hb := hb.trans b'; replace hbW := hb.size; clear W' b')))
    | (go_at_call 24; (first | ((with_reducible refine (a11 W hbW).mono ?_); rintro e w' ⟨rfl, W', b'⟩; replace W := W'; replace hb := hb.trans b'; replace hbW := hb.size; clear W' b'))))
  go_ret
  exact ⟨rfl, hb⟩
set_option maxHeartbeats 2000000 in
theorem nils_walk (s : ByteArray) (n b : Int) (w : World) (hn : -9223372036854775808 ≤ n ∧ n ≤ 9223372036854775807) (hbb : -9223372036854775808 ≤ b ∧ b ≤ 9223372036854775807) : Calls Try.prog 5 #[.string s, .int .i64 n, .int .i64 b] w fun e w' => e = .returned (.bool true) ∧ Below w.heap.size w w' := by
  go_enter Try.func5, Try.ntmps5
  go_wp2_with (first
    | (go_at_call 16; (with_reducible refine (at_nil _ _ hn).mono ?_); rintro e w1 ⟨rfl, rfl⟩)
    | (go_at_call 18; (with_reducible refine (find_nil _ _ _ hbb hn).mono ?_); rintro e w1 ⟨rfl, rfl⟩)
    | (go_at_call 12; (with_reducible refine (take_nil _ _).mono ?_); rintro e w1 ⟨rfl, rfl⟩)
    | (go_at_call 10; (with_reducible refine (feed_nil _ _).mono ?_); rintro e w1 ⟨rfl, rfl⟩)
    | (go_at_call 14; (with_reducible refine (close_nil _).mono ?_); rintro e w1 ⟨rfl, rfl⟩)
    | (go_at_call 21; (with_reducible refine (len_nil _).mono ?_); rintro e w1 ⟨rfl, rfl⟩)
    | (go_at_call 23; (with_reducible refine (free_nil _).mono ?_); rintro e w1 ⟨rfl, rfl⟩)
    | (go_at_call 22; (with_reducible refine (offset_nil _).mono ?_); rintro e w1 ⟨rfl, rfl⟩)
    | (go_at_call 24; (with_reducible refine (closed_nil _).mono ?_); rintro e w1 ⟨rfl, rfl⟩)
    | (go_at_call 7; (with_reducible refine (awake_any _).mono ?_); rintro e w1 ⟨rfl, hb⟩))
  go_ret
  exact ⟨rfl, hb⟩
end Go.Proofs.Ytmmgfbnfjcbcfaa.Win
