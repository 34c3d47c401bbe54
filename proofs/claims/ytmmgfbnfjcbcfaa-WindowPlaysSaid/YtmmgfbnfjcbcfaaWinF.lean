/-
  The list of acts that came in; the law's walk: WindowKeeps.
-/
import Derived.Test.YtmmgfbnfjcbcfaaWinE
namespace Go.Proofs.Ytmmgfbnfjcbcfaa.Win
open Go.RowKit
set_option linter.unusedVariables false
set_option linter.unusedSimpArgs false

/-- A row of acts that came in: kinds, texts, numbers. -/
def Acts (w : World) (a : Option Addr) (n : Nat) (kd : Nat → Int) (st : Nat → ByteArray) (nn bb : Nat → Int) : Prop :=
  n ≤ 9223372036854775807 ∧ ∀ i, i < n → ∃ b off, a = some ⟨b, off, none⟩ ∧ b < w.heap.size ∧ w.cell? ⟨b, off + i * 4, none⟩ = some (.int .i64 (kd i)) ∧ w.cell? ⟨b, off + i * 4 + 1, none⟩ = some (.string (st i)) ∧ w.cell? ⟨b, off + i * 4 + 2, none⟩ = some (.int .i64 (nn i)) ∧ w.cell? ⟨b, off + i * 4 + 3, none⟩ = some (.int .i64 (bb i)) ∧
    (-9223372036854775808 ≤ kd i ∧ kd i ≤ 9223372036854775807) ∧ (-9223372036854775808 ≤ nn i ∧ nn i ≤ 9223372036854775807) ∧ (-9223372036854775808 ≤ bb i ∧ bb i ≤ 9223372036854775807) ∧ (st i).size ≤ 9223372036854775807
/-- What small returns. -/
def SmallP (n : Nat) (st : Nat → ByteArray) (e : Ending) : Prop := ∃ r : Bool, e = .returned (.bool r) ∧ (r = true → n ≤ 200 ∧ ∀ i, i < n → (st i).size ≤ 2000)
set_option maxRecDepth 100000 in
set_option maxHeartbeats 2000000 in
theorem small_any {w : World} {a : Option Addr} {n cap : Nat} {kd : Nat → Int} {st : Nat → ByteArray} {nn bb : Nat → Int} (h : Acts w a n kd st nn bb) : Calls Try.prog 6 #[.slice a n cap] w fun e w' => SmallP n st e ∧ w' = w := by
  have hn := h.1
  have HA := Lib.hid h.2
  clear h
  go_enter Try.func6, Try.ntmps6
  go_wp2
  go_loop [3] (fun i => ∃ k : Nat, k ≤ n ∧ k ≤ 201 ∧ i = .int .i64 k ∧ Hid (∀ j, j < k → (st j).size ≤ 2000)) (fun i => 201 - (intOf i).toNat)
  case atStart => exact ⟨0, Nat.zero_le _, Nat.zero_le _, rfl, Lib.hid fun j hj => by omega⟩
  case round =>
    obtain ⟨k, hk, hk2, rfl, HS⟩ := hrel
    by_cases h1 : k < n
    · by_cases h2 : k < 201
      · obtain ⟨b, off, rfl, hb, e0, e1, e2, e3, _, _, _, hz⟩ := HA.out k h1
        by_cases h3 : (st k).size ≤ 2000
        · have HS' : Hid (∀ j, j < k + 1 → (st j).size ≤ 2000) := Lib.hid fun j hj => by
            by_cases e : j = k
            · subst e; exact h3
            · exact HS.out j (by omega)
          go_wp2
          go_round
          case rel => exact ⟨k + 1, by omega, by omega, rfl, HS'⟩
          case measure => simp [intOf]; omega
        · go_wp2
          go_ret
          exact ⟨⟨false, rfl, fun h => by cases h⟩, rfl⟩
      · go_wp2
        go_ret
        exact ⟨⟨false, ret_bool (decide_eq_false (by omega)), fun h => by cases h⟩, rfl⟩
    · obtain rfl : k = n := by omega
      go_wp2
      go_ret
      exact ⟨⟨decide ((k : Int) ≤ 200), rfl, fun h => ⟨by have := of_decide_eq_true h; omega, HS.out⟩⟩, rfl⟩
end Go.Proofs.Ytmmgfbnfjcbcfaa.Win
