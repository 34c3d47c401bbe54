/-
  Contracts of package window: finding a byte.
-/
import Derived.Test.YtmmgfbnfjcbcfaaWinR
namespace Go.Proofs.Ytmmgfbnfjcbcfaa.Win
open Go.RowKit
set_option linter.unusedVariables false
set_option linter.unusedSimpArgs false

theorem fres_out {l : List UInt8} {b f : Int} (h : f < 0 ∨ (l.length : Int) ≤ f ∨ b < 0 ∨ 255 < b) : fres l b f = (0, false) := by
  unfold fres; rw [if_neg (by omega)]
theorem bytesOf_bytes (l : List UInt8) : Lib.bytesOf (l.map fun c => (c.toNat : Int)) = l := by
  unfold Lib.bytesOf
  rw [List.map_map]
  have e : (fun n : Int => UInt8.ofNat n.toNat) ∘ (fun c : UInt8 => (c.toNat : Int)) = id := by
    funext c
    show UInt8.ofNat ((c.toNat : Int).toNat) = c
    rw [Int.toNat_natCast]
    exact UInt8.ofNat_toNat
  first | rw [e, List.map_id] | (rw [show _ = id from e, List.map_id])
theorem wn_find_out {w : World} {base B sz : Nat} {tx : List UInt8} {tk : Nat} {cl : Bool} (hw : Wn w base B sz tx tk cl) (b f : Int) (h : f < 0 ∨ (tx.length : Int) ≤ f ∨ b < 0 ∨ 255 < b) (hb : -9223372036854775808 ≤ b ∧ b ≤ 9223372036854775807) (hf : -9223372036854775808 ≤ f ∧ f ≤ 9223372036854775807) : Calls Try.prog 18 #[.pointer (some ⟨B, 0, none⟩), .int .i64 b, .int .i64 f] w fun e w' => e = .returned (.tuple #[.int .i64 0, .bool false]) ∧ Wn w' base B sz tx tk cl ∧ Below base w w' := by
  have HL := Lib.hid (wn_len hw)
  have hc : b < 0 ∨ (0 ≤ b ∧ 255 < b) ∨ (0 ≤ b ∧ b ≤ 255 ∧ f < 0) ∨ (0 ≤ b ∧ b ≤ 255 ∧ 0 ≤ f ∧ (tx.length : Int) ≤ f) := by omega
  clear h
  have b0 := Below.refl base w
  rcases hc with h | ⟨h, h1⟩ | ⟨h, h1, h2⟩ | ⟨h, h1, h2, h3⟩
  all_goals
    go_enter Try.func18, Try.ntmps18
    go_wp2_with (go_at_call 21; (with_reducible refine HL.out.mono ?_); rintro e w1 ⟨rfl, hw, b0⟩)
    all_goals
      go_ret2
      exact ⟨rfl, hw, b0⟩
set_option maxRecDepth 100000 in
set_option maxHeartbeats 2000000 in
theorem wn_find_in {w : World} {base B sz : Nat} {tx : List UInt8} {tk : Nat} {cl : Bool} (hw : Wn w base B sz tx tk cl) (b f : Nat) (h : f < tx.length) (hb : b ≤ 255) : Calls Try.prog 18 #[.pointer (some ⟨B, 0, none⟩), .int .i64 b, .int .i64 f] w fun e w' => e = .returned (.tuple #[.int .i64 (fres tx b f).1, .bool (fres tx b f).2]) ∧ Wn w' base B sz tx tk cl ∧ Below base w w' := by
  obtain ⟨v, row, fr, W0⟩ := hw
  have hz := W0.len
  have hr := W0.hrow
  have HL := Lib.hid (win_len W0)
  rcases W0.buf.form with ⟨rfl, rfl⟩ | ⟨g, cap, rfl, hc, _, _⟩
  · simp at hz; omega
  have HH : Hid (∀ w', Win w' base B sz tx tk cl (.slice (some ⟨g, 0, none⟩) row.length cap) row fr → Calls Try.prog 25 #[.pointer (some ⟨B, 0, none⟩)] w' fun e w'' => e = .returned (.slice (some ⟨g, fr, none⟩) tx.length tx.length) ∧ ∃ m, w'' = w'.drewN m) := Lib.hid fun w' W' => by
    have := held_some W'.wc (by omega) (by omega) hc
    rwa [hz] at this
  have HI : Hid (∀ w', Win w' base B sz tx tk cl (.slice (some ⟨g, 0, none⟩) row.length cap) row fr → Calls Try.prog 27 #[.slice (some ⟨g, fr + f, none⟩) (tx.length - f) (tx.length - f), .int .u8 b] w' fun e w'' => e = .returned (.int .i64 (Lib.indexByte (tx.drop f) b.toUInt8)) ∧ w'' = w') := Lib.hid fun w' W' => by
    have := Try.bytes_IndexByte g (fr + f) (tx.length - f) (tx.length - f) ((tx.drop f).map fun c => (c.toNat : Int)) b w' (by rw [List.length_map, List.length_drop]) (fun i hi => by
      rcases W'.buf.form with ⟨h, _⟩ | ⟨g', cap', h, _, _, hcc⟩
      · cases h
      · injection h with h1 _ _; injection h1 with h1; injection h1 with h1
        subst h1
        have hlt : f + i < tx.length := by omega
        rw [show fr + f + i = fr + (f + i) by omega, hcc (fr + (f + i)) (by omega)]
        have e : tx.getD (f + i) 0 = row.getD (fr + (f + i)) 0 := by rw [← W'.tx_]; simp [List.getD_eq_getElem?_getD]
        rw [← e]
        have hl2 : i < (tx.drop f).length := by rw [List.length_drop]; omega
        simp [List.getD_eq_getElem?_getD, List.getElem?_map, List.getElem?_drop, List.getElem?_eq_getElem hlt])
    rwa [bytesOf_bytes, Int.toNat_natCast] at this
  have HZ := Lib.hid hz
  have hx1 := index_lt (tx.drop f) b.toUInt8
  rw [List.length_drop] at hx1
  have hfr : fres tx b f = if Lib.indexByte (tx.drop f) b.toUInt8 ≠ -1 then ((f : Int) + Lib.indexByte (tx.drop f) b.toUInt8, true) else (0, false) := by
    unfold fres
    rw [Int.toNat_natCast, Int.toNat_natCast]
    by_cases q : Lib.indexByte (tx.drop f) b.toUInt8 ≠ -1
    · rw [if_pos q, if_pos ⟨by omega, by omega, by omega, by omega, q⟩]
    · rw [if_neg q, if_neg (fun h => q h.2.2.2.2)]
  have HFR := Lib.hid hfr
  have htl : tx.length ≤ 131072 := by omega
  clear hfr hz
  obtain ⟨x, hx⟩ : ∃ x, Lib.indexByte (tx.drop f) b.toUInt8 = x := ⟨_, rfl⟩
  rw [hx] at HFR HI hx1
  clear hx
  obtain ⟨hx2, hx3⟩ := hx1
  have hnz : ¬ tx.length - f = 0 := by omega
  by_cases hneg : x < 0
  all_goals
    go_enter Try.func18, Try.ntmps18
    go_wp2_with (first | (go_at_call 21; (with_reducible refine HL.out.mono ?_); rintro e w1 ⟨rfl, hq1⟩; have W1 := W0.q hq1; have b1 := below_q (Below.refl base w) hq1; clear hq1) | (go_at_call 25; (with_reducible refine (HH.out _ W1).mono ?_); rintro e w2 ⟨rfl, hq2⟩; have W2 := W1.q hq2; have b2 := below_q b1 hq2; clear hq2) | (go_at_call 27; go_loud ((with_reducible refine (HI.out _ W2).mono ?_); rintro e w3 ⟨rfl, rfl⟩)))
    go_ret2
    refine ⟨?_, ⟨_, _, _, W2⟩, b2⟩
    rw [HFR.out]
    first | (rw [if_neg (by omega)]; done) | (rw [if_pos (by omega)]; done) | (rw [if_neg (by omega)]; rfl) | (rw [if_pos (by omega)]; rfl)
end Go.Proofs.Ytmmgfbnfjcbcfaa.Win
