/-
  Contracts of package window: what changes a window.
-/
import Derived.Test.YtmmgfbnfjcbcfaaWinA
import Derived.OneCell
namespace Go.Proofs.Ytmmgfbnfjcbcfaa.Win
open Go.RowKit
set_option linter.unusedVariables false
set_option linter.unusedSimpArgs false

section
variable {w w' : World} {base B sz tk fr : Nat} {tx row : List UInt8} {cl : Bool} {v : Value}
theorem Win.q (h : Win w base B sz tx tk cl v row fr) (hq : ∃ m, w' = w.drewN m) : Win w' base B sz tx tk cl v row fr := by
  obtain ⟨m, rfl⟩ := hq; exact h.N m
theorem below_q {b : Nat} {a : World} (h : Below b a w) (hq : ∃ m, w' = w.drewN m) : Below b a w' := by
  obtain ⟨m, rfl⟩ := hq; exact below_N h m
theorem WC.set2 (h : WC w B sz v fr tk cl) (x : Nat) : WC (w.setCell ⟨B, 2, none⟩ (.int .i64 (x : Nat))) B sz v x tk cl :=
  (World.rowIs.set h 2 _).congr fun i hi => by
    rcases (show i = 0 ∨ i = 1 ∨ i = 2 ∨ i = 3 ∨ i = 4 by omega) with rfl | rfl | rfl | rfl | rfl <;> rfl
theorem WC.set3 (h : WC w B sz v fr tk cl) (x : Nat) : WC (w.setCell ⟨B, 3, none⟩ (.int .i64 (x : Nat))) B sz v fr x cl :=
  (World.rowIs.set h 3 _).congr fun i hi => by
    rcases (show i = 0 ∨ i = 1 ∨ i = 2 ∨ i = 3 ∨ i = 4 by omega) with rfl | rfl | rfl | rfl | rfl <;> rfl
theorem WC.set4 (h : WC w B sz v fr tk cl) (x : Bool) : WC (w.setCell ⟨B, 4, none⟩ (.bool x)) B sz v fr tk x :=
  (World.rowIs.set h 4 _).congr fun i hi => by
    rcases (show i = 0 ∨ i = 1 ∨ i = 2 ∨ i = 3 ∨ i = 4 by omega) with rfl | rfl | rfl | rfl | rfl <;> rfl
theorem WC.set1 (h : WC w B sz v fr tk cl) (x : Value) : WC (w.setCell ⟨B, 1, none⟩ x) B sz x fr tk cl :=
  (World.rowIs.set h 1 _).congr fun i hi => by
    rcases (show i = 0 ∨ i = 1 ∨ i = 2 ∨ i = 3 ∨ i = 4 by omega) with rfl | rfl | rfl | rfl | rfl <;> rfl
theorem Buf.set (h : Buf w base v row) (hne : v.ownBlock ≠ some B) (o : Nat) (x : Value) : Buf (w.setCell ⟨B, o, none⟩ x) base v row := ownsRow_setCell_other h hne x
end
/-- A window. -/
def Wn (w : World) (base B sz : Nat) (tx : List UInt8) (tk : Nat) (cl : Bool) : Prop := ∃ v row fr, Win w base B sz tx tk cl v row fr
set_option maxHeartbeats 2000000 in
theorem win_take {w : World} {base B sz : Nat} {tx : List UInt8} {tk : Nat} {cl : Bool} (hw : Wn w base B sz tx tk cl) (k : Nat) (hk : k ≤ tx.length) (htk : tk ≤ 4611686018427387904) : Calls Try.prog 12 #[.pointer (some ⟨B, 0, none⟩), .int .i64 k] w fun e w' => e = .returned (.tuple #[.string ⟨(tx.take k).toArray⟩, .int .i64 0]) ∧ Wn w' base B sz (tx.drop k) (tk + k) cl ∧ Below base w w' := by
  obtain ⟨v, row, fr, W0⟩ := hw
  have hz := W0.len
  have hr := W0.hrow
  have hfr := W0.hfr
  have hBb := W0.hB
  have hm := W0.buf.form
  have HL := Lib.hid (fun w' (h : Win w' base B sz tx tk cl v row fr) => win_len h)
  have hfin : ∀ w2, Win w2 base B sz tx tk cl v row fr → Wn ((w2.setCell ⟨B, 2, none⟩ (.int .i64 ((fr : Int) + (k : Int)))).setCell ⟨B, 3, none⟩ (.int .i64 ((tk : Int) + (k : Int)))) base B sz (tx.drop k) (tk + k) cl := fun w2 W2 =>
    ⟨v, row, fr + k, (W2.wc.set2 (fr + k)).set3 (tk + k), (W2.buf.set W2.hne 2 _).set W2.hne 3 _, W2.hB, by omega, by rw [← W2.tx_, List.drop_drop], W2.hrow, by have := W2.htx; omega, W2.hsz, W2.hne⟩
  have HF := Lib.hid hfin
  clear hfin
  rcases hm with ⟨rfl, rfl⟩ | ⟨g, cap, rfl, hc, _, hcell⟩
  · have hl0 : tx = [] := List.length_eq_zero_iff.1 (by rw [← hz]; simp)
    obtain rfl : k = 0 := by rw [hl0] at hk; simpa using hk
    obtain rfl : fr = 0 := by simpa using hfr
    have hcv : ∀ w, (convert 52 9 (.slice none 0 0)).run Try.prog w = .ok (.string ByteArray.empty) w := fun w => run_convert_bytes_nil (P := Try.prog) w 52 5 Try.underlying52 Try.underlying5 0 0 9 Try.underlying9
    subst hl0
    go_enter Try.func12, Try.ntmps12
    go_wp2_with (first | (go_at_call 21; (with_reducible refine (HL.out _ W0).mono ?_); rintro e w1 ⟨rfl, hq1⟩; have W1 := W0.q hq1; have b1 := below_q (Below.refl base w) hq1; clear hq1) | (go_at_call 25; (with_reducible refine (held_none W1.wc).mono ?_); rintro e w2 ⟨rfl, hq2⟩; have W2 := W1.q hq2; have b2 := below_q b1 hq2; clear hq2; have c2 := W2.wc.c2; have c3 := W2.wc.c3; have f2 := W2.wc.fz 2; have f3 := W2.wc.fz 3))
    go_ret2
    exact ⟨rfl, by simpa using HF.out w2 W2, (b2.setCell hBb _).setCell hBb _⟩
  · have HCV : Hid (∀ w2, Win w2 base B sz tx tk cl (.slice (some ⟨g, 0, none⟩) row.length cap) row fr → ∀ dst, Try.prog.underlying dst = some .string → (convert 52 dst (.slice (some ⟨g, if row.length = fr then 0 else fr, none⟩) k (row.length - fr))).run Try.prog w2 = .ok (.string ⟨(tx.take k).toArray⟩) w2) := Lib.hid fun w2 W2 => by
      refine conv_is (by simp; omega) fun i hi => ?_
      have hnf : ¬ row.length = fr := by omega
      rw [if_neg hnf]
      rcases W2.buf.form with ⟨h, _⟩ | ⟨g', cap', h, _, _, hc⟩
      · cases h
      · injection h with h1 _ _; injection h1 with h1; injection h1 with h1
        subst h1
        rw [hc (fr + i) (by omega), ← W2.tx_]
        simp [List.getD_eq_getElem?_getD, List.getElem?_take, hi]
    clear hcell
    by_cases he : row.length = fr
    · obtain rfl : k = 0 := by omega
      subst he
      simp only [if_pos, Nat.sub_self] at HCV
      go_enter Try.func12, Try.ntmps12
      go_wp2_with (first | (go_at_call 21; (with_reducible refine (HL.out _ W0).mono ?_); rintro e w1 ⟨rfl, hq1⟩; have W1 := W0.q hq1; have b1 := below_q (Below.refl base w) hq1; clear hq1) | (go_at_call 25; (with_reducible refine (held_end W1.wc (by omega) hc).mono ?_); rintro e w2 ⟨rfl, hq2⟩; have W2 := W1.q hq2; have b2 := below_q b1 hq2; clear hq2; have c2 := W2.wc.c2; have c3 := W2.wc.c3; have f2 := W2.wc.fz 2; have f3 := W2.wc.fz 3; have hcv := HCV.out w2 W2))
      go_ret2
      exact ⟨rfl, by simpa using HF.out w2 W2, (b2.setCell hBb _).setCell hBb _⟩
    · simp only [if_neg he, hz] at HCV
      have hnz : ¬ row.length - fr = 0 := by omega
      have hnz2 : ¬ row.length ≤ fr := by omega
      have hlt : fr < row.length := by omega
      go_enter Try.func12, Try.ntmps12
      go_wp2_with (first | (go_at_call 21; (with_reducible refine (HL.out _ W0).mono ?_); rintro e w1 ⟨rfl, hq1⟩; have W1 := W0.q hq1; have b1 := below_q (Below.refl base w) hq1; clear hq1) | (go_at_call 25; (with_reducible refine (held_some W1.wc (by omega) (by omega) hc).mono ?_); rintro e w2 ⟨rfl, hq2⟩; have W2 := W1.q hq2; have b2 := below_q b1 hq2; clear hq2; have c2 := W2.wc.c2; have c3 := W2.wc.c3; have f2 := W2.wc.fz 2; have f3 := W2.wc.fz 3; have hcv := HCV.out w2 W2))
      go_ret2
      exact ⟨rfl, HF.out w2 W2, (b2.setCell hBb _).setCell hBb _⟩
set_option maxHeartbeats 1000000 in
theorem win_close {w : World} {base B sz : Nat} {tx : List UInt8} {tk : Nat} (hw : Wn w base B sz tx tk false) : Calls Try.prog 14 #[.pointer (some ⟨B, 0, none⟩)] w fun e w' => e = .returned (.int .i64 0) ∧ Wn w' base B sz tx tk true ∧ Below base w w' := by
  obtain ⟨v, row, fr, W0⟩ := hw
  have c4 := W0.wc.c4
  have f4 := W0.wc.fz 4
  have hBb := W0.hB
  go_enter Try.func14, Try.ntmps14
  go_wp2
  go_ret
  exact ⟨rfl, ⟨v, row, fr, W0.wc.set4 true, W0.buf.set W0.hne 4 _, W0.hB, W0.hfr, W0.tx_, W0.hrow, W0.htx, W0.hsz, W0.hne⟩, (Below.refl _ _).setCell hBb _⟩
theorem win_close2 {w : World} {base B sz : Nat} {tx : List UInt8} {tk : Nat} (hw : Wn w base B sz tx tk true) : Calls Try.prog 14 #[.pointer (some ⟨B, 0, none⟩)] w fun e w' => e = .returned (.int .i64 29) ∧ w' = w := by
  obtain ⟨v, row, fr, W0⟩ := hw
  have c4 := W0.wc.c4
  go_enter Try.func14, Try.ntmps14
  go_wp2
  go_ret
  exact ⟨rfl, rfl⟩
theorem win_feed2 {w : World} {base B sz : Nat} {tx : List UInt8} {tk : Nat} (s : ByteArray) (hw : Wn w base B sz tx tk true) : Calls Try.prog 10 #[.pointer (some ⟨B, 0, none⟩), .string s] w fun e w' => e = .returned (.int .i64 29) ∧ w' = w := by
  obtain ⟨v, row, fr, W0⟩ := hw
  have c4 := W0.wc.c4
  go_enter Try.func10, Try.ntmps10
  go_wp2
  go_ret
  exact ⟨rfl, rfl⟩
set_option maxHeartbeats 1000000 in
theorem win_feed3 {w : World} {base B sz : Nat} {tx : List UInt8} {tk : Nat} (s : ByteArray) (hw : Wn w base B sz tx tk false) (hs : sz - tx.length < s.size) (hs2 : s.size ≤ 9223372036854775807) : Calls Try.prog 10 #[.pointer (some ⟨B, 0, none⟩), .string s] w fun e w' => e = .returned (.int .i64 28) ∧ ∃ m, w' = w.drewN m := by
  obtain ⟨v, row, fr, W0⟩ := hw
  have c4 := W0.wc.c4
  have HL := Lib.hid (win_free W0)
  go_enter Try.func10, Try.ntmps10
  go_wp2_with (go_at_call 23; (with_reducible refine HL.out.mono ?_); rintro e w1 ⟨rfl, hq1⟩)
  go_ret
  exact ⟨rfl, hq1⟩
end Go.Proofs.Ytmmgfbnfjcbcfaa.Win
