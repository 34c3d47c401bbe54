/-
  Contracts of package window once more: what a call leaves as it was.
-/
import Derived.Test.YtmmgfbnfjcbcfaaWinU
namespace Go.Proofs.Ytmmgfbnfjcbcfaa.Win
open Go.RowKit
set_option linter.unusedVariables false
set_option linter.unusedSimpArgs false

/-- But for the window's block and its buffer's all is as it was. -/
structure Fr (B : Nat) (ob : Option Nat) (w w' : World) : Prop where
  os : w'.os = w.os
  tape : w'.tape = w.tape
  output : w'.output = w.output
  size : w.heap.size ≤ w'.heap.size
  block : ∀ k, k < w.heap.size → k ≠ B → some k ≠ ob → w'.heap[k]? = w.heap[k]?
section
variable {B : Nat} {ob : Option Nat} {a b c w w' : World}
theorem Fr.refl (B : Nat) (ob : Option Nat) (w : World) : Fr B ob w w := ⟨rfl, rfl, rfl, Nat.le_refl _, fun _ _ _ _ => rfl⟩
theorem Fr.q (h : Fr B ob a w) (hq : ∃ m, w' = w.drewN m) : Fr B ob a w' := by
  obtain ⟨m, rfl⟩ := hq; exact ⟨h.os, h.tape, h.output, h.size, h.block⟩
theorem Fr.N (h : Fr B ob a w) (m : Nat) : Fr B ob a (w.drewN m) := ⟨h.os, h.tape, h.output, h.size, h.block⟩
theorem Fr.d (h : Fr B ob a w) : Fr B ob a w.drew := ⟨h.os, h.tape, h.output, h.size, h.block⟩
theorem Fr.setCell (h : Fr B ob a w) (o : Nat) (u : Value) : Fr B ob a (w.setCell ⟨B, o, none⟩ u) :=
  ⟨h.os, h.tape, h.output, Nat.le_trans h.size (by simp [World.setCell]), fun k hk hB ho => (Below.heap_setCell _ _ _ _ hB).trans (h.block k hk hB ho)⟩
theorem Fr.grown {row : Option Nat} (h : Fr B ob a w) (hg : w.grownBy w' row) (hr : ∀ k, row = some k → k < a.heap.size → some k = ob) : Fr B ob a w' :=
  ⟨hg.os.trans h.os, hg.tape.trans h.tape, hg.output.trans h.output, Nat.le_trans h.size hg.size, fun k hk hB ho => (hg.block k (Nat.lt_of_lt_of_le hk h.size) (fun e => ho (hr k e.symm hk))).trans (h.block k hk hB ho)⟩
theorem Win.fr0 {base sz tk fr : Nat} {tx : List UInt8} {cl : Bool} {v : Value} {row : List UInt8} (_ : Win w base B sz tx tk cl v row fr) : Fr B v.ownBlock w w := Fr.refl _ _ _
theorem Fr.below {base : Nat} {v : Value} {row : List UInt8} (h : Fr B v.ownBlock a b) (hB : base ≤ B) (hb : Buf a base v row) (hs : base ≤ a.heap.size) : Below base a b :=
  ⟨h.os, h.tape, h.output, h.size, fun k hk => h.block k (by omega) (by omega) (fun e => by have := (hb.lt k e.symm).1; omega)⟩
end
set_option maxHeartbeats 2000000 in
theorem vtake {w : World} {base B sz : Nat} {tx : List UInt8} {tk : Nat} {cl : Bool} {v : Value} {row : List UInt8} {fr : Nat} (W0 : Win w base B sz tx tk cl v row fr) (k : Nat) (hk : k ≤ tx.length) (htk : tk ≤ 4611686018427387904) : Calls Try.prog 12 #[.pointer (some ⟨B, 0, none⟩), .int .i64 k] w fun e w' => e = .returned (.tuple #[.string ⟨(tx.take k).toArray⟩, .int .i64 0]) ∧ (∃ v' row' fr', Win w' base B sz (tx.drop k) (tk + k) cl v' row' fr' ∧ Fr B v.ownBlock w w') := by
  have hz := W0.len
  have hr := W0.hrow
  have hfr := W0.hfr
  have hBb := W0.hB
  have hm := W0.buf.form
  have HL := Lib.hid (fun w' (h : Win w' base B sz tx tk cl v row fr) => win_len h)
  have hfin : ∀ w2, Win w2 base B sz tx tk cl v row fr → ∃ v' row' fr', Win ((w2.setCell ⟨B, 2, none⟩ (.int .i64 ((fr : Int) + (k : Int)))).setCell ⟨B, 3, none⟩ (.int .i64 ((tk : Int) + (k : Int)))) base B sz (tx.drop k) (tk + k) cl v' row' fr' := fun w2 W2 =>
    ⟨v, row, fr + k, (W2.wc.set2 (fr + k)).set3 (tk + k), (W2.buf.set W2.hne 2 _).set W2.hne 3 _, W2.hB, by omega, by rw [← W2.tx_, List.drop_drop], W2.hrow, by have := W2.htx; omega, W2.hsz, W2.hne⟩
  have HF := Lib.hid hfin
  clear hfin
  rcases hm with ⟨rfl, rfl⟩ | ⟨g, cap, rfl, hc, _, hcell⟩
  · have hl0 : tx = [] := List.length_eq_zero_iff.1 (by rw [← hz]; simp)
    obtain rfl : k = 0 := by rw [hl0] at hk; simpa using hk
    obtain rfl : fr = 0 := by simpa using hfr
    have hcv : ∀ w, (convert 52 9 (.slice none 0 0)).run Try.prog w = .ok (.string ByteArray.empty) w := fun w => run_convert_bytes_nil (P := Try.prog) w 52 5 Try.underlying52 Try.underlying5 0 0 9 Try.underlying9
    subst hl0
    go_enter Try.func12, Try.ntmps12
    go_wp2_with (first | (go_at_call 21; (with_reducible refine (HL.out _ W0).mono ?_); rintro e w1 ⟨rfl, hq1⟩; have W1 := W0.q hq1; have b1 := W0.fr0.q hq1; clear hq1) | (go_at_call 25; (with_reducible refine (held_none W1.wc).mono ?_); rintro e w2 ⟨rfl, hq2⟩; have W2 := W1.q hq2; have b2 := b1.q hq2; clear hq2; have c2 := W2.wc.c2; have c3 := W2.wc.c3; have f2 := W2.wc.fz 2; have f3 := W2.wc.fz 3))
    go_ret2
    obtain ⟨v', row', fr', hX⟩ := HF.out w2 W2
    exact ⟨rfl, v', row', fr', (by simpa using hX), (b2.setCell 2 _).setCell 3 _⟩
  · have HCV : Hid (∀ w2, Win w2 base B sz tx tk cl (.slice (some ⟨g, 0, none⟩) row.length cap) row fr → ∀ dst, Try.prog.underlying dst = some .string → (convert 52 dst (.slice (some ⟨g, if row.length = fr then 0 else fr, none⟩) k (row.length - fr))).run Try.prog w2 = .ok (.string ⟨(tx.take k).toArray⟩) w2) := Lib.hid fun w2 W2 => by
      refine conv_is (by simp; omega) fun i hi => ?_
      have hnf : ¬ row.length = fr := by omega
      rw [if_neg hnf]
      rcases W2.buf.form with ⟨h, _⟩ | ⟨g', cap', h, _, _, hc⟩
      · cases h
      · injection h with h1 _ _; injection h1 with h1; injection h1 with h1
        subst h1
        rw [hc (fr + i) (by omega), ← W2.tx_]
        simp [List.getD_eq_getElem?_getD, List.getElem?_take, hi]
    clear hcell
    by_cases he : row.length = fr
    · obtain rfl : k = 0 := by omega
      subst he
      simp only [if_pos, Nat.sub_self] at HCV
      go_enter Try.func12, Try.ntmps12
      go_wp2_with (first | (go_at_call 21; (with_reducible refine (HL.out _ W0).mono ?_); rintro e w1 ⟨rfl, hq1⟩; have W1 := W0.q hq1; have b1 := W0.fr0.q hq1; clear hq1) | (go_at_call 25; (with_reducible refine (held_end W1.wc (by omega) hc).mono ?_); rintro e w2 ⟨rfl, hq2⟩; have W2 := W1.q hq2; have b2 := b1.q hq2; clear hq2; have c2 := W2.wc.c2; have c3 := W2.wc.c3; have f2 := W2.wc.fz 2; have f3 := W2.wc.fz 3; have hcv := HCV.out w2 W2))
      go_ret2
      obtain ⟨v', row', fr', hX⟩ := HF.out w2 W2
      exact ⟨rfl, v', row', fr', (by simpa using hX), (b2.setCell 2 _).setCell 3 _⟩
    · simp only [if_neg he, hz] at HCV
      have hnz : ¬ row.length - fr = 0 := by omega
      have hnz2 : ¬ row.length ≤ fr := by omega
      have hlt : fr < row.length := by omega
      go_enter Try.func12, Try.ntmps12
      go_wp2_with (first | (go_at_call 21; (with_reducible refine (HL.out _ W0).mono ?_); rintro e w1 ⟨rfl, hq1⟩; have W1 := W0.q hq1; have b1 := W0.fr0.q hq1; clear hq1) | (go_at_call 25; (with_reducible refine (held_some W1.wc (by omega) (by omega) hc).mono ?_); rintro e w2 ⟨rfl, hq2⟩; have W2 := W1.q hq2; have b2 := b1.q hq2; clear hq2; have c2 := W2.wc.c2; have c3 := W2.wc.c3; have f2 := W2.wc.fz 2; have f3 := W2.wc.fz 3; have hcv := HCV.out w2 W2))
      go_ret2
      obtain ⟨v', row', fr', hX⟩ := HF.out w2 W2
      exact ⟨rfl, v', row', fr', (by simpa using hX), (b2.setCell 2 _).setCell 3 _⟩
set_option maxHeartbeats 1000000 in
theorem vclose {w : World} {base B sz : Nat} {tx : List UInt8} {tk : Nat} {v : Value} {row : List UInt8} {fr : Nat} (W0 : Win w base B sz tx tk false v row fr) : Calls Try.prog 14 #[.pointer (some ⟨B, 0, none⟩)] w fun e w' => e = .returned (.int .i64 0) ∧ (∃ v' row' fr', Win w' base B sz tx tk true v' row' fr' ∧ Fr B v.ownBlock w w') := by
  have c4 := W0.wc.c4
  have f4 := W0.wc.fz 4
  go_enter Try.func14, Try.ntmps14
  go_wp2
  go_ret
  exact ⟨rfl, v, row, fr, ⟨W0.wc.set4 true, W0.buf.set W0.hne 4 _, W0.hB, W0.hfr, W0.tx_, W0.hrow, W0.htx, W0.hsz, W0.hne⟩, (Fr.refl _ _ _).setCell 4 _⟩
set_option maxRecDepth 100000 in
set_option maxHeartbeats 2000000 in
theorem vfeed_a {w : World} {base B sz : Nat} {tx : List UInt8} {tk : Nat} {v : Value} {row : List UInt8} {fr : Nat} (W0 : Win w base B sz tx tk false v row fr) (s : ByteArray) (hs : s.size ≤ sz - tx.length) (hf : fr ≤ tx.length) (hbs : base ≤ w.heap.size) : Calls Try.prog 10 #[.pointer (some ⟨B, 0, none⟩), .string s] w fun e w' => e = .returned (.int .i64 0) ∧ (∃ v' row' fr', Win w' base B sz (tx ++ s.data.toList) tk false v' row' fr' ∧ Fr B v.ownBlock w w') := by
  obtain ⟨i0, hi, hz0, hz1, hz2⟩ := info_parts info_u8
  have HI := Lib.hid hi
  have HZ0 := Lib.hid hz0
  have HZ1 := Lib.hid hz1
  have HZ2 := Lib.hid hz2
  clear hi hz0 hz1 hz2
  have hz := W0.len
  have hr := W0.hrow
  have hfr := W0.hfr
  have hBb := W0.hB
  have hsz := W0.hsz
  have htx := W0.htx
  have HF := Lib.hid (fun w' (h : Win w' base B sz tx tk false v row fr) => win_free h)
  have HL := Lib.hid (fun w' (h : Win w' base B sz tx tk false v row fr) => win_len h)
  have c4 := W0.wc.c4
  have h63 : row.length + s.size ≤ maxLen := by unfold maxLen; omega
  have HZ := Lib.hid hz
  have hfi : ¬ (tx.length : Int) < (fr : Int) := by omega
  clear hz
  go_enter Try.func10, Try.ntmps10
  go_wp2_with (go_at_call 23; (with_reducible refine (HF.out _ W0).mono ?_); rintro e w1 ⟨rfl, hq1⟩; have W1 := W0.q hq1; have b1 := W0.fr0.q hq1; have hbs1 := Nat.le_trans hbs b1.size; clear hq1; have d2 := W1.wc.c2; have d1 := W1.wc.c1)
  go_quiet ((go_at_call 21; exact Calls.quiet_of (HL.out _ (W1.N _))))
  have W2 := W1.N nq
  have b2 := b1.N nq
  generalize w1.drewN nq = w2 at *
  have HW2 := Lib.hid W2
  have e1 := W2.wc.c1
  have g1 := W2.wc.fz 1
  have hbs2 : base ≤ w2.heap.size := Nat.le_trans hbs b2.size
  have hne := W2.hne
  go_wp2_with (at_builtin; go_loud (refine Lib.wpList_append_own_string _ rfl _ _ 52 9 rfl base 5 i0 Try.underlying52 Try.underlying9 HI.out HZ0.out HZ1.out HZ2.out v row.length (row.map fun c : UInt8 => Value.int .u8 (c.toNat : Int)) rfl HW2.out.buf s rfl h63 (by omega) hbs2 ?_; intro v' w3 hown3 hgrow _; have W3c := (HW2.out.wc.grown hgrow hne); have B3 := buf_app (by rw [List.length_append]; rfl) hown3; have N3 := own_ne W3c B3; obtain ⟨a3, cap3, rfl⟩ := own_form hown3; have b3 := b2.grown hgrow (fun k hk _ => hk.symm); have k1 := W3c.fz 1; have k2 := W3c.c1; clear hown3 hgrow))
  go_ret
  have hz := HZ.out
  have hls : (row ++ s.data.toList).length = row.length + s.size := by rw [List.length_append]; rfl
  exact ⟨rfl, _, row ++ s.data.toList, fr, ⟨W3c.set1 _, B3.set N3 1 _, hBb, by omega, by rw [List.drop_append_of_le_length hfr, HW2.out.tx_], by omega, by omega, hsz, N3⟩, b3.setCell 1 _⟩
theorem gl_of {g g' n n' cap cap' : Nat} {w w3 : World} (h : (Value.slice (some ⟨g, 0, none⟩) n cap).ownBlock = some g' ∨ g' = w3.heap.size) (hs : w.heap.size ≤ w3.heap.size) : ∀ k, (Value.slice (some ⟨g', 0, none⟩) n' cap').ownBlock = some k → k < w.heap.size → some k = (Value.slice (some ⟨g, 0, none⟩) n' cap).ownBlock := by
  intro k hk hlt
  have e : g' = k := by simpa [Value.ownBlock] using hk
  subst e
  rcases h with h | h
  · have : g = g' := by simpa [Value.ownBlock] using h
    subst this; rfl
  · omega
set_option maxRecDepth 100000 in
set_option maxHeartbeats 2000000 in
theorem vfeed_b {w : World} {base B sz : Nat} {tx : List UInt8} {tk : Nat} {v : Value} {row : List UInt8} {fr : Nat} (W0 : Win w base B sz tx tk false v row fr) (s : ByteArray) (hs : s.size ≤ sz - tx.length) (hf : tx.length < fr) (hbs : base ≤ w.heap.size) : Calls Try.prog 10 #[.pointer (some ⟨B, 0, none⟩), .string s] w fun e w' => e = .returned (.int .i64 0) ∧ (∃ v' row' fr', Win w' base B sz (tx ++ s.data.toList) tk false v' row' fr' ∧ Fr B v.ownBlock w w') := by
  obtain ⟨i0, hi, hz0, hz1, hz2⟩ := info_parts info_u8
  have HI := Lib.hid hi
  have HZ0 := Lib.hid hz0
  have HZ1 := Lib.hid hz1
  have HZ2 := Lib.hid hz2
  clear hi hz0 hz1 hz2
  have hz := W0.len
  have hr := W0.hrow
  have hfr := W0.hfr
  have hBb := W0.hB
  have hsz := W0.hsz
  have htx := W0.htx
  have HF := Lib.hid (fun w' (h : Win w' base B sz tx tk false v row fr) => win_free h)
  have HL := Lib.hid (fun w' (h : Win w' base B sz tx tk false v row fr) => win_len h)
  have c4 := W0.wc.c4
  have h63 : row.length + s.size ≤ maxLen := by unfold maxLen; omega
  have HZ := Lib.hid hz
  have hfi : (tx.length : Int) < (fr : Int) := by omega
  clear hz
  go_enter Try.func10, Try.ntmps10
  go_wp2_with (go_at_call 23; (with_reducible refine (HF.out _ W0).mono ?_); rintro e w1 ⟨rfl, hq1⟩; have W1 := W0.q hq1; have b1 := W0.fr0.q hq1; have hbs1 := Nat.le_trans hbs b1.size; clear hq1; have d2 := W1.wc.c2; have d1 := W1.wc.c1)
  go_quiet ((go_at_call 21; exact Calls.quiet_of (HL.out _ (W1.N _))))
  have W2 := W1.N nq
  have b2 := b1.N nq
  generalize w1.drewN nq = w2 at *
  have hbs2 : base ≤ w2.heap.size := Nat.le_trans hbs b2.size
  have hne := W2.hne
  rcases W2.buf.form with ⟨rfl, rfl⟩ | ⟨g, cap, rfl, hc, hg, hcell⟩
  · exact absurd hf (by simp at hfr; omega)
  have e1 := W2.wc.c1
  have g1 := W2.wc.fz 1
  have g2 := W2.wc.fz 2
  have HW2 := Lib.hid W2
  have hown0 : ∀ w', Win w' base B sz tx tk false (.slice (some ⟨g, 0, none⟩) row.length cap) row fr → w'.ownsRow base 5 1 (.slice (some ⟨g, 0, none⟩) 0 cap) 0 [] := fun w' W' => by
    rcases W'.buf.2 with ⟨h, _⟩ | ⟨g', cap', cur, h, q1, q2, q3, q4, q5, _⟩
    · cases h
    · injection h with h1 _ h3; injection h1 with h1; injection h1 with h1
      subst h1; subst h3
      exact ⟨rfl, .inr ⟨g, cap, cur, rfl, q1, q2, Nat.zero_le _, q4, q5, by simp⟩⟩
  have HO := Lib.hid hown0
  clear hown0
  by_cases hm : 0 < tx.length
  · have hnews : ∀ w', Win w' base B sz tx tk false (.slice (some ⟨g, 0, none⟩) row.length cap) row fr → ∀ j u, (tx.map fun c : UInt8 => Value.int .u8 (c.toNat : Int))[j]? = some u → w'.cell? ((⟨g, fr, none⟩ : Addr).add j) = some u := fun w' W' j u hu => by
      have hj : j < tx.length := by
        rcases Nat.lt_or_ge j tx.length with h | h
        · exact h
        · rw [List.getElem?_eq_none (by simpa using h)] at hu; cases hu
      rcases W'.buf.form with ⟨h, _⟩ | ⟨g', cap', h, _, _, hcc⟩
      · cases h
      · injection h with h1 _ _; injection h1 with h1; injection h1 with h1
        subst h1
        have hz := HZ.out
        have hadd : (⟨g, fr, none⟩ : Addr).add j = ⟨g, fr + j, none⟩ := by unfold Addr.add; split <;> simp_all
        rw [hadd, hcc (fr + j) (by omega)]
        rw [List.getElem?_map, List.getElem?_eq_getElem hj] at hu
        rw [← hu]
        have : row.getD (fr + j) 0 = tx[j] := by
          have e : tx.getD j 0 = row.getD (fr + j) 0 := by rw [← W'.tx_]; simp [List.getD_eq_getElem?_getD]
          rw [← e, List.getD_eq_getElem?_getD, List.getElem?_eq_getElem hj]; rfl
        rw [this]; rfl
    have HN := Lib.hid hnews
    clear hnews hcell
    have HH := Lib.hid (fun w' (h : Win w' base B sz tx tk false (.slice (some ⟨g, 0, none⟩) row.length cap) row fr) => held_some h.wc (by have := HZ.out; omega) (by omega) hc)
    rw [HZ.out] at HH
    have hmx : 0 + tx.length ≤ maxLen := by unfold maxLen; omega
    have hbm : (0 + tx.length) * 1 ≤ 140737488355328 := by omega
    have h63b := Lib.hid (show tx.length + s.size ≤ maxLen by unfold maxLen; omega)
    have W2d := HW2.out.d
    have b2d := b2.d
    have hone := Lib.hid (one_cells tx)
    go_wp2
    go_region_law (first | (refine step_append_lies _ rfl (.tmp 30) (.tmp 32) 52 rfl base 5 i0 (.int .u8 0) 1 1 Try.underlying52 HI.out HZ0.out HZ1.out HZ2.out rfl (by decide) (.slice (some ⟨g, 0, none⟩) 0 cap) 0 [] (by simp [Act.eval, Act.put]) (HO.out _ W3) ⟨g, fr, none⟩ tx.length tx.length (tx.map fun c : UInt8 => Value.int .u8 (c.toNat : Int)) (by simp [Act.eval, Act.put]) (by simp) (HN.out _ W3) hone.out hm hmx hbm hbs3 w3.heap.size rfl ?_; intro g' cap' w4 hown4 hgrow4 hgl hlt4; have W4c := W3.wc.grown hgrow4 hne; have B4 : Buf w4 base (.slice (some ⟨g', 0, none⟩) tx.length cap') tx := (by have h := hown4; rw [Nat.zero_add, List.nil_append] at h; exact h); have N4 := own_ne W4c B4; have b4 := b3.grown hgrow4 (fun k hk _ => hk.symm); have e4 := W4c.c1; have g4 := W4c.fz 1; have e5 := W4c.c2; have g5 := W4c.fz 2; have hbs4 := Nat.le_trans hbs b4.size; have HGL : Hid (∀ k, (Value.slice (some ⟨g', 0, none⟩) tx.length cap').ownBlock = some k → k < w.heap.size → some k = (Value.slice (some ⟨g, 0, none⟩) row.length cap).ownBlock) := Lib.hid (gl_of hgl b3.size); clear hown4 hgrow4 hgl) | (go_simp; go_at_call 25; (with_reducible refine (HH.out _ W2d).mono ?_); rintro e w3 ⟨rfl, hq3⟩; have W3 := W2d.q hq3; have b3 := b2d.q hq3; have hbs3 := Nat.le_trans hbs b3.size; clear hq3; have e3 := W3.wc.c1; have g3 := W3.wc.fz 1))
    go_wp2_with (at_builtin; go_loud (refine Lib.wpList_append_own_string _ rfl _ _ 52 9 rfl base 5 i0 Try.underlying52 Try.underlying9 HI.out HZ0.out HZ1.out HZ2.out (.slice (some ⟨g', 0, none⟩) tx.length cap') tx.length (tx.map fun c : UInt8 => Value.int .u8 (c.toNat : Int)) rfl ((B4.set N4 1 _).set N4 2 _) s rfl h63b.out (by omega) (by simpa using hbs4) ?_; intro v' w7 hown7 hgrow7 _; have W7c := (WC.grown ((W4c.set1 _).set2 0) hgrow7 N4); have B7 := buf_app (by rw [List.length_append]; rfl) hown7; have N7 := own_ne W7c B7; obtain ⟨a7, cap7, rfl⟩ := own_form hown7; have b7 := ((b4.setCell 1 _).setCell 2 _).grown hgrow7 (HGL.out); have k1 := W7c.fz 1; have k2 := W7c.c1; clear hown7 hgrow7))
    all_goals
      go_ret
      have hz := HZ.out
      have hls : (tx ++ s.data.toList).length = tx.length + s.size := by rw [List.length_append]; rfl
      exact ⟨rfl, _, tx ++ s.data.toList, 0, ⟨W7c.set1 _, B7.set N7 1 _, hBb, by omega, rfl, by omega, by omega, hsz, N7⟩, b7.setCell 1 _⟩
  · have h0 : tx.length = 0 := by omega
    obtain rfl : tx = [] := List.length_eq_zero_iff.1 h0
    have hz := HZ.out
    obtain rfl : fr = row.length := by simp at hz; omega
    have HH := Lib.hid (fun w' (h : Win w' base B sz [] tk false (.slice (some ⟨g, 0, none⟩) row.length cap) row row.length) => held_end h.wc (by omega) hc)
    have h63b := Lib.hid (show 0 + s.size ≤ maxLen by unfold maxLen; omega)
    have W2d := HW2.out.d
    have b2d := b2.d
    go_wp2
    go_region_law (first | (refine step_append_room rfl (.tmp 30) (.tmp 32) 52 rfl 5 i0 1 Try.underlying52 HI.out HZ1.out g 0 0 cap (by simp [Act.eval, Act.put]) ⟨g, 0, none⟩ 0 0 [] (by simp [Act.eval, Act.put]) rfl (fun j u h => by cases h) (fun u h => by cases h) (Nat.zero_le _) (fun j h => by cases h) ?_; rw [show ∀ o, World.setCells w3 g o [] = w3 from fun _ => rfl]) | (go_simp; go_at_call 25; (with_reducible refine (HH.out _ W2d).mono ?_); rintro e w3 ⟨rfl, hq3⟩; have W3 := W2d.q hq3; have b3 := b2d.q hq3; have hbs3 := Nat.le_trans hbs b3.size; clear hq3; have W4c := W3.wc; have B4 : Buf w3 base (.slice (some ⟨g, 0, none⟩) 0 cap) [] := HO.out _ W3; have N4 := own_ne W4c B4; have e4 := W4c.c1; have g4 := W4c.fz 1; have e5 := W4c.c2; have g5 := W4c.fz 2))
    go_wp2_with (at_builtin; go_loud (refine Lib.wpList_append_own_string _ rfl _ _ 52 9 rfl base 5 i0 Try.underlying52 Try.underlying9 HI.out HZ0.out HZ1.out HZ2.out (.slice (some ⟨g, 0, none⟩) 0 cap) 0 (([] : List UInt8).map fun c : UInt8 => Value.int .u8 (c.toNat : Int)) rfl ((B4.set N4 1 _).set N4 2 _) s rfl h63b.out (by omega) (by simpa using hbs3) ?_; intro v' w7 hown7 hgrow7 _; have W7c := (WC.grown ((W4c.set1 _).set2 0) hgrow7 N4); have B7 := buf_app (by rw [List.length_append]; rfl) hown7; have N7 := own_ne W7c B7; obtain ⟨a7, cap7, rfl⟩ := own_form hown7; have b7 := ((b3.setCell 1 _).setCell 2 _).grown hgrow7 (fun k hk _ => hk.symm); have k1 := W7c.fz 1; have k2 := W7c.c1; clear hown7 hgrow7))
    all_goals
      go_ret
      have hz := HZ.out
      have hls : (([] : List UInt8) ++ s.data.toList).length = 0 + s.size := by rw [List.length_append]; rfl
      rw [Nat.zero_add] at N7 B7
      exact ⟨rfl, _, [] ++ s.data.toList, 0, ⟨W7c.set1 _, B7.set N7 1 _, hBb, by omega, rfl, by omega, by simp at hs; omega, hsz, N7⟩, b7.setCell 1 _⟩

/-- A window behind a quiet call. -/
theorem Win.post {w w' : World} {base B sz tk fr : Nat} {tx row : List UInt8} {cl : Bool} {v : Value} (W : Win w base B sz tx tk cl v row fr) (hq : ∃ m, w' = w.drewN m) : ∃ v' row' fr', Win w' base B sz tx tk cl v' row' fr' ∧ Fr B v.ownBlock w w' := ⟨v, row, fr, W.q hq, W.fr0.q hq⟩
theorem q0 (w : World) : ∃ m, w = w.drewN m := ⟨0, rfl⟩
set_option maxHeartbeats 1000000 in
theorem vtake_bad {w : World} {base B sz : Nat} {tx : List UInt8} {tk : Nat} {cl : Bool} {v : Value} {row : List UInt8} {fr : Nat} (W0 : Win w base B sz tx tk cl v row fr) (n : Int) (hn : n < 0 ∨ (tx.length : Int) < n) (hb : -9223372036854775808 ≤ n ∧ n ≤ 9223372036854775807) : Calls Try.prog 12 #[.pointer (some ⟨B, 0, none⟩), .int .i64 n] w fun e w' => e = .returned (.tuple #[.string ⟨#[]⟩, .int .i64 2]) ∧ ∃ m, w' = w.drewN m := by
  have HL := Lib.hid (win_len W0)
  have hq := q0 w
  rcases hn with h | h
  · go_enter Try.func12, Try.ntmps12
    go_wp2_with (go_at_call 21; (with_reducible refine HL.out.mono ?_); rintro e w1 ⟨rfl, hq⟩)
    all_goals
      go_ret2
      exact ⟨rfl, hq⟩
  · have h0 : ¬ n < 0 := by omega
    go_enter Try.func12, Try.ntmps12
    go_wp2_with (go_at_call 21; (with_reducible refine HL.out.mono ?_); rintro e w1 ⟨rfl, hq⟩)
    go_ret2
    exact ⟨rfl, hq⟩
theorem vat_out {w : World} {base B sz : Nat} {tx : List UInt8} {tk : Nat} {cl : Bool} {v : Value} {row : List UInt8} {fr : Nat} (W0 : Win w base B sz tx tk cl v row fr) (n : Int) (hn : n < 0 ∨ (tx.length : Int) ≤ n) (hb : -9223372036854775808 ≤ n ∧ n ≤ 9223372036854775807) : Calls Try.prog 16 #[.pointer (some ⟨B, 0, none⟩), .int .i64 n] w fun e w' => e = .returned (.tuple #[.int .i64 0, .bool false]) ∧ ∃ m, w' = w.drewN m := by
  have HL := Lib.hid (win_len W0)
  have hq := q0 w
  rcases hn with h | h
  · go_enter Try.func16, Try.ntmps16
    go_wp2_with (go_at_call 21; (with_reducible refine HL.out.mono ?_); rintro e w1 ⟨rfl, hq⟩)
    all_goals
      go_ret2
      exact ⟨rfl, hq⟩
  · have h0 : ¬ n < 0 := by omega
    go_enter Try.func16, Try.ntmps16
    go_wp2_with (go_at_call 21; (with_reducible refine HL.out.mono ?_); rintro e w1 ⟨rfl, hq⟩)
    go_ret2
    exact ⟨rfl, hq⟩
theorem vfind_out {w : World} {base B sz : Nat} {tx : List UInt8} {tk : Nat} {cl : Bool} {v : Value} {row : List UInt8} {fr : Nat} (W0 : Win w base B sz tx tk cl v row fr) (b f : Int) (h : f < 0 ∨ (tx.length : Int) ≤ f ∨ b < 0 ∨ 255 < b) (hb : -9223372036854775808 ≤ b ∧ b ≤ 9223372036854775807) (hf : -9223372036854775808 ≤ f ∧ f ≤ 9223372036854775807) : Calls Try.prog 18 #[.pointer (some ⟨B, 0, none⟩), .int .i64 b, .int .i64 f] w fun e w' => e = .returned (.tuple #[.int .i64 0, .bool false]) ∧ ∃ m, w' = w.drewN m := by
  have HL := Lib.hid (win_len W0)
  have hc : b < 0 ∨ (0 ≤ b ∧ 255 < b) ∨ (0 ≤ b ∧ b ≤ 255 ∧ f < 0) ∨ (0 ≤ b ∧ b ≤ 255 ∧ 0 ≤ f ∧ (tx.length : Int) ≤ f) := by omega
  clear h
  have hq := q0 w
  rcases hc with h | ⟨h, h1⟩ | ⟨h, h1, h2⟩ | ⟨h, h1, h2, h3⟩
  all_goals
    go_enter Try.func18, Try.ntmps18
    go_wp2_with (go_at_call 21; (with_reducible refine HL.out.mono ?_); rintro e w1 ⟨rfl, hq⟩)
    all_goals
      go_ret2
      exact ⟨rfl, hq⟩
theorem q2 {a b c : World} (h : ∃ m, b = a.drewN m) (k : ∃ m, c = b.drewN m) : ∃ m, c = a.drewN m := by
  obtain ⟨m, rfl⟩ := h
  obtain ⟨n, rfl⟩ := k
  exact ⟨m + n, by rw [World.drewN_drewN]⟩
set_option maxRecDepth 100000 in
set_option maxHeartbeats 2000000 in
theorem vfind_in {w : World} {base B sz : Nat} {tx : List UInt8} {tk : Nat} {cl : Bool} {v : Value} {row : List UInt8} {fr : Nat} (W0 : Win w base B sz tx tk cl v row fr) (b f : Nat) (h : f < tx.length) (hb : b ≤ 255) : Calls Try.prog 18 #[.pointer (some ⟨B, 0, none⟩), .int .i64 b, .int .i64 f] w fun e w' => e = .returned (.tuple #[.int .i64 (fres tx b f).1, .bool (fres tx b f).2]) ∧ ∃ m, w' = w.drewN m := by
  have hz := W0.len
  have hr := W0.hrow
  have HL := Lib.hid (win_len W0)
  rcases W0.buf.form with ⟨rfl, rfl⟩ | ⟨g, cap, rfl, hc, _, _⟩
  · simp at hz; omega
  have HH : Hid (∀ w', Win w' base B sz tx tk cl (.slice (some ⟨g, 0, none⟩) row.length cap) row fr → Calls Try.prog 25 #[.pointer (some ⟨B, 0, none⟩)] w' fun e w'' => e = .returned (.slice (some ⟨g, fr, none⟩) tx.length tx.length) ∧ ∃ m, w'' = w'.drewN m) := Lib.hid fun w' W' => by
    have := held_some W'.wc (by omega) (by omega) hc
    rwa [hz] at this
  have HI : Hid (∀ w', Win w' base B sz tx tk cl (.slice (some ⟨g, 0, none⟩) row.length cap) row fr → Calls Try.prog 27 #[.slice (some ⟨g, fr + f, none⟩) (tx.length - f) (tx.length - f), .int .u8 b] w' fun e w'' => e = .returned (.int .i64 (Lib.indexByte (tx.drop f) b.toUInt8)) ∧ w'' = w') := Lib.hid fun w' W' => by
    have := Try.bytes_IndexByte g (fr + f) (tx.length - f) (tx.length - f) ((tx.drop f).map fun c => (c.toNat : Int)) b w' (by rw [List.length_map, List.length_drop]) (fun i hi => by
      rcases W'.buf.form with ⟨h, _⟩ | ⟨g', cap', h, _, _, hcc⟩
      · cases h
      · injection h with h1 _ _; injection h1 with h1; injection h1 with h1
        subst h1
        have hlt : f + i < tx.length := by omega
        rw [show fr + f + i = fr + (f + i) by omega, hcc (fr + (f + i)) (by omega)]
        have e : tx.getD (f + i) 0 = row.getD (fr + (f + i)) 0 := by rw [← W'.tx_]; simp [List.getD_eq_getElem?_getD]
        rw [← e]
        have hl2 : i < (tx.drop f).length := by rw [List.length_drop]; omega
        simp [List.getD_eq_getElem?_getD, List.getElem?_map, List.getElem?_drop, List.getElem?_eq_getElem hlt])
    rwa [bytesOf_bytes, Int.toNat_natCast] at this
  have HZ := Lib.hid hz
  have hx1 := index_lt (tx.drop f) b.toUInt8
  rw [List.length_drop] at hx1
  have hfr : fres tx b f = if Lib.indexByte (tx.drop f) b.toUInt8 ≠ -1 then ((f : Int) + Lib.indexByte (tx.drop f) b.toUInt8, true) else (0, false) := by
    unfold fres
    rw [Int.toNat_natCast, Int.toNat_natCast]
    by_cases q : Lib.indexByte (tx.drop f) b.toUInt8 ≠ -1
    · rw [if_pos q, if_pos ⟨by omega, by omega, by omega, by omega, q⟩]
    · rw [if_neg q, if_neg (fun h => q h.2.2.2.2)]
  have HFR := Lib.hid hfr
  have htl : tx.length ≤ 131072 := by omega
  clear hfr hz
  obtain ⟨x, hx⟩ : ∃ x, Lib.indexByte (tx.drop f) b.toUInt8 = x := ⟨_, rfl⟩
  rw [hx] at HFR HI hx1
  clear hx
  obtain ⟨hx2, hx3⟩ := hx1
  have hnz : ¬ tx.length - f = 0 := by omega
  by_cases hneg : x < 0
  all_goals
    go_enter Try.func18, Try.ntmps18
    go_wp2_with (first | (go_at_call 21; (with_reducible refine HL.out.mono ?_); rintro e w1 ⟨rfl, hq1⟩; have W1 := W0.q hq1; skip) | (go_at_call 25; (with_reducible refine (HH.out _ W1).mono ?_); rintro e w2 ⟨rfl, hq2⟩; have W2 := W1.q hq2; have hq3 := q2 hq1 hq2) | (go_at_call 27; go_loud ((with_reducible refine (HI.out _ W2).mono ?_); rintro e w3 ⟨rfl, rfl⟩)))
    go_ret2
    refine ⟨?_, hq3⟩
    rw [HFR.out]
    first | (rw [if_neg (by omega)]; done) | (rw [if_pos (by omega)]; done) | (rw [if_neg (by omega)]; rfl) | (rw [if_pos (by omega)]; rfl)
end Go.Proofs.Ytmmgfbnfjcbcfaa.Win
