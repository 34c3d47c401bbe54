/-
  Contracts of package window: appending, after what was taken is dropped.
-/
import Derived.Test.YtmmgfbnfjcbcfaaWinC
namespace Go.Proofs.Ytmmgfbnfjcbcfaa.Win
open Go.RowKit
set_option linter.unusedVariables false
set_option linter.unusedSimpArgs false

theorem Win.d {w : World} {base B sz : Nat} {tx : List UInt8} {tk : Nat} {cl : Bool} {v : Value} {row : List UInt8} {fr : Nat} (h : Win w base B sz tx tk cl v row fr) : Win w.drew base B sz tx tk cl v row fr :=
  ⟨h.wc, h.buf, h.hB, h.hfr, h.tx_, h.hrow, h.htx, h.hsz, h.hne⟩
theorem below_d {B : Nat} {a w : World} (h : Below B a w) : Below B a w.drew := h.drew
theorem one_cells (l : List UInt8) : ∀ u ∈ (l.map fun c : UInt8 => Value.int .u8 (c.toNat : Int)), u.oneCell' = true := by
  intro u hu
  obtain ⟨c, _, rfl⟩ := List.mem_map.1 hu
  rfl
set_option maxRecDepth 100000 in
set_option maxHeartbeats 2000000 in
theorem win_feed_b {w : World} {base B sz : Nat} {tx : List UInt8} {tk : Nat} {v : Value} {row : List UInt8} {fr : Nat} (W0 : Win w base B sz tx tk false v row fr) (s : ByteArray) (hs : s.size ≤ sz - tx.length) (hf : tx.length < fr) (hbs : base ≤ w.heap.size) : Calls Try.prog 10 #[.pointer (some ⟨B, 0, none⟩), .string s] w fun e w' => e = .returned (.int .i64 0) ∧ Wn w' base B sz (tx ++ s.data.toList) tk false ∧ Below base w w' := by
  obtain ⟨i0, hi, hz0, hz1, hz2⟩ := info_parts info_u8
  have HI := Lib.hid hi
  have HZ0 := Lib.hid hz0
  have HZ1 := Lib.hid hz1
  have HZ2 := Lib.hid hz2
  clear hi hz0 hz1 hz2
  have hz := W0.len
  have hr := W0.hrow
  have hfr := W0.hfr
  have hBb := W0.hB
  have hsz := W0.hsz
  have htx := W0.htx
  have HF := Lib.hid (fun w' (h : Win w' base B sz tx tk false v row fr) => win_free h)
  have HL := Lib.hid (fun w' (h : Win w' base B sz tx tk false v row fr) => win_len h)
  have c4 := W0.wc.c4
  have h63 : row.length + s.size ≤ maxLen := by unfold maxLen; omega
  have HZ := Lib.hid hz
  have hfi : (tx.length : Int) < (fr : Int) := by omega
  clear hz
  go_enter Try.func10, Try.ntmps10
  go_wp2_with (go_at_call 23; (with_reducible refine (HF.out _ W0).mono ?_); rintro e w1 ⟨rfl, hq1⟩; have W1 := W0.q hq1; have b1 := below_q (Below.refl base w) hq1; have hbs1 := Nat.le_trans hbs b1.size; clear hq1; have d2 := W1.wc.c2; have d1 := W1.wc.c1)
  go_quiet ((go_at_call 21; exact Calls.quiet_of (HL.out _ (W1.N _))))
  have W2 := W1.N nq
  have b2 := below_N b1 nq
  generalize w1.drewN nq = w2 at *
  have hbs2 : base ≤ w2.heap.size := Nat.le_trans hbs b2.size
  have hne := W2.hne
  rcases W2.buf.form with ⟨rfl, rfl⟩ | ⟨g, cap, rfl, hc, hg, hcell⟩
  · exact absurd hf (by simp at hfr; omega)
  have e1 := W2.wc.c1
  have g1 := W2.wc.fz 1
  have g2 := W2.wc.fz 2
  have HW2 := Lib.hid W2
  have hown0 : ∀ w', Win w' base B sz tx tk false (.slice (some ⟨g, 0, none⟩) row.length cap) row fr → w'.ownsRow base 5 1 (.slice (some ⟨g, 0, none⟩) 0 cap) 0 [] := fun w' W' => by
    rcases W'.buf.2 with ⟨h, _⟩ | ⟨g', cap', cur, h, q1, q2, q3, q4, q5, _⟩
    · cases h
    · injection h with h1 _ h3; injection h1 with h1; injection h1 with h1
      subst h1; subst h3
      exact ⟨rfl, .inr ⟨g, cap, cur, rfl, q1, q2, Nat.zero_le _, q4, q5, by simp⟩⟩
  have HO := Lib.hid hown0
  clear hown0
  by_cases hm : 0 < tx.length
  · have hnews : ∀ w', Win w' base B sz tx tk false (.slice (some ⟨g, 0, none⟩) row.length cap) row fr → ∀ j u, (tx.map fun c : UInt8 => Value.int .u8 (c.toNat : Int))[j]? = some u → w'.cell? ((⟨g, fr, none⟩ : Addr).add j) = some u := fun w' W' j u hu => by
      have hj : j < tx.length := by
        rcases Nat.lt_or_ge j tx.length with h | h
        · exact h
        · rw [List.getElem?_eq_none (by simpa using h)] at hu; cases hu
      rcases W'.buf.form with ⟨h, _⟩ | ⟨g', cap', h, _, _, hcc⟩
      · cases h
      · injection h with h1 _ _; injection h1 with h1; injection h1 with h1
        subst h1
        have hz := HZ.out
        have hadd : (⟨g, fr, none⟩ : Addr).add j = ⟨g, fr + j, none⟩ := by unfold Addr.add; split <;> simp_all
        rw [hadd, hcc (fr + j) (by omega)]
        rw [List.getElem?_map, List.getElem?_eq_getElem hj] at hu
        rw [← hu]
        have : row.getD (fr + j) 0 = tx[j] := by
          have e : tx.getD j 0 = row.getD (fr + j) 0 := by rw [← W'.tx_]; simp [List.getD_eq_getElem?_getD]
          rw [← e, List.getD_eq_getElem?_getD, List.getElem?_eq_getElem hj]; rfl
        rw [this]; rfl
    have HN := Lib.hid hnews
    clear hnews hcell
    have HH := Lib.hid (fun w' (h : Win w' base B sz tx tk false (.slice (some ⟨g, 0, none⟩) row.length cap) row fr) => held_some h.wc (by have := HZ.out; omega) (by omega) hc)
    rw [HZ.out] at HH
    have hmx : 0 + tx.length ≤ maxLen := by unfold maxLen; omega
    have hbm : (0 + tx.length) * 1 ≤ 140737488355328 := by omega
    have h63b := Lib.hid (show tx.length + s.size ≤ maxLen by unfold maxLen; omega)
    have W2d := HW2.out.d
    have b2d := below_d b2
    have hone := Lib.hid (one_cells tx)
    go_wp2
    go_region_law (first | (refine step_append_lies _ rfl (.tmp 30) (.tmp 32) 52 rfl base 5 i0 (.int .u8 0) 1 1 Try.underlying52 HI.out HZ0.out HZ1.out HZ2.out rfl (by decide) (.slice (some ⟨g, 0, none⟩) 0 cap) 0 [] (by simp [Act.eval, Act.put]) (HO.out _ W3) ⟨g, fr, none⟩ tx.length tx.length (tx.map fun c : UInt8 => Value.int .u8 (c.toNat : Int)) (by simp [Act.eval, Act.put]) (by simp) (HN.out _ W3) hone.out hm hmx hbm hbs3 w3.heap.size rfl ?_; intro g' cap' w4 hown4 hgrow4 hgl hlt4; have W4c := W3.wc.grown hgrow4 hne; have B4 : Buf w4 base (.slice (some ⟨g', 0, none⟩) tx.length cap') tx := (by have h := hown4; rw [Nat.zero_add, List.nil_append] at h; exact h); have N4 := own_ne W4c B4; have b4 := b3.grown hgrow4 hbs3 (fun k hk => (HO.out _ W3).lt k hk |>.1); have e4 := W4c.c1; have g4 := W4c.fz 1; have e5 := W4c.c2; have g5 := W4c.fz 2; have hbs4 := Nat.le_trans hbs b4.size; clear hown4 hgrow4 hgl) | (go_simp; go_at_call 25; (with_reducible refine (HH.out _ W2d).mono ?_); rintro e w3 ⟨rfl, hq3⟩; have W3 := W2d.q hq3; have b3 := below_q b2d hq3; have hbs3 := Nat.le_trans hbs b3.size; clear hq3; have e3 := W3.wc.c1; have g3 := W3.wc.fz 1))
    go_wp2_with (at_builtin; go_loud (refine Lib.wpList_append_own_string _ rfl _ _ 52 9 rfl base 5 i0 Try.underlying52 Try.underlying9 HI.out HZ0.out HZ1.out HZ2.out (.slice (some ⟨g', 0, none⟩) tx.length cap') tx.length (tx.map fun c : UInt8 => Value.int .u8 (c.toNat : Int)) rfl ((B4.set N4 1 _).set N4 2 _) s rfl h63b.out (by omega) (by simpa using hbs4) ?_; intro v' w7 hown7 hgrow7 _; have W7c := (WC.grown ((W4c.set1 _).set2 0) hgrow7 N4); have B7 := buf_app (by rw [List.length_append]; rfl) hown7; have N7 := own_ne W7c B7; obtain ⟨a7, cap7, rfl⟩ := own_form hown7; have b7 := ((b4.setCell hBb _).setCell hBb _).grown hgrow7 (by simpa using hbs4) (fun k hk => (B4.lt k hk).1); have k1 := W7c.fz 1; have k2 := W7c.c1; clear hown7 hgrow7))
    all_goals
      go_ret
      have hz := HZ.out
      have hls : (tx ++ s.data.toList).length = tx.length + s.size := by rw [List.length_append]; rfl
      exact ⟨rfl, ⟨_, tx ++ s.data.toList, 0, W7c.set1 _, B7.set N7 1 _, hBb, by omega, rfl, by omega, by omega, hsz, N7⟩, b7.setCell hBb _⟩
  · have h0 : tx.length = 0 := by omega
    obtain rfl : tx = [] := List.length_eq_zero_iff.1 h0
    have hz := HZ.out
    obtain rfl : fr = row.length := by simp at hz; omega
    have HH := Lib.hid (fun w' (h : Win w' base B sz [] tk false (.slice (some ⟨g, 0, none⟩) row.length cap) row row.length) => held_end h.wc (by omega) hc)
    have h63b := Lib.hid (show 0 + s.size ≤ maxLen by unfold maxLen; omega)
    have W2d := HW2.out.d
    have b2d := below_d b2
    go_wp2
    go_region_law (first | (refine step_append_room rfl (.tmp 30) (.tmp 32) 52 rfl 5 i0 1 Try.underlying52 HI.out HZ1.out g 0 0 cap (by simp [Act.eval, Act.put]) ⟨g, 0, none⟩ 0 0 [] (by simp [Act.eval, Act.put]) rfl (fun j u h => by cases h) (fun u h => by cases h) (Nat.zero_le _) (fun j h => by cases h) ?_; rw [show ∀ o, World.setCells w3 g o [] = w3 from fun _ => rfl]) | (go_simp; go_at_call 25; (with_reducible refine (HH.out _ W2d).mono ?_); rintro e w3 ⟨rfl, hq3⟩; have W3 := W2d.q hq3; have b3 := below_q b2d hq3; have hbs3 := Nat.le_trans hbs b3.size; clear hq3; have W4c := W3.wc; have B4 : Buf w3 base (.slice (some ⟨g, 0, none⟩) 0 cap) [] := HO.out _ W3; have N4 := own_ne W4c B4; have e4 := W4c.c1; have g4 := W4c.fz 1; have e5 := W4c.c2; have g5 := W4c.fz 2))
    go_wp2_with (at_builtin; go_loud (refine Lib.wpList_append_own_string _ rfl _ _ 52 9 rfl base 5 i0 Try.underlying52 Try.underlying9 HI.out HZ0.out HZ1.out HZ2.out (.slice (some ⟨g, 0, none⟩) 0 cap) 0 (([] : List UInt8).map fun c : UInt8 => Value.int .u8 (c.toNat : Int)) rfl ((B4.set N4 1 _).set N4 2 _) s rfl h63b.out (by omega) (by simpa using hbs3) ?_; intro v' w7 hown7 hgrow7 _; have W7c := (WC.grown ((W4c.set1 _).set2 0) hgrow7 N4); have B7 := buf_app (by rw [List.length_append]; rfl) hown7; have N7 := own_ne W7c B7; obtain ⟨a7, cap7, rfl⟩ := own_form hown7; have b7 := ((b3.setCell hBb _).setCell hBb _).grown hgrow7 (by simpa using hbs3) (fun k hk => (B4.lt k hk).1); have k1 := W7c.fz 1; have k2 := W7c.c1; clear hown7 hgrow7))
    all_goals
      go_ret
      have hz := HZ.out
      have hls : (([] : List UInt8) ++ s.data.toList).length = 0 + s.size := by rw [List.length_append]; rfl
      rw [Nat.zero_add] at N7 B7
      exact ⟨rfl, ⟨_, [] ++ s.data.toList, 0, W7c.set1 _, B7.set N7 1 _, hBb, by omega, rfl, by omega, by simp at hs; omega, hsz, N7⟩, b7.setCell hBb _⟩
theorem win_feed {w : World} {base B sz : Nat} {tx : List UInt8} {tk : Nat} (hw : Wn w base B sz tx tk false) (s : ByteArray) (hs : s.size ≤ sz - tx.length) (hbs : base ≤ w.heap.size) : Calls Try.prog 10 #[.pointer (some ⟨B, 0, none⟩), .string s] w fun e w' => e = .returned (.int .i64 0) ∧ Wn w' base B sz (tx ++ s.data.toList) tk false ∧ Below base w w' := by
  obtain ⟨v, row, fr, W⟩ := hw
  rcases Nat.lt_or_ge tx.length fr with h | h
  · exact win_feed_b W s hs h hbs
  · exact win_feed_a W s hs h hbs
theorem wn_q {w w' : World} {base B sz : Nat} {tx : List UInt8} {tk : Nat} {cl : Bool} (h : Wn w base B sz tx tk cl) (hq : ∃ m, w' = w.drewN m) : Wn w' base B sz tx tk cl := by
  obtain ⟨v, row, fr, W⟩ := h; exact ⟨v, row, fr, W.q hq⟩
theorem wn_len {w : World} {base B sz : Nat} {tx : List UInt8} {tk : Nat} {cl : Bool} (h : Wn w base B sz tx tk cl) : Calls Try.prog 21 #[.pointer (some ⟨B, 0, none⟩)] w fun e w' => e = .returned (.int .i64 tx.length) ∧ Wn w' base B sz tx tk cl ∧ Below base w w' := by
  obtain ⟨v, row, fr, W⟩ := h
  exact (win_len W).mono fun _ _ ⟨he, hq⟩ => ⟨he, ⟨v, row, fr, W.q hq⟩, below_q (Below.refl _ _) hq⟩
theorem wn_free {w : World} {base B sz : Nat} {tx : List UInt8} {tk : Nat} {cl : Bool} (h : Wn w base B sz tx tk cl) : Calls Try.prog 23 #[.pointer (some ⟨B, 0, none⟩)] w fun e w' => e = .returned (.int .i64 (sz - tx.length : Nat)) ∧ Wn w' base B sz tx tk cl ∧ Below base w w' := by
  obtain ⟨v, row, fr, W⟩ := h
  exact (win_free W).mono fun _ _ ⟨he, hq⟩ => ⟨he, ⟨v, row, fr, W.q hq⟩, below_q (Below.refl _ _) hq⟩
theorem wn_at {w : World} {base B sz : Nat} {tx : List UInt8} {tk : Nat} {cl : Bool} (h : Wn w base B sz tx tk cl) (i : Nat) (hi : i < tx.length) : Calls Try.prog 16 #[.pointer (some ⟨B, 0, none⟩), .int .i64 i] w fun e w' => e = .returned (.tuple #[.int .i64 ((tx.getD i 0).toNat : Nat), .bool true]) ∧ Wn w' base B sz tx tk cl ∧ Below base w w' := by
  obtain ⟨v, row, fr, W⟩ := h
  exact (win_at W i hi).mono fun _ _ ⟨he, hq⟩ => ⟨he, ⟨v, row, fr, W.q hq⟩, below_q (Below.refl _ _) hq⟩
theorem wn_offset {w : World} {base B sz : Nat} {tx : List UInt8} {tk : Nat} {cl : Bool} (h : Wn w base B sz tx tk cl) : Calls Try.prog 22 #[.pointer (some ⟨B, 0, none⟩)] w fun e w' => e = .returned (.int .i64 tk) ∧ w' = w := by
  obtain ⟨v, row, fr, W⟩ := h; exact offset_q W.wc
theorem wn_closed {w : World} {base B sz : Nat} {tx : List UInt8} {tk : Nat} {cl : Bool} (h : Wn w base B sz tx tk cl) : Calls Try.prog 24 #[.pointer (some ⟨B, 0, none⟩)] w fun e w' => e = .returned (.bool cl) ∧ w' = w := by
  obtain ⟨v, row, fr, W⟩ := h; exact closed_q W.wc
theorem wn_feed3 {w : World} {base B sz : Nat} {tx : List UInt8} {tk : Nat} (s : ByteArray) (hw : Wn w base B sz tx tk false) (hs : sz - tx.length < s.size) (hs2 : s.size ≤ 9223372036854775807) : Calls Try.prog 10 #[.pointer (some ⟨B, 0, none⟩), .string s] w fun e w' => e = .returned (.int .i64 28) ∧ Wn w' base B sz tx tk false ∧ Below base w w' :=
  (win_feed3 s hw hs hs2).mono fun _ _ ⟨he, hq⟩ => ⟨he, wn_q hw hq, below_q (Below.refl _ _) hq⟩
theorem new_wn (sz : Nat) (w : World) (h : 1 ≤ sz) (h1 : sz ≤ 65536) : Calls Try.prog 8 #[.int .i64 sz] w fun e w' => e = .returned (.tuple #[.pointer (some ⟨w.heap.size, 0, none⟩), .int .i64 0]) ∧ Wn w' w.heap.size w.heap.size sz [] 0 false ∧ Below w.heap.size w w' :=
  (new_any sz w h h1).mono fun _ _ ⟨he, hw, hb⟩ => ⟨he, ⟨_, [], 0, hw, World.ownsRow_nil _ _ _ _, Nat.le_refl _, Nat.le_refl _, rfl, by simp, by simp, h1, by simp [Value.ownBlock]⟩, hb⟩
end Go.Proofs.Ytmmgfbnfjcbcfaa.Win
