/-
  Contracts of package window: appending.
-/
import Derived.Test.YtmmgfbnfjcbcfaaWinB
import Derived.Deep.AppendLies
import Derived.Deep.RegionLaw
namespace Go.Proofs.Ytmmgfbnfjcbcfaa.Win
open Go.RowKit
set_option linter.unusedVariables false
set_option linter.unusedSimpArgs false

theorem info_u8 : (Try.prog.info? 5).map (fun i => (i.zero, i.size, i.bytes)) = some (some (.int .u8 0), 1, 1) := by kernel_rfl
section
variable {w w' : World} {base B sz tk fr : Nat} {tx row : List UInt8} {cl : Bool} {v : Value}
theorem WC.grown {r : Option Nat} (h : WC w B sz v fr tk cl) (hg : w.grownBy w' r) (hne : r ≠ some B) : WC w' B sz v fr tk cl :=
  World.rowIs.of_block h (hg.block B h.lt (fun e => hne e.symm))
theorem own_ne {v' : Value} (h : WC w B sz v fr tk cl) (hb : Buf w base v' row) : v'.ownBlock ≠ some B := by
  obtain ⟨c, hc, _⟩ := h
  rcases hb.2 with ⟨rfl, _⟩ | ⟨g, cap, cur, rfl, _, hg, _⟩
  · simp [Value.ownBlock]
  · intro e
    have e' : g = B := by simpa [Value.ownBlock] using e
    subst e'
    rw [hc] at hg
    injection hg with hg
    injection hg with _ h2 _
    exact absurd h2 (by decide)
theorem bytes_app (a b : List UInt8) : (a.map fun c => Value.int .u8 (c.toNat : Int)) ++ (b.map fun c => Value.int .u8 (c.toNat : Int)) = (a ++ b).map fun c => Value.int .u8 (c.toNat : Int) := (List.map_append ..).symm
theorem own_form {n : Nat} {xs : List Value} (h : w.ownsRow base 5 1 v n xs) : ∃ a cap, v = .slice a n cap := by
  rcases h.2 with ⟨rfl, rfl⟩ | ⟨g, cap, cur, rfl, _⟩
  · exact ⟨_, _, rfl⟩
  · exact ⟨_, _, rfl⟩
theorem buf_app {a b : List UInt8} {n : Nat} (hn : n = (a ++ b).length) (h : w.ownsRow base 5 1 v n ((a.map fun c => Value.int .u8 (c.toNat : Int)) ++ (b.map fun c => Value.int .u8 (c.toNat : Int)))) : Buf w base v (a ++ b) := by
  unfold Buf; rw [bytes_app] at h; rwa [← hn]
end
set_option maxRecDepth 100000 in
set_option maxHeartbeats 2000000 in
theorem win_feed_a {w : World} {base B sz : Nat} {tx : List UInt8} {tk : Nat} {v : Value} {row : List UInt8} {fr : Nat} (W0 : Win w base B sz tx tk false v row fr) (s : ByteArray) (hs : s.size ≤ sz - tx.length) (hf : fr ≤ tx.length) (hbs : base ≤ w.heap.size) : Calls Try.prog 10 #[.pointer (some ⟨B, 0, none⟩), .string s] w fun e w' => e = .returned (.int .i64 0) ∧ Wn w' base B sz (tx ++ s.data.toList) tk false ∧ Below base w w' := by
  obtain ⟨i0, hi, hz0, hz1, hz2⟩ := info_parts info_u8
  have HI := Lib.hid hi
  have HZ0 := Lib.hid hz0
  have HZ1 := Lib.hid hz1
  have HZ2 := Lib.hid hz2
  clear hi hz0 hz1 hz2
  have hz := W0.len
  have hr := W0.hrow
  have hfr := W0.hfr
  have hBb := W0.hB
  have hsz := W0.hsz
  have htx := W0.htx
  have HF := Lib.hid (fun w' (h : Win w' base B sz tx tk false v row fr) => win_free h)
  have HL := Lib.hid (fun w' (h : Win w' base B sz tx tk false v row fr) => win_len h)
  have c4 := W0.wc.c4
  have h63 : row.length + s.size ≤ maxLen := by unfold maxLen; omega
  have HZ := Lib.hid hz
  have hfi : ¬ (tx.length : Int) < (fr : Int) := by omega
  clear hz
  go_enter Try.func10, Try.ntmps10
  go_wp2_with (go_at_call 23; (with_reducible refine (HF.out _ W0).mono ?_); rintro e w1 ⟨rfl, hq1⟩; have W1 := W0.q hq1; have b1 := below_q (Below.refl base w) hq1; have hbs1 := Nat.le_trans hbs b1.size; clear hq1; have d2 := W1.wc.c2; have d1 := W1.wc.c1)
  go_quiet ((go_at_call 21; exact Calls.quiet_of (HL.out _ (W1.N _))))
  have W2 := W1.N nq
  have b2 := below_N b1 nq
  generalize w1.drewN nq = w2 at *
  have HW2 := Lib.hid W2
  have e1 := W2.wc.c1
  have g1 := W2.wc.fz 1
  have hbs2 : base ≤ w2.heap.size := Nat.le_trans hbs b2.size
  have hne := W2.hne
  go_wp2_with (at_builtin; go_loud (refine Lib.wpList_append_own_string _ rfl _ _ 52 9 rfl base 5 i0 Try.underlying52 Try.underlying9 HI.out HZ0.out HZ1.out HZ2.out v row.length (row.map fun c : UInt8 => Value.int .u8 (c.toNat : Int)) rfl HW2.out.buf s rfl h63 (by omega) hbs2 ?_; intro v' w3 hown3 hgrow _; have W3c := (HW2.out.wc.grown hgrow hne); have B3 := buf_app (by rw [List.length_append]; rfl) hown3; have N3 := own_ne W3c B3; obtain ⟨a3, cap3, rfl⟩ := own_form hown3; have b3 := b2.grown hgrow hbs2 (fun k hk => (HW2.out.buf.lt k hk).1); have k1 := W3c.fz 1; have k2 := W3c.c1; clear hown3 hgrow))
  go_ret
  have hz := HZ.out
  have hls : (row ++ s.data.toList).length = row.length + s.size := by rw [List.length_append]; rfl
  exact ⟨rfl, ⟨_, row ++ s.data.toList, fr, W3c.set1 _, B3.set N3 1 _, hBb, by omega, by rw [List.drop_append_of_le_length hfr, HW2.out.tx_], by omega, by omega, hsz, N3⟩, b3.setCell hBb _⟩
end Go.Proofs.Ytmmgfbnfjcbcfaa.Win
