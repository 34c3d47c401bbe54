/-
  A window against a state: agrees.
-/
import Derived.Test.YtmmgfbnfjcbcfaaWinS
namespace Go.Proofs.Ytmmgfbnfjcbcfaa.Win
open Go.RowKit
set_option linter.unusedVariables false
set_option linter.unusedSimpArgs false

section
variable {w w' : World} {base B sz tk fr : Nat} {tx row : List UInt8} {cl : Bool} {v : Value}
theorem Win.a (h : Win w base B sz tx tk cl v row fr) (o : Obj) : Win (w.alloc o) base B sz tx tk cl v row fr :=
  ⟨World.rowIs.alloc h.wc o, World.ownsRow.alloc h.buf o, h.hB, h.hfr, h.tx_, h.hrow, h.htx, h.hsz, h.hne⟩
theorem Win.b (h : Win w base B sz tx tk cl v row fr) (hb : Below w.heap.size w w') : Win w' base B sz tx tk cl v row fr :=
  ⟨World.rowIs.of_block h.wc (hb.block _ h.wc.lt), World.ownsRow.kept (row := none) h.buf ⟨hb.os, hb.tape, hb.output, hb.size, fun k hk _ => hb.block k hk⟩ (by cases v.ownBlock <;> simp), h.hB, h.hfr, h.tx_, h.hrow, h.htx, h.hsz, h.hne⟩
theorem SC.q {n off : Nat} {t : ByteArray} (h : SC w n sz off t cl) (hq : ∃ m, w' = w.drewN m) : SC w' n sz off t cl := by
  obtain ⟨m, rfl⟩ := hq; exact h
theorem SC.d {n off : Nat} {t : ByteArray} (h : SC w n sz off t cl) : SC w.drew n sz off t cl := h
end
set_option maxRecDepth 100000 in
set_option maxHeartbeats 4000000 in
theorem agrees_t {w : World} {base B sz tk fr : Nat} {t : ByteArray} {row : List UInt8} {cl : Bool} {v : Value} (W0 : Win w base B sz t.data.toList tk cl v row fr) : Calls Try.prog 20 #[.pointer (some ⟨B, 0, none⟩), .agg #[.int .i64 sz, .int .i64 tk, .string t, .bool cl]] w fun e w' => e = .returned (.bool true) ∧ Below w.heap.size w w' := by
  have hts : t.size ≤ sz := by have := W0.len; have := W0.htx; have : t.data.toList.length = t.size := rfl; omega
  have hsz := W0.hsz
  have X0 := SC.new w sz tk t cl
  have W1 := (W0.a (.cells #[.int .i64 (sz : Nat), .int .i64 (tk : Nat), .string t, .bool cl] 30))
  have HL := Lib.hid (fun w' (h : Win w' base B sz t.data.toList tk cl v row fr) => win_len h)
  have HF := Lib.hid (fun w' (h : Win w' base B sz t.data.toList tk cl v row fr) => win_free h)
  have HO := Lib.hid (fun w' (h : Win w' base B sz t.data.toList tk cl v row fr) => offset_q h.wc)
  have HC := Lib.hid (fun w' (h : Win w' base B sz t.data.toList tk cl v row fr) => closed_q h.wc)
  have hlen : t.data.toList.length = t.size := rfl
  rw [hlen] at HL HF
  have b1 : Below w.heap.size w (w.alloc (.cells #[.int .i64 (sz : Nat), .int .i64 (tk : Nat), .string t, .bool cl] 30)) := (Below.refl _ _).alloc (Nat.le_refl _) _
  go_enter Try.func20, Try.ntmps20
  go_wp2
  have W := W1.d
  have X := X0.d
  have b := b1.drew
  clear W0 W1 X0 b1
  obtain ⟨a0, a1, a2, a3⟩ := X.cells
  go_region_law (first | (go_simp; go_at_call 21; (with_reducible refine (HL.out _ W).mono ?_); rintro e wn ⟨rfl, hq⟩; have W' := W.q hq; have X' := X.q hq; have b' := below_q b hq; clear hq W X b; have W := W'; have X := X'; have b := b'; clear W' X' b'; obtain ⟨a0, a1, a2, a3⟩ := X.cells) | (go_simp; go_at_call 23; (with_reducible refine (HF.out _ W).mono ?_); rintro e wn ⟨rfl, hq⟩; have W' := W.q hq; have X' := X.q hq; have b' := below_q b hq; clear hq W X b; have W := W'; have X := X'; have b := b'; clear W' X' b'; obtain ⟨a0, a1, a2, a3⟩ := X.cells) | (go_simp; go_at_call 26; (with_reducible refine (rfree_any sz tk t cl _ hts hsz).mono ?_); rintro e wn ⟨rfl, hq⟩; have W' := W.b hq; have X' := X.below hq X.lt; have b' := b.trans (hq.mono b.size); clear hq W X b; have W := W'; have X := X'; have b := b'; clear W' X' b'; obtain ⟨a0, a1, a2, a3⟩ := X.cells) | (go_simp; go_at_call 22; (with_reducible refine (HO.out _ W).mono ?_); rintro e wn ⟨rfl, rfl⟩) | (go_simp; go_at_call 24; (with_reducible refine (HC.out _ W).mono ?_); rintro e wn ⟨rfl, rfl⟩))
  all_goals
    go_wp2
    go_ret
    exact ⟨rfl, b⟩
end Go.Proofs.Ytmmgfbnfjcbcfaa.Win
