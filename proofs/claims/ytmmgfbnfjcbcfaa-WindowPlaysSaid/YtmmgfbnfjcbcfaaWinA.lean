/-
  Contracts of package window: what only reads.
-/
import Derived.Test.YtmmgfbnfjcbcfaaBase
import Derived.Deep.OwnRows
import Derived.Laws.BytesArg
import Derived.Lib.AppendStr
import Derived.OwnWalk
namespace Go.Proofs.Ytmmgfbnfjcbcfaa.Win
open Go.RowKit
set_option linter.unusedVariables false
set_option linter.unusedSimpArgs false

theorem ret_pair {k : IntKind} {a b : Int} {x y : Bool} (h : a = b) (g : x = y) : Ending.returned (.tuple #[.int k a, .bool x]) = .returned (.tuple #[.int k b, .bool y]) := by rw [h, g]
theorem drewN_drew (w : World) : ∃ m, w = w.drewN m := ⟨0, rfl⟩
theorem below_N {B : Nat} {a w : World} (h : Below B a w) (n : Nat) : Below B a (w.drewN n) := h.trans ⟨rfl, rfl, rfl, Nat.le_refl _, fun _ _ => rfl⟩
/-- The five cells of a window. -/
def wf (sz : Nat) (v : Value) (fr tk : Nat) (cl : Bool) : Nat → Value
  | 0 => .int .i64 (sz : Nat)
  | 1 => v
  | 2 => .int .i64 (fr : Nat)
  | 3 => .int .i64 (tk : Nat)
  | _ => .bool cl
def WC (w : World) (B sz : Nat) (v : Value) (fr tk : Nat) (cl : Bool) : Prop := w.rowIs B 54 5 (wf sz v fr tk cl)
section
variable {w w' : World} {B sz fr tk : Nat} {v : Value} {cl : Bool}
theorem WC.c0 (h : WC w B sz v fr tk cl) : w.cell? ⟨B, 0, none⟩ = some (.int .i64 (sz : Nat)) := World.rowIs.cell h (by decide)
theorem WC.c1 (h : WC w B sz v fr tk cl) : w.cell? ⟨B, 1, none⟩ = some v := World.rowIs.cell h (by decide)
theorem WC.c2 (h : WC w B sz v fr tk cl) : w.cell? ⟨B, 2, none⟩ = some (.int .i64 (fr : Nat)) := World.rowIs.cell h (by decide)
theorem WC.c3 (h : WC w B sz v fr tk cl) : w.cell? ⟨B, 3, none⟩ = some (.int .i64 (tk : Nat)) := World.rowIs.cell h (by decide)
theorem WC.c4 (h : WC w B sz v fr tk cl) : w.cell? ⟨B, 4, none⟩ = some (.bool cl) := World.rowIs.cell h (by decide)
theorem WC.fz (h : WC w B sz v fr tk cl) (i : Nat) : w.frozen? ⟨B, i, none⟩ = false := World.rowIs.frozen h i
theorem WC.drewN (h : WC w B sz v fr tk cl) (n : Nat) : WC (w.drewN n) B sz v fr tk cl := h
theorem WC.lt (h : WC w B sz v fr tk cl) : B < w.heap.size := World.rowIs.lt h
end
set_option maxHeartbeats 1000000 in
theorem len_q {w : World} {B sz fr tk n cap : Nat} {a : Option Addr} {cl : Bool} (h : WC w B sz (.slice a n cap) fr tk cl) (h1 : fr ≤ n) (h2 : n ≤ 1099511627776) : Calls Try.prog 21 #[.pointer (some ⟨B, 0, none⟩)] w fun e w' => e = .returned (.int .i64 (n - fr : Nat)) ∧ ∃ m, w' = w.drewN m := by
  have c1 := h.c1
  have c2 := h.c2
  go_enter Try.func21, Try.ntmps21
  go_wp2
  go_quiet (fail)
  go_wp2
  go_ret
  exact ⟨ret_int (by omega), _, rfl⟩
theorem len_nil (w : World) : Calls Try.prog 21 #[.pointer none] w fun e w' => e = .returned (.int .i64 0) ∧ w' = w := by
  go_enter Try.func21, Try.ntmps21
  go_wp2
  go_ret
  exact ⟨rfl, rfl⟩
theorem offset_q {w : World} {B sz fr tk : Nat} {v : Value} {cl : Bool} (h : WC w B sz v fr tk cl) : Calls Try.prog 22 #[.pointer (some ⟨B, 0, none⟩)] w fun e w' => e = .returned (.int .i64 tk) ∧ w' = w := by
  have c3 := h.c3
  go_enter Try.func22, Try.ntmps22
  go_wp2
  go_ret
  exact ⟨rfl, rfl⟩
theorem offset_nil (w : World) : Calls Try.prog 22 #[.pointer none] w fun e w' => e = .returned (.int .i64 0) ∧ w' = w := by
  go_enter Try.func22, Try.ntmps22
  go_wp2
  go_ret
  exact ⟨rfl, rfl⟩
theorem closed_q {w : World} {B sz fr tk : Nat} {v : Value} {cl : Bool} (h : WC w B sz v fr tk cl) : Calls Try.prog 24 #[.pointer (some ⟨B, 0, none⟩)] w fun e w' => e = .returned (.bool cl) ∧ w' = w := by
  have c4 := h.c4
  go_enter Try.func24, Try.ntmps24
  go_wp2
  go_ret
  exact ⟨rfl, rfl⟩
theorem closed_nil (w : World) : Calls Try.prog 24 #[.pointer none] w fun e w' => e = .returned (.bool false) ∧ w' = w := by
  go_enter Try.func24, Try.ntmps24
  go_wp2
  go_ret
  exact ⟨rfl, rfl⟩
set_option maxHeartbeats 1000000 in
theorem free_q {w : World} {B sz fr tk n cap : Nat} {a : Option Addr} {cl : Bool} (h : WC w B sz (.slice a n cap) fr tk cl) (h1 : fr ≤ n) (h2 : n ≤ 1099511627776) (h3 : n - fr ≤ sz) (h4 : sz ≤ 65536) : Calls Try.prog 23 #[.pointer (some ⟨B, 0, none⟩)] w fun e w' => e = .returned (.int .i64 (sz - (n - fr) : Nat)) ∧ ∃ m, w' = w.drewN m := by
  have c0 := h.c0
  go_enter Try.func23, Try.ntmps23
  go_wp2
  go_quiet ((go_at_call 21; exact Calls.quiet_of (len_q (h.drewN _) h1 h2)))
  go_wp2
  go_ret
  exact ⟨ret_int (by omega), _, rfl⟩
theorem free_nil (w : World) : Calls Try.prog 23 #[.pointer none] w fun e w' => e = .returned (.int .i64 0) ∧ w' = w := by
  go_enter Try.func23, Try.ntmps23
  go_wp2
  go_ret
  exact ⟨rfl, rfl⟩
theorem close_nil (w : World) : Calls Try.prog 14 #[.pointer none] w fun e w' => e = .returned (.int .i64 29) ∧ w' = w := by
  go_enter Try.func14, Try.ntmps14
  go_wp2
  go_ret
  exact ⟨rfl, rfl⟩
theorem feed_nil (s : ByteArray) (w : World) : Calls Try.prog 10 #[.pointer none, .string s] w fun e w' => e = .returned (.int .i64 29) ∧ w' = w := by
  go_enter Try.func10, Try.ntmps10
  go_wp2
  go_ret
  exact ⟨rfl, rfl⟩
theorem take_nil (n : Int) (w : World) : Calls Try.prog 12 #[.pointer none, .int .i64 n] w fun e w' => e = .returned (.tuple #[.string ⟨#[]⟩, .int .i64 29]) ∧ w' = w := by
  go_enter Try.func12, Try.ntmps12
  go_wp2
  go_ret2
  exact ⟨rfl, rfl⟩
theorem at_nil (n : Int) (w : World) (hn : -9223372036854775808 ≤ n ∧ n ≤ 9223372036854775807) : Calls Try.prog 16 #[.pointer none, .int .i64 n] w fun e w' => e = .returned (.tuple #[.int .i64 0, .bool false]) ∧ w' = w := by
  by_cases h : n < 0
  all_goals
    go_enter Try.func16, Try.ntmps16
    go_wp2_with (go_at_call 21; (with_reducible refine (len_nil _).mono ?_); rintro e w1 ⟨rfl, rfl⟩)
    go_ret2
    exact ⟨rfl, rfl⟩
theorem find_nil (b n : Int) (w : World) (hb : -9223372036854775808 ≤ b ∧ b ≤ 9223372036854775807) (hn : -9223372036854775808 ≤ n ∧ n ≤ 9223372036854775807) : Calls Try.prog 18 #[.pointer none, .int .i64 b, .int .i64 n] w fun e w' => e = .returned (.tuple #[.int .i64 0, .bool false]) ∧ w' = w := by
  have hw : b < 0 ∨ (0 ≤ b ∧ 255 < b) ∨ (0 ≤ b ∧ b ≤ 255 ∧ n < 0) ∨ (0 ≤ b ∧ b ≤ 255 ∧ 0 ≤ n) := by omega
  rcases hw with h | ⟨h, h1⟩ | ⟨h, h1, h2⟩ | ⟨h, h1, h2⟩
  all_goals
    go_enter Try.func18, Try.ntmps18
    go_wp2_with (go_at_call 21; (with_reducible refine (len_nil _).mono ?_); rintro e w1 ⟨rfl, rfl⟩)
    go_ret2
    exact ⟨rfl, rfl⟩
theorem new_any (sz : Nat) (w : World) (h : 1 ≤ sz) (h1 : sz ≤ 65536) : Calls Try.prog 8 #[.int .i64 sz] w fun e w' => e = .returned (.tuple #[.pointer (some ⟨w.heap.size, 0, none⟩), .int .i64 0]) ∧ WC w' w.heap.size sz (.slice none 0 0) 0 0 false ∧ Below w.heap.size w w' := by
  go_enter Try.func8, Try.ntmps8
  go_wp2
  go_ret2
  refine ⟨rfl, World.rowIs_alloc w _ 54 (wf sz (.slice none 0 0) 0 0 false) (fun i hi => ?_), (Below.refl _ _).alloc (Nat.le_refl _) _⟩
  have hi' : i < 5 := hi
  rcases (show i = 0 ∨ i = 1 ∨ i = 2 ∨ i = 3 ∨ i = 4 by omega) with rfl | rfl | rfl | rfl | rfl <;> rfl
set_option maxHeartbeats 1000000 in
theorem held_some {w : World} {B sz fr tk n cap g : Nat} {cl : Bool} (h : WC w B sz (.slice (some ⟨g, 0, none⟩) n cap) fr tk cl) (h1 : fr < n) (h2 : n ≤ 1099511627776) (h3 : n ≤ cap) : Calls Try.prog 25 #[.pointer (some ⟨B, 0, none⟩)] w fun e w' => e = .returned (.slice (some ⟨g, fr, none⟩) (n - fr) (n - fr)) ∧ ∃ m, w' = w.drewN m := by
  have c1 := h.c1
  have c2 := h.c2
  have hne : ¬ n = fr := by omega
  go_enter Try.func25, Try.ntmps25
  go_wp2
  go_quiet (fail)
  go_wp2
  go_ret
  exact ⟨rfl, _, rfl⟩
theorem held_end {w : World} {B sz n tk cap g : Nat} {cl : Bool} (h : WC w B sz (.slice (some ⟨g, 0, none⟩) n cap) n tk cl) (h2 : n ≤ 1099511627776) (h3 : n ≤ cap) : Calls Try.prog 25 #[.pointer (some ⟨B, 0, none⟩)] w fun e w' => e = .returned (.slice (some ⟨g, 0, none⟩) 0 0) ∧ ∃ m, w' = w.drewN m := by
  have c1 := h.c1
  have c2 := h.c2
  go_enter Try.func25, Try.ntmps25
  go_wp2
  go_quiet (fail)
  go_wp2
  go_ret
  exact ⟨rfl, _, rfl⟩
theorem held_none {w : World} {B sz tk : Nat} {cl : Bool} (h : WC w B sz (.slice none 0 0) 0 tk cl) : Calls Try.prog 25 #[.pointer (some ⟨B, 0, none⟩)] w fun e w' => e = .returned (.slice none 0 0) ∧ ∃ m, w' = w.drewN m := by
  have c1 := h.c1
  have c2 := h.c2
  go_enter Try.func25, Try.ntmps25
  go_wp2
  go_quiet (fail)
  go_wp2
  go_ret
  exact ⟨rfl, _, rfl⟩
theorem strOfNums_bytes (l : List UInt8) : strOfNums (l.map fun c => (c.toNat : Int)) = ⟨l.toArray⟩ := by
  have e : (fun n : Int => UInt8.ofNat n.toNat) ∘ (fun c : UInt8 => (c.toNat : Int)) = id := by
    funext c
    show UInt8.ofNat ((c.toNat : Int).toNat) = c
    rw [Int.toNat_natCast]
    exact UInt8.ofNat_toNat
  unfold strOfNums
  rw [List.map_map, e, List.map_id]
theorem conv_is {w : World} {g o k c : Nat} {l : List UInt8} (hl : l.length = k) (hc : ∀ i, i < k → w.cell? ⟨g, o + i, none⟩ = some (.int .u8 ((l.getD i 0).toNat : Int))) : ∀ dst, Try.prog.underlying dst = some .string → (convert 52 dst (.slice (some ⟨g, o, none⟩) k c)).run Try.prog w = .ok (.string ⟨l.toArray⟩) w := by
  intro dst hd
  have := run_convert_bytes_arg (P := Try.prog) w 52 5 Try.underlying52 Try.underlying5 g o k c (l.map fun c => (c.toNat : Int)) (by simpa using hl) (fun i hi => by
    rw [hc i hi]
    simp [List.getD_eq_getElem?_getD, hl, hi, List.getElem?_eq_getElem (show i < l.length by omega)]) dst hd
  rw [this, strOfNums_bytes]
/-- A buffer: its row lies above base; what it holds. -/
def Buf (w : World) (base : Nat) (v : Value) (row : List UInt8) : Prop := w.ownsRow base 5 1 v row.length (row.map fun c => Value.int .u8 c.toNat)
theorem Buf.form {w : World} {base : Nat} {v : Value} {row : List UInt8} (h : Buf w base v row) : (v = .slice none 0 0 ∧ row = []) ∨ ∃ g cap, v = .slice (some ⟨g, 0, none⟩) row.length cap ∧ row.length ≤ cap ∧ base ≤ g ∧ ∀ i, i < row.length → w.cell? ⟨g, i, none⟩ = some (.int .u8 ((row.getD i 0).toNat : Int)) := by
  rcases h.2 with ⟨rfl, h0⟩ | ⟨g, cap, _, rfl, hb, _, hc, _⟩
  · exact .inl ⟨rfl, List.length_eq_zero_iff.1 h0⟩
  · refine .inr ⟨g, cap, rfl, hc, hb, fun i hi => ?_⟩
    rw [World.ownsRow.cellAt h i (by omega), List.getElem?_map, List.getElem?_eq_getElem hi, List.getD_eq_getElem?_getD, List.getElem?_eq_getElem hi]
    rfl
/-- A window, somewhere above base. -/
structure Win (w : World) (base B sz : Nat) (tx : List UInt8) (tk : Nat) (cl : Bool) (v : Value) (row : List UInt8) (fr : Nat) : Prop where
  wc : WC w B sz v fr tk cl
  buf : Buf w base v row
  hB : base ≤ B
  hfr : fr ≤ row.length
  tx_ : row.drop fr = tx
  hrow : row.length ≤ 131072
  htx : row.length - fr ≤ sz
  hsz : sz ≤ 65536
  hne : v.ownBlock ≠ some B
theorem Win.N {w : World} {base B sz : Nat} {tx : List UInt8} {tk : Nat} {cl : Bool} {v : Value} {row : List UInt8} {fr : Nat} (h : Win w base B sz tx tk cl v row fr) (n : Nat) : Win (w.drewN n) base B sz tx tk cl v row fr :=
  ⟨h.wc, h.buf, h.hB, h.hfr, h.tx_, h.hrow, h.htx, h.hsz, h.hne⟩
theorem Win.len {w : World} {base B sz : Nat} {tx : List UInt8} {tk : Nat} {cl : Bool} {v : Value} {row : List UInt8} {fr : Nat} (h : Win w base B sz tx tk cl v row fr) : row.length - fr = tx.length := by rw [← h.tx_, List.length_drop]
theorem win_len {w : World} {base B sz : Nat} {tx : List UInt8} {tk : Nat} {cl : Bool} {v : Value} {row : List UInt8} {fr : Nat} (h : Win w base B sz tx tk cl v row fr) : Calls Try.prog 21 #[.pointer (some ⟨B, 0, none⟩)] w fun e w' => e = .returned (.int .i64 tx.length) ∧ ∃ m, w' = w.drewN m := by
  rw [← h.len]
  have := h.hrow
  rcases h.buf.form with ⟨rfl, rfl⟩ | ⟨g, cap, rfl, hc, _, _⟩
  · exact len_q h.wc h.hfr (by decide)
  · exact len_q h.wc h.hfr (by omega)
theorem win_free {w : World} {base B sz : Nat} {tx : List UInt8} {tk : Nat} {cl : Bool} {v : Value} {row : List UInt8} {fr : Nat} (h : Win w base B sz tx tk cl v row fr) : Calls Try.prog 23 #[.pointer (some ⟨B, 0, none⟩)] w fun e w' => e = .returned (.int .i64 (sz - tx.length : Nat)) ∧ ∃ m, w' = w.drewN m := by
  rw [← h.len]
  have := h.hrow
  rcases h.buf.form with ⟨rfl, rfl⟩ | ⟨g, cap, rfl, hc, _, _⟩
  · exact free_q h.wc h.hfr (by decide) h.htx h.hsz
  · exact free_q h.wc h.hfr (by omega) h.htx h.hsz
set_option maxHeartbeats 1000000 in
theorem win_at {w : World} {base B sz : Nat} {tx : List UInt8} {tk : Nat} {cl : Bool} {v : Value} {row : List UInt8} {fr : Nat} (h : Win w base B sz tx tk cl v row fr) (i : Nat) (hi : i < tx.length) : Calls Try.prog 16 #[.pointer (some ⟨B, 0, none⟩), .int .i64 i] w fun e w' => e = .returned (.tuple #[.int .i64 ((tx.getD i 0).toNat : Nat), .bool true]) ∧ ∃ m, w' = w.drewN m := by
  have hL := Lib.hid (fun m => win_len (h.N m))
  have hz := h.len
  have hr := h.hrow
  rcases h.buf.form with ⟨rfl, rfl⟩ | ⟨g, cap, rfl, hc, _, hcell⟩
  · simp at hz; omega
  have hH := Lib.hid (fun m => held_some (h.wc.drewN m) (by omega) (by omega) hc)
  have c := hcell (fr + i) (by omega)
  have e : row.getD (fr + i) 0 = tx.getD i 0 := by rw [← h.tx_]; simp [List.getD_eq_getElem?_getD]
  rw [e] at c
  have hx := UInt8.toNat_lt (tx.getD i 0)
  generalize (tx.getD i 0).toNat = x at *
  have hi2 : i < row.length - fr := by omega
  clear e hcell
  have HL0 : Hid (∀ w', (∃ m, w' = w.drewN m) → Calls Try.prog 21 #[.pointer (some ⟨B, 0, none⟩)] w' fun e w' => e = .returned (.int .i64 tx.length) ∧ ∃ m, w' = w.drewN m) := Lib.hid (by rintro _ ⟨m, rfl⟩; exact (hL.out m).mono fun _ _ ⟨he, k, hk⟩ => ⟨he, m + k, by rw [hk, World.drewN_drewN]⟩)
  go_enter Try.func16, Try.ntmps16
  go_wp2_with (first | (go_at_call 21; (with_reducible refine (HL0.out w ⟨0, rfl⟩).mono ?_); rintro e w1 ⟨rfl, m1, rfl⟩) | (go_at_call 25; (with_reducible refine (hH.out m1).mono ?_); rintro e w2 ⟨rfl, m2, rfl⟩))
  go_ret2
  exact ⟨rfl, m1 + m2, rfl⟩
end Go.Proofs.Ytmmgfbnfjcbcfaa.Win
