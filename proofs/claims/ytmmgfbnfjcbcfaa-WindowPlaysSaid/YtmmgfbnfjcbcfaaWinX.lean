/-
  The parts of the law's walk: WindowPlays.
-/
import Derived.Test.YtmmgfbnfjcbcfaaWinV
namespace Go.Proofs.Ytmmgfbnfjcbcfaa.Win
open Go.RowKit
set_option linter.unusedVariables false
set_option linter.unusedSimpArgs false

/-- The four cells of an act. -/
def af (kd : Int) (s : ByteArray) (n b : Int) : Nat → Value
  | 0 => .int .i64 kd
  | 1 => .string s
  | 2 => .int .i64 n
  | _ => .int .i64 b
def AC (w : World) (A : Nat) (kd : Int) (s : ByteArray) (n b : Int) : Prop := w.rowIs A 34 4 (af kd s n b)
section
variable {w w' : World} {A : Nat} {kd n b : Int} {s : ByteArray}
theorem AC.cells (h : AC w A kd s n b) : w.cell? ⟨A, 0, none⟩ = some (.int .i64 kd) ∧ w.cell? ⟨A, 1, none⟩ = some (.string s) ∧ w.cell? ⟨A, 2, none⟩ = some (.int .i64 n) ∧ w.cell? ⟨A, 3, none⟩ = some (.int .i64 b) :=
  ⟨World.rowIs.cell h (by decide), World.rowIs.cell h (by decide), World.rowIs.cell h (by decide), World.rowIs.cell h (by decide)⟩
theorem AC.lt (h : AC w A kd s n b) : A < w.heap.size := World.rowIs.lt h
theorem AC.new (w : World) (kd : Int) (s : ByteArray) (n b : Int) : AC (w.alloc (.cells #[.int .i64 kd, .string s, .int .i64 n, .int .i64 b] 34)) w.heap.size kd s n b :=
  World.rowIs_alloc w _ 34 (af kd s n b) (fun i hi => by
    have hi' : i < 4 := hi
    rcases (show i = 0 ∨ i = 1 ∨ i = 2 ∨ i = 3 by omega) with rfl | rfl | rfl | rfl <;> rfl)
theorem row_ne {T T' : TypeId} {i j : Nat} {f g : Nat → Value} {S : Nat} (h : w.rowIs S T i f) (k : w.rowIs A T' j g) (hT : T ≠ T') : S ≠ A := by
  rintro rfl
  obtain ⟨c, hc, _⟩ := h
  obtain ⟨d, hd, _⟩ := k
  rw [hc] at hd
  injection hd with hd
  injection hd with _ h2 _
  exact hT h2
theorem row_own {T : TypeId} {i : Nat} {f : Nat → Value} {S base : Nat} {v : Value} {row : List UInt8} (h : w.rowIs S T i f) (hb : Buf w base v row) (hT : T ≠ 5) : some S ≠ v.ownBlock := by
  obtain ⟨c, hc, _⟩ := h
  rcases hb.2 with ⟨rfl, _⟩ | ⟨g, cap, cur, rfl, _, hg, _⟩
  · simp [Value.ownBlock]
  · intro e
    have e' : S = g := by simpa [Value.ownBlock] using e
    subst e'
    rw [hc] at hg
    injection hg with hg
    injection hg with _ h2 _
    exact hT h2
end
/-- What a round has at hand. -/
structure St (w wr : World) (base B S A sz tk tks : Nat) (t ts : ByteArray) (cl cls : Bool) (v : Value) (row : List UInt8) (fr : Nat) (kd : Int) (s : ByteArray) (n b : Int) : Prop where
  win : Win wr base B sz t.data.toList tk cl v row fr
  sc : SC wr S sz tks ts cls
  ac : AC wr A kd s n b
  bel : Below base w wr
  hbs : base ≤ w.heap.size
  hS : base ≤ S
section
variable {w wr w' : World} {base B S A sz tk tks : Nat} {t ts t' : ByteArray} {cl cls cl' : Bool} {v : Value} {row : List UInt8} {fr tk' : Nat} {kd n b : Int} {s : ByteArray}
theorem St.step (h : St w wr base B S A sz tk tks t ts cl cls v row fr kd s n b) (hX : ∃ v' row' fr', Win w' base B sz t'.data.toList tk' cl' v' row' fr' ∧ Fr B v.ownBlock wr w') : ∃ v' row' fr', St w w' base B S A sz tk' tks t' ts cl' cls v' row' fr' kd s n b := by
  obtain ⟨v', row', fr', W', F⟩ := hX
  refine ⟨v', row', fr', W', ?_, ?_, h.bel.trans (F.below h.win.hB h.win.buf (Nat.le_trans h.hbs h.bel.size)), h.hbs, h.hS⟩
  · exact World.rowIs.of_block h.sc (F.block S h.sc.lt (row_ne h.sc h.win.wc (by decide)) (row_own h.sc h.win.buf (by decide)))
  · exact World.rowIs.of_block h.ac (F.block A h.ac.lt (row_ne h.ac h.win.wc (by decide)) (row_own h.ac h.win.buf (by decide)))
theorem St.ref (h : St w wr base B S A sz tk tks t ts cl cls v row fr kd s n b) (hb : Below wr.heap.size wr w') : St w w' base B S A sz tk tks t ts cl cls v row fr kd s n b :=
  ⟨h.win.b hb, h.sc.below hb h.sc.lt, World.rowIs.of_block h.ac (hb.block A h.ac.lt), h.bel.trans (hb.mono (Nat.le_trans h.hbs h.bel.size)), h.hbs, h.hS⟩
theorem St.begin (W : Win wr base B sz t.data.toList tk cl v row fr) (X : SC wr S sz tk t cl) (bel : Below base w wr) (hbs : base ≤ w.heap.size) (hS : base ≤ S) (kd : Int) (s : ByteArray) (n b : Int) :
    St w (wr.alloc (.cells #[.int .i64 kd, .string s, .int .i64 n, .int .i64 b] 34)) base B S wr.heap.size sz tk tk t t cl cl v row fr kd s n b :=
  ⟨W.a _, World.rowIs.alloc X _, AC.new _ _ _ _ _, bel.alloc (Nat.le_trans hbs bel.size) _, hbs, hS⟩
theorem St.put (h : St w wr base B S A sz tk tks t ts cl cls v row fr kd s n b) (z : Int) (hz : z = (tk : Int)) : St w ((((wr.setCell ⟨S, 0, none⟩ (.int .i64 sz)).setCell ⟨S, 1, none⟩ (.int .i64 z)).setCell ⟨S, 2, none⟩ (.string t)).setCell ⟨S, 3, none⟩ (.bool cl)) base B S A sz tk tk t t cl cl v row fr kd s n b := by
  subst hz
  have hSB := row_ne h.sc h.win.wc (by decide)
  have hSA := row_ne h.sc h.ac (by decide)
  have hSo := row_own h.sc h.win.buf (by decide)
  have blk : ∀ k, k ≠ S → ((((wr.setCell ⟨S, 0, none⟩ (.int .i64 sz)).setCell ⟨S, 1, none⟩ (.int .i64 tk)).setCell ⟨S, 2, none⟩ (.string t)).setCell ⟨S, 3, none⟩ (.bool cl)).heap[k]? = wr.heap[k]? := fun k hk => by
    rw [Below.heap_setCell _ _ _ _ hk, Below.heap_setCell _ _ _ _ hk, Below.heap_setCell _ _ _ _ hk, Below.heap_setCell _ _ _ _ hk]
  refine ⟨⟨World.rowIs.of_block h.win.wc (blk _ hSB.symm), (((h.win.buf.set hSo.symm 0 _).set hSo.symm 1 _).set hSo.symm 2 _).set hSo.symm 3 _, h.win.hB, h.win.hfr, h.win.tx_, h.win.hrow, h.win.htx, h.win.hsz, h.win.hne⟩, ?_, World.rowIs.of_block h.ac (blk _ hSA.symm), (((h.bel.setCell h.hS _).setCell h.hS _).setCell h.hS _).setCell h.hS _, h.hbs, h.hS⟩
  exact ((((World.rowIs.set h.sc 0 _).set 1 _).set 2 _).set 3 _).congr fun i hi => by
    rcases (show i = 0 ∨ i = 1 ∨ i = 2 ∨ i = 3 by omega) with rfl | rfl | rfl | rfl <;> rfl
end
theorem ba_take (t : ByteArray) (j : Nat) : (⟨(t.data.toList.take j).toArray⟩ : ByteArray) = t.extract 0 j := by
  apply ba_ext; rw [Lib.extract_data]; simp
theorem ba_drop (t : ByteArray) (j : Nat) : t.data.toList.drop j = (t.extract j t.size).data.toList := by
  rw [Lib.extract_data, List.take_of_length_le]; simp
theorem list_app (t s : ByteArray) : t.data.toList ++ s.data.toList = (t ++ s).data.toList := (Joins.data_append ..).symm
theorem vfeed {w : World} {base B sz : Nat} {tx : List UInt8} {tk : Nat} {v : Value} {row : List UInt8} {fr : Nat} (W : Win w base B sz tx tk false v row fr) (s : ByteArray) (hs : s.size ≤ sz - tx.length) (hbs : base ≤ w.heap.size) : Calls Try.prog 10 #[.pointer (some ⟨B, 0, none⟩), .string s] w fun e w' => e = .returned (.int .i64 0) ∧ (∃ v' row' fr', Win w' base B sz (tx ++ s.data.toList) tk false v' row' fr' ∧ Fr B v.ownBlock w w') := by
  rcases Nat.lt_or_ge tx.length fr with h | h
  · exact vfeed_b W s hs h hbs
  · exact vfeed_a W s hs h hbs
theorem Win.wn {w : World} {base B sz tk fr : Nat} {tx row : List UInt8} {cl : Bool} {v : Value} (W : Win w base B sz tx tk cl v row fr) : Wn w base B sz tx tk cl := ⟨_, _, _, W⟩
theorem agrees_z {w : World} {base B sz tk fr : Nat} {t : ByteArray} {row : List UInt8} {cl : Bool} {v : Value} (W0 : Win w base B sz t.data.toList tk cl v row fr) (z : Int) (hz : z = (tk : Int)) : Calls Try.prog 20 #[.pointer (some ⟨B, 0, none⟩), .agg #[.int .i64 sz, .int .i64 z, .string t, .bool cl]] w fun e w' => e = .returned (.bool true) ∧ Below w.heap.size w w' := by
  subst hz; exact agrees_t W0
/-- What At returns. -/
def ares (l : List UInt8) (n : Int) : Int × Bool := if 0 ≤ n ∧ n < l.length then ((l.getD n.toNat 0).toNat, true) else (0, false)
theorem vat_any {w : World} {base B sz : Nat} {tx : List UInt8} {tk : Nat} {cl : Bool} {v : Value} {row : List UInt8} {fr : Nat} (W0 : Win w base B sz tx tk cl v row fr) (n : Int) (hb : -9223372036854775808 ≤ n ∧ n ≤ 9223372036854775807) : Calls Try.prog 16 #[.pointer (some ⟨B, 0, none⟩), .int .i64 n] w fun e w' => e = .returned (.tuple #[.int .i64 (ares tx n).1, .bool (ares tx n).2]) ∧ ∃ m, w' = w.drewN m := by
  by_cases h : 0 ≤ n ∧ n < tx.length
  · obtain ⟨m, rfl⟩ := Int.eq_ofNat_of_zero_le h.1
    rw [show ares tx m = (((tx.getD m 0).toNat : Int), true) by unfold ares; rw [if_pos h, Int.toNat_natCast]]
    exact win_at W0 m (by omega)
  · rw [show ares tx n = (0, false) by unfold ares; rw [if_neg h]]
    exact vat_out W0 n (by omega) hb
theorem rat_any (sz off : Nat) (n : Int) (t : ByteArray) (cl : Bool) (w : World) (hs : t.size ≤ 65536) : Calls Try.prog 17 #[.agg #[.int .i64 sz, .int .i64 off, .string t, .bool cl], .int .i64 n] w fun e w' => e = .returned (.tuple #[.int .i64 (ares t.data.toList n).1, .bool (ares t.data.toList n).2]) ∧ Below w.heap.size w w' := by
  have hl : t.data.toList.length = t.size := rfl
  by_cases h : 0 ≤ n ∧ n < t.data.toList.length
  · obtain ⟨m, rfl⟩ := Int.eq_ofNat_of_zero_le h.1
    have hm : m < t.size := by omega
    rw [show ares t.data.toList m = (((t[m]'hm).toNat : Int), true) by
      unfold ares; rw [if_pos h, Int.toNat_natCast, List.getD_eq_getElem?_getD, List.getElem?_eq_getElem hm]; rfl]
    exact rat_in sz off m t cl w hm hs
  · rw [show ares t.data.toList n = (0, false) by unfold ares; rw [if_neg h]]
    exact rat_out sz off n t cl w (by omega) hs
theorem vfind_any {w : World} {base B sz : Nat} {tx : List UInt8} {tk : Nat} {cl : Bool} {v : Value} {row : List UInt8} {fr : Nat} (W0 : Win w base B sz tx tk cl v row fr) (b f : Int) (hb : -9223372036854775808 ≤ b ∧ b ≤ 9223372036854775807) (hf : -9223372036854775808 ≤ f ∧ f ≤ 9223372036854775807) : Calls Try.prog 18 #[.pointer (some ⟨B, 0, none⟩), .int .i64 b, .int .i64 f] w fun e w' => e = .returned (.tuple #[.int .i64 (fres tx b f).1, .bool (fres tx b f).2]) ∧ ∃ m, w' = w.drewN m := by
  by_cases h : f < 0 ∨ (tx.length : Int) ≤ f ∨ b < 0 ∨ 255 < b
  · rw [fres_out h]; exact vfind_out W0 b f h hb hf
  · obtain ⟨m, rfl⟩ := Int.eq_ofNat_of_zero_le (show 0 ≤ b by omega)
    obtain ⟨k, rfl⟩ := Int.eq_ofNat_of_zero_le (show 0 ≤ f by omega)
    exact vfind_in W0 m k (by omega) (by omega)
theorem rtake_ok (sz off k : Nat) (t : ByteArray) (cl : Bool) (w : World) (h : k ≤ t.size) (hs : t.size ≤ 65536) (ho : off ≤ 4611686018427387904) : Calls Try.prog 13 #[.agg #[.int .i64 sz, .int .i64 off, .string t, .bool cl], .int .i64 k] w fun e w' => e = .returned (.tuple #[.agg #[.int .i64 sz, .int .i64 ((off : Int) + (k : Int)), .string (t.extract k t.size), .bool cl], .string (t.extract 0 k), .int .i64 0]) ∧ Below w.heap.size w w' := by
  cases cl
  · exact rtake_ok_false sz off k t w h hs ho
  · exact rtake_ok_true sz off k t w h hs ho
theorem rtake_bad (sz off : Nat) (n : Int) (t : ByteArray) (cl : Bool) (w : World) (h : n < 0 ∨ (t.size : Int) < n) (hs : t.size ≤ 65536) : Calls Try.prog 13 #[.agg #[.int .i64 sz, .int .i64 off, .string t, .bool cl], .int .i64 n] w fun e w' => e = .returned (.tuple #[.agg #[.int .i64 sz, .int .i64 off, .string t, .bool cl], .string ⟨#[]⟩, .int .i64 2]) ∧ Below w.heap.size w w' := by
  cases cl
  · exact rtake_bad_false sz off n t w h hs
  · exact rtake_bad_true sz off n t w h hs
end Go.Proofs.Ytmmgfbnfjcbcfaa.Win
