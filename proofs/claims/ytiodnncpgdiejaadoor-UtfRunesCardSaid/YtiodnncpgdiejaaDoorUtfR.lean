/-
  Runes: the characters that it yields; its iterator, walked once for every loop body.
-/
import Derived.RangeFuncNested
import Derived.RangeFuncBound
import Derived.RangeFuncCalls
import Derived.RangeFuncLeaves
import Derived.RangeFuncBox
import Derived.RangeFuncFrom
import Derived.RangeFuncWrites
import Derived.Shelf.Abstract
import Derived.Shelf.RegionOpen
import Derived.WalkKit
import Derived.OwnWalkIn
import Derived.TacticsInMore
import Derived.LoopNIn
import Derived.LoopIn
import Derived.Maps.AppendAt
import Derived.Test.YtiodnncpgdiejaaDoorUtfH
namespace Go.Proofs.YtiodnncpgdiejaaDoor.Utf
open Go.RowKit Go.Shelf
attribute [local go_sem] Oper.semAt_some

/-- The characters up to the first byte that belongs to none. -/
def rn : Nat → List UInt8 → List Nat
  | 0, _ => []
  | f + 1, l => if (hd l).2 = 0 then [] else (hd l).1 :: rn f (l.drop (hd l).2)
theorem rn_stop {l : List UInt8} (h : (hd l).2 = 0) (f : Nat) : rn f l = [] := by
  cases f with
  | zero => rfl
  | succ f => unfold rn; rw [if_pos h]
theorem rn_fuel : ∀ (f g : Nat) (l : List UInt8), l.length ≤ f → l.length ≤ g → rn f l = rn g l := by
  intro f
  induction f with
  | zero =>
    intro g l hf hg
    have : l = [] := List.eq_nil_of_length_eq_zero (by omega)
    subst this
    rw [rn_stop rfl, rn_stop rfl]
  | succ f ih =>
    intro g l hf hg
    by_cases h : (hd l).2 = 0
    · rw [rn_stop h, rn_stop h]
    · cases g with
      | zero =>
        have : l = [] := List.eq_nil_of_length_eq_zero (by omega)
        subst this
        exact absurd rfl h
      | succ g =>
        unfold rn
        rw [if_neg h, if_neg h, ih g (l.drop (hd l).2) (by rw [List.length_drop]; omega) (by rw [List.length_drop]; omega)]
def rs (l : List UInt8) : List Nat := rn l.length l
theorem rs_stop {l : List UInt8} (h : (hd l).2 = 0) : rs l = [] := rn_stop h _
theorem rs_step {l : List UInt8} (h : (hd l).2 ≠ 0) : rs l = (hd l).1 :: rs (l.drop (hd l).2) := by
  cases l with
  | nil => exact absurd rfl h
  | cons a r =>
    unfold rs
    rw [List.length_cons, rn, if_neg h]
    congr 1
    exact rn_fuel _ _ _ (by rw [List.length_drop, List.length_cons]; omega) (Nat.le_refl _)
theorem rs_le (l : List UInt8) : (rs l).length ≤ l.length := by
  obtain ⟨n, hn⟩ : ∃ n, l.length = n := ⟨_, rfl⟩
  induction n using Nat.strongRecOn generalizing l with
  | ind n ih =>
    by_cases h : (hd l).2 = 0
    · rw [rs_stop h]; simp
    · have h2 := hd_le l
      rw [rs_step h, List.length_cons]
      have := ih (l.length - (hd l).2) (by omega) (l.drop (hd l).2) (by rw [List.length_drop])
      rw [List.length_drop] at this
      omega
/-- What a round keeps: what lay below, and the box of the string. -/
def K2 (n₀ Bn : Nat) (W W' : World) : Prop := Below n₀ W W' ∧ W'.heap[Bn]? = W.heap[Bn]?
theorem K2.trans {n₀ Bn : Nat} {A B C : World} (h : K2 n₀ Bn A B) (k : K2 n₀ Bn B C) : K2 n₀ Bn A C := ⟨h.1.trans k.1, k.2.trans h.2⟩
theorem K2.of {n₀ Bn : Nat} {A B : World} (h : Below A.heap.size A B) (h1 : n₀ ≤ A.heap.size) (h2 : Bn < A.heap.size) : K2 n₀ Bn A B := ⟨h.mono h1, h.block Bn h2⟩
theorem K2.put {n₀ Bn : Nat} {w : World} (hn : n₀ ≤ w.heap.size) (hB : Bn < w.heap.size) (W : World) (l : Nat) (o o' : Obj) (hl : w.heap.size ≤ l) (h : W.heap[l]? = some o) (h1 : o.isCells = false) (h2 : o.isWalk = false) : K2 n₀ Bn W (W.putObj l o') :=
  ⟨belowK_b hn W l o o' hl h h1 h2, World.putObj_heap_other (by omega)⟩
theorem grown_below {w w' : World} (hb : Below w.heap.size w w') : w.grownBy w' none := ⟨hb.os, hb.tape, hb.output, hb.size, fun k hk _ => hb.block k hk⟩
set_option maxRecDepth 100000 in
set_option maxHeartbeats 2000000 in
theorem runes1_in (n : Nat) (hn : 1 ≤ n) (l Bn n₀ : Nat) (s : ByteArray) (hs : s.size ≤ 4611686018427387904) (J Jx : List Nat → World → Prop)
    (hY : ∀ pre x W, J pre W → pre.length < (rs s.data.toList).length → YieldAt Fence.wide (n - 1) Tryd.prog l #[.int .i64 (x : Nat)] W fun e W' => (e = .returned (.bool true) ∧ J (pre ++ [x]) W' ∧ K2 n₀ Bn W W') ∨ (e = .returned (.bool false) ∧ Jx (pre ++ [x]) W'))
    (W0 W : World) (hJ : AbidesFrom W.heap.size J) (hW : K2 n₀ Bn W0 W) (hn₀ : n₀ ≤ W.heap.size) (hBn : Bn < W.heap.size) (hc : W0.cell? ⟨Bn, 0, none⟩ = some (.string s)) (hT : ∀ W', Below n₀ W0 W' → Tabs W') (h0 : J [] W) :
    CallsIn Fence.wide n Tryd.prog 32 #[.func (.yield l) #[] #[], .pointer (some ⟨Bn, 0, none⟩)] W fun e W' => (∃ v, e = .returned v) ∧ ((∃ ys, ys = rs s.data.toList ∧ J ys W') ∨ (∃ pre, pre <+: rs s.data.toList ∧ Jx pre W')) := by
  have hsz : s.data.toList.length = s.size := size_list s
  refine callsIn_of_wp Tryd.func32 rfl trivial ?_ rfl
  simp only [Tryd.ntmps32, List.size_toArray, List.length_cons, List.length_nil, Nat.reduceAdd, Nat.reduceSub, Array.replicate_succ, Array.replicate_zero, List.push_toArray, List.append_toArray, List.nil_append, List.cons_append]
  gi_wp2
  gi_loopw [3] (fun p wr => ∃ (pre : List Nat) (at_ : Nat), p = .int .i64 at_ ∧ at_ ≤ s.size ∧ rs s.data.toList = pre ++ rs (s.data.toList.drop at_) ∧ K2 n₀ Bn W0 wr ∧ W.heap.size ≤ wr.heap.size ∧ J pre wr) (fun p _ => s.size - (intOf p).toNat)
  case atStart => exact ⟨[], 0, rfl, by omega, rfl, hW, Nat.le_refl _, h0⟩
  case round =>
    obtain ⟨pre, at_, rfl, hat, hX, hB, hsz2, hJp⟩ := hrel
    have hcell : wr.cell? ⟨Bn, 0, none⟩ = some (.string s) := (show wr.cell? ⟨Bn, 0, none⟩ = W0.cell? ⟨Bn, 0, none⟩ from World.cell?_of_block (w := W0) hB.2).trans hc
    by_cases hlt : at_ < s.size
    · obtain ⟨r, k, hrk⟩ : ∃ r k, hd (s.data.toList.drop at_) = (r, k) := ⟨_, _, rfl⟩
      have HC : Hid (chAt s (at_ : Int) = (r, k)) := Lib.hid ((chAt_in hlt).trans hrk)
      have HD := Lib.hid (decode_is HC (hT wr hB.1) (by omega) (by omega))
      have hkl : k ≤ s.size - at_ := by have := hd_le (s.data.toList.drop at_); rw [hrk, List.length_drop, hsz] at this; exact this
      by_cases hk : k = 0
      · subst hk
        have hX2 : rs s.data.toList = pre := by rw [hX, rs_stop (by rw [hrk]), List.append_nil]
        clear hX hrk HC
        gi_wp2_with (refine ⟨trivial, ?_⟩; gi_at_call 13; (with_reducible refine (callsIn_wide.2 HD.out).mono ?_); rintro e w2 ⟨rfl, hD⟩; have hJ2 := hJ _ _ _ none hJp (grown_below hD) (fun _ e => by cases e))
        refine ⟨fun _ h => (by cases h), ?_⟩
        gi_wp2
        refine bodyPost_ret (results_none rfl _ _ _) rfl ?_
        exact ⟨⟨_, rfl⟩, .inl ⟨pre, hX2.symm, hJ2⟩⟩
      · have hX2 : rs s.data.toList = pre ++ r :: rs (s.data.toList.drop (at_ + k)) := by rw [hX, rs_step (by rw [hrk]; exact hk), hrk, List.drop_drop]
        have hk0 : ((k : Int) == 0) = false := by rw [beq_eq_false_iff_ne]; omega
        have hw1 : IntKind.i64.wrap ((at_ : Int) + (k : Int)) = ((at_ + k : Nat) : Int) := by rw [IntWalk.i64_in _ (by omega)]; push_cast; rfl
        have hpl : pre.length < (rs s.data.toList).length := by rw [hX2]; simp
        clear hX hrk HC
        gi_wp2_with (refine ⟨trivial, ?_⟩; gi_at_call 13; (with_reducible refine (callsIn_wide.2 HD.out).mono ?_); rintro e w2 ⟨rfl, hD⟩; have hJ2 := hJ _ _ _ none hJp (grown_below hD) (fun _ e => by cases e); obtain ⟨fn, tmps, assign, body, hy, hR⟩ := hY pre r w2 hJ2 hpl)
        have hB2 : K2 n₀ Bn W0 w2 := hB.trans (K2.of hD (by omega) (by omega))
        refine hR.mono ?_
        rintro e W3 (⟨rfl, hJ3, hk3⟩ | ⟨rfl, hJx3⟩)
        · have hB3 := hB2.trans hk3
          have hs3 : W.heap.size ≤ W3.heap.size := Nat.le_trans hsz2 (Nat.le_trans hD.size hk3.1.size)
          gi_wp2
          go_roundw
          case rel => exact ⟨pre ++ [r], at_ + k, by go_num, by omega, by rw [hX2]; simp, hB3, hs3, hJ3⟩
          case measure => simp [intOf]; omega
        · gi_wp2
          refine bodyPost_ret (results_none rfl _ _ _) rfl ?_
          exact ⟨⟨_, rfl⟩, .inr ⟨pre ++ [r], ⟨rs (s.data.toList.drop (at_ + k)), by rw [hX2]; simp⟩, hJx3⟩⟩
    · obtain rfl : at_ = s.size := by omega
      have hX2 : rs s.data.toList = pre := by rw [hX, List.drop_eq_nil_of_le (by omega), rs_stop rfl, List.append_nil]
      gi_wp2
      go_end0
      exact ⟨⟨_, rfl⟩, .inl ⟨pre, hX2.symm, hJp⟩⟩
/-- Runes hands back an iterator: the string is boxed. -/
theorem runes_any (s : ByteArray) (w : World) : Calls Tryd.prog 18 #[.string s] w fun e w' => e = .returned (.func (.func 32) #[] #[.pointer (some ⟨w.heap.size, 0, none⟩)]) ∧ w' = w.alloc (.cells #[.string s] 9) := by
  go_enter Tryd.func18, Tryd.ntmps18
  go_wp2
  go_ret
  exact ⟨rfl, rfl⟩
/-- The iterator's contract, for every loop body. -/
theorem runes_stops (n : Nat) (hn : 1 ≤ n) (Bn n₀ : Nat) (s : ByteArray) (hs : s.size ≤ 4611686018427387904) (w : World) (hBn : Bn < w.heap.size) (hn₀ : n₀ ≤ w.heap.size) (hc : w.cell? ⟨Bn, 0, none⟩ = some (.string s)) (hT : ∀ W', Below n₀ w W' → Tabs W') :
    SeqStopsK Fence.wide n Tryd.prog 32 #[.pointer (some ⟨Bn, 0, none⟩)] (fun x : Nat => #[Value.int .i64 (x : Nat)]) (K2 n₀ Bn) (fun ys => ys = rs s.data.toList) (fun pre => pre <+: rs s.data.toList) (rs s.data.toList).length w := fun l J Jx W hW hJ _ hY h0 =>
  runes1_in n hn l Bn n₀ s hs J Jx hY w W hJ (K2.of hW hn₀ hBn) (Nat.le_trans hn₀ hW.size) (Nat.lt_of_lt_of_le hBn hW.size) hc hT h0
end Go.Proofs.YtiodnncpgdiejaaDoor.Utf
