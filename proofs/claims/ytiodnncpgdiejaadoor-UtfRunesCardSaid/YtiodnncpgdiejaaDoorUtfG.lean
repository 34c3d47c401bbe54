/-
  Contracts of the reference of utf: boundaries; the law's walk: UtfDecodes.
-/
import Derived.Test.YtiodnncpgdiejaaDoorUtfF
import Derived.OwnWalk
namespace Go.Proofs.YtiodnncpgdiejaaDoor.Utf
open Go.RowKit
set_option linter.unusedVariables false
set_option linter.unusedSimpArgs false

/-- The first k steps from the beginning find characters. -/
def Good (l : List UInt8) (k : Nat) : Prop := ∀ j, j < k → off l j < l.length ∧ (hd (l.drop (off l j))).2 ≠ 0
theorem Good.zero (l : List UInt8) : Good l 0 := fun j hj => by omega
theorem Good.succ {l : List UInt8} {k : Nat} (h : Good l k) (h1 : off l k < l.length) (h2 : (hd (l.drop (off l k))).2 ≠ 0) : Good l (k + 1) := fun j hj => by
  by_cases e : j = k
  · subst e; exact ⟨h1, h2⟩
  · exact h j (by omega)
theorem Good.rest {l : List UInt8} {k : Nat} (h : Good l k) : Lib.validD l = Lib.validD (l.drop (off l k)) ∧ nch l = k + nch (l.drop (off l k)) := by
  induction k with
  | zero => exact ⟨by simp [off], by simp [off]⟩
  | succ k ih =>
    obtain ⟨h1, h2⟩ := ih fun j hj => h j (by omega)
    obtain ⟨g1, g2⟩ := h k (by omega)
    have hne : l.drop (off l k) ≠ [] := by
      intro e; have := congrArg List.length e
      rw [List.length_drop] at this; simp at this; omega
    have hs := valid_step hne
    rw [if_neg g2, List.drop_drop] at hs
    have hn := nch_step hne
    rcases decodeL_hd hne with ⟨_, _, h3⟩ | ⟨_, h3, _⟩
    · rw [h3] at g2; exact absurd rfl g2
    · rw [h3, List.drop_drop] at hn
      simp only [off]
      exact ⟨h1.trans hs, by omega⟩
theorem Good.all {l : List UInt8} {k : Nat} (h : Good l k) (hk : ¬ off l k < l.length) : Lib.validD l = true ∧ nch l = k := by
  obtain ⟨h1, h2⟩ := h.rest
  rw [List.drop_of_length_le (by omega)] at h1 h2
  exact ⟨h1, h2⟩
theorem Good.bad {l : List UInt8} {k : Nat} (h : Good l k) (h1 : off l k < l.length) (h2 : (hd (l.drop (off l k))).2 = 0) : Lib.validD l = false := by
  rw [h.rest.1, valid_step (by intro e; have := congrArg List.length e; rw [List.length_drop] at this; simp at this; omega), if_pos h2]
theorem Good.le {l : List UInt8} {k : Nat} (h : Good l k) : k ≤ off l k := by
  induction k with
  | zero => exact Nat.zero_le _
  | succ k ih =>
    have := ih fun j hj => h j (by omega)
    have := (h k (by omega)).2
    simp only [off]; omega
/-- The cells of a list of boundaries. -/
def bcells (l : List UInt8) (n : Nat) : List Value := (List.range n).map fun i => .int .i64 (off l i : Nat)
theorem bcells_succ (l : List UInt8) (n : Nat) : bcells l n ++ [.int .i64 (off l n : Nat)] = bcells l (n + 1) := by
  unfold bcells; rw [List.range_succ, List.map_append]; rfl
theorem own_below {w w' : World} {base : Nat} {e : TypeId} {size : Nat} {v : Value} {n : Nat} {xs : List Value} (h : w.ownsRow base e size v n xs) (hb : Below w.heap.size w w') : w'.ownsRow base e size v n xs :=
  h.kept (row := none) ⟨hb.os, hb.tape, hb.output, hb.size, fun k hk _ => hb.block k hk⟩ (by cases v.ownBlock <;> simp)
/-- What Boundaries returns. -/
def BPost (s : ByteArray) (w : World) (e : Ending) (w' : World) : Prop :=
  ∃ (k : Nat) (v : Value), e = .returned (.tuple #[v, .bool (vld s)]) ∧ Below w.heap.size w w' ∧ w'.ownsRow w.heap.size 3 1 v (k + 1) (bcells s.data.toList (k + 1)) ∧ k ≤ s.size ∧ (vld s = true → nch s.data.toList = k)
/-- Boundary k is the last one. -/
def BEnd (l : List UInt8) (k : Nat) : Prop := Good l k ∧ (hd (l.drop (off l k))).2 = 0
def BFull (s : ByteArray) (w : World) (e : Ending) (w' : World) : Prop :=
  ∃ (k : Nat) (v : Value), (e = .returned (.tuple #[v, .bool (vld s)]) ∧ Below w.heap.size w w' ∧ w'.ownsRow w.heap.size 3 1 v (k + 1) (bcells s.data.toList (k + 1)) ∧ k ≤ s.size ∧ (vld s = true → nch s.data.toList = k)) ∧ BEnd s.data.toList k
theorem rdecode_is {s : ByteArray} {a : Int} {w : World} {r k : Nat} (h : Hid (chAt s a = (r, k))) (hs : s.size ≤ 4611686018427387904) (ha : -9223372036854775808 ≤ a ∧ a ≤ 9223372036854775807) : Calls Tryd.prog 25 #[.string s, .int .i64 a] w fun e w' => e = .returned (.tuple #[.int .i64 r, .int .i64 k]) ∧ Below w.heap.size w w' := by
  have := rdecode_any s a w hs ha; rwa [h.out] at this
theorem new_cell (w : World) (x : Value) : (w.alloc (.cells #[x] 3)).cell? ((⟨w.heap.size, 0, none⟩ : Addr).add 0) = some x :=
  World.rowIs.cell (World.rowIs_alloc w #[x] 3 (fun _ => x) (fun i hi => by
    have h0 : i = 0 := by simp at hi; omega
    subst h0; rfl)) (i := 0) (by simp)
theorem info_int : (Tryd.prog.info? 3).map (fun i => (i.zero, i.size, i.bytes)) = some (some (.int .i64 0), 1, 8) := by kernel_rfl
set_option maxRecDepth 100000 in
set_option maxHeartbeats 2000000 in
theorem bounds_full (s : ByteArray) (w : World) (hs : s.size ≤ 4096) : Calls Tryd.prog 24 #[.string s] w (BFull s w) := by
  obtain ⟨i0, hi, hz0, hz1, hz2⟩ := info_parts info_int
  have HI := Lib.hid hi
  have HZ0 := Lib.hid hz0
  have HZ1 := Lib.hid hz1
  have HZ2 := Lib.hid hz2
  clear hi hz0 hz1 hz2
  go_enter Tryd.func24, Tryd.ntmps24
  go_wp2
  go_loopw [4, 5] (fun v a wr => ∃ k : Nat, a = .int .i64 (off s.data.toList k : Nat) ∧ Good s.data.toList k ∧ Below w.heap.size w wr ∧ wr.ownsRow w.heap.size 3 1 v (k + 1) (bcells s.data.toList (k + 1))) (fun _ a _ => s.size - (intOf a).toNat)
  case atStart =>
    refine ⟨0, rfl, Good.zero _, (Below.refl _ _).alloc (Nat.le_refl _) _, ?_⟩
    have := World.ownsRow_lit (base := w.heap.size) (e := 3) (size := 1) w #[.int .i64 0] 1 (Nat.le_refl _) (by decide) rfl
    exact this
  case round =>
    obtain ⟨k, rfl, hg, hb, hown⟩ := hrel
    have ho := off_le s.data.toList k
    rw [size_list] at ho
    have HGL := Lib.hid hg.le
    have HKS : Hid (k ≤ s.size) := Lib.hid (Nat.le_trans hg.le ho)
    by_cases hlt : off s.data.toList k < s.size
    · have hst := off_succ s.data.toList k
      have hca := chAt_in hlt
      have hle := hd_le (s.data.toList.drop (off s.data.toList k))
      rw [List.length_drop, size_list] at hle
      have HG := Lib.hid hg
      have HO := Lib.hid hown
      have HLT := Lib.hid hlt
      obtain ⟨r, j, hrj⟩ : ∃ r j, hd (s.data.toList.drop (off s.data.toList k)) = (r, j) := ⟨_, _, rfl⟩
      rw [hrj] at hst hca hle
      have hle' : j ≤ s.size - off s.data.toList k := hle
      have HRJ := Lib.hid hrj
      have HST := Lib.hid (show off s.data.toList (k + 1) = off s.data.toList k + j from hst)
      clear hst hrj hle hown hg
      by_cases h0 : j = 0
      · have hj0 : ((j : Int) == 0) = true := by rw [h0]; rfl
        have HF := Lib.hid (HG.out.bad HLT.out (by rw [HRJ.out]; exact h0))
        have HBE : Hid (BEnd s.data.toList k) := Lib.hid ⟨HG.out, by rw [HRJ.out]; exact h0⟩
        have HH0 := Lib.hid h0
        have HP := Lib.hid (off_le s.data.toList k)
        generalize off s.data.toList k = p at *
        have HCA := Lib.hid hca
        clear hca h0
        go_wp2_with (go_at_call 25; (with_reducible refine (rdecode_is HCA (by omega) (by omega)).mono ?_); rintro e w1 ⟨rfl, hb1⟩)
        have hown1 := own_below HO.out hb1
        have hkp := HGL.out
        go_ret2
        exact ⟨k, _, ⟨by rw [show vld s = false from HF.out]; rfl, hb.trans (hb1.mono hb.size), hown1, by have := HKS.out; omega, fun h => by rw [show vld s = false from HF.out] at h; cases h⟩, HBE.out⟩
      · have hj0 : ((j : Int) == 0) = false := by rw [beq_eq_false_iff_ne]; omega
        have HGS := Lib.hid (HG.out.succ HLT.out (by rw [HRJ.out]; exact h0))
        have HBC := Lib.hid (bcells_succ s.data.toList (k + 1))
        rw [HST.out] at HBC
        have hkb : k ≤ 4096 := by have := HGL.out; omega
        generalize off s.data.toList k = p at *
        have HCA := Lib.hid hca
        have HJ0 := Lib.hid h0
        clear hca h0
        go_wp2_with (first | (go_at_call 25; (with_reducible refine (rdecode_is HCA (by omega) (by omega)).mono ?_); rintro e w1 ⟨rfl, hb1⟩; have hown1 := Lib.hid (own_below HO.out hb1); have hbb := hb.trans (hb1.mono hb.size); clear hb1) | (at_builtin; refine wpList_append_own _ rfl _ _ 31 rfl w.heap.size 3 i0 (.int .i64 0) 1 8 Tryd.underlying31 HI.out HZ0.out HZ1.out HZ2.out rfl (by decide) _ _ _ rfl (hown1.out.alloc _) ⟨w1.heap.size, 0, none⟩ 1 1 [.int .i64 ((p : Int) + (j : Int))] rfl rfl ?c1 ?c2 ?c3 ?c4 ?c5 ?_; rotate_left 5; intro v' w2 hown2 hgrow _))
        case c1 =>
          intro i u hu
          have h0 : i = 0 := by
            rcases Nat.eq_zero_or_pos i with h | h
            · exact h
            · rw [List.getElem?_eq_none (by simp; omega)] at hu; cases hu
          subst h0
          have hu' : Value.int .i64 ((p : Int) + (j : Int)) = u := by simpa using hu
          rw [← hu']
          exact new_cell w1 _
        case c2 =>
          intro u hu
          rw [List.mem_singleton] at hu
          subst hu; rfl
        case c3 => unfold maxLen; omega
        case c4 => omega
        case c5 => have := hbb.size; simp; omega
        go_roundw
        case rel =>
          refine ⟨k + 1, by rw [HST.out]; exact congrArg (Value.int .i64) (by omega), HGS.out, (hbb.alloc hbb.size _).grown hgrow (by have := hbb.size; simp; omega) (fun g hg => (hown1.out.lt g hg).1), ?_⟩
          have h2 := hown2
          rw [show ((p : Int) + (j : Int)) = ((p + j : Nat) : Int) by omega, HBC.out] at h2
          exact h2
        case measure => have := HJ0.out; simp [intOf]; omega
    · have e : off s.data.toList k = s.size := by omega
      obtain ⟨h1, h2⟩ := hg.all (by rw [size_list]; omega)
      have HBE : Hid (BEnd s.data.toList k) := Lib.hid ⟨hg, by rw [e, List.drop_eq_nil_of_le (by rw [size_list]; exact Nat.le_refl _)]; rfl⟩
      have HO := Lib.hid hown
      have HV : Hid (vld s = true) := h1
      have HN := Lib.hid h2
      rw [e] at hlt
      have HE := Lib.hid e
      clear hown hg h1 h2 ho
      rw [HE.out]
      go_wp2
      go_ret2
      exact ⟨k, _, ⟨by rw [HV.out]; rfl, hb, HO.out, HKS.out, fun _ => HN.out⟩, HBE.out⟩
theorem bounds_any (s : ByteArray) (w : World) (hs : s.size ≤ 4096) : Calls Tryd.prog 24 #[.string s] w (BPost s w) :=
  (bounds_full s w hs).mono fun _ _ ⟨k, v, h, _⟩ => ⟨k, v, h⟩
end Go.Proofs.YtiodnncpgdiejaaDoor.Utf
