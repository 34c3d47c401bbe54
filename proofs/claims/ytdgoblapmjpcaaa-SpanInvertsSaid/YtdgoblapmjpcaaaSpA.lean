/-
  Edits that came in; contracts of package span and its reference: valid spans, checks.
-/
import Derived.Test.YtdgoblapmjpcaaaRowOf
import Derived.Test.YtdgoblapmjpcaaaShelf
import Derived.Deep.Slices
import Derived.Deep.SlicePairs
import Derived.ChangeArms
import Derived.Lib.SmallJoins
import Derived.Deep.RegionHeld3
import Derived.Lib.Strings
namespace Go.Proofs.Ytdgoblapmjpcaaa.Sp
open Go.RowKit
set_option linter.unusedVariables false
set_option linter.unusedSimpArgs false
open Go.ChangeShapes Go.WideShapes Go.Deep RO

/-- An edit: from, to, text. -/
structure Ed where
  f : Int
  t : Int
  x : ByteArray
instance : Inhabited Ed := ⟨⟨0, 0, ByteArray.empty⟩⟩
def ec (d : Ed) : List Value := [.int .i64 d.f, .int .i64 d.t, .string d.x]
theorem ec_len (d : Ed) : (ec d).length = 3 := rfl
theorem ec_one (d : Ed) : ∀ u ∈ ec d, u.oneCell' = true := by
  intro u hu
  simp [ec] at hu
  rcases hu with rfl | rfl | rfl <;> rfl
def I64 (x : Int) : Prop := -9223372036854775808 ≤ x ∧ x ≤ 9223372036854775807
/-- An edit that can come in. -/
def Ed.ok (d : Ed) : Prop := I64 d.f ∧ I64 d.t ∧ d.x.size ≤ 9223372036854775807
theorem ed_cells {H : Type} {enc : TypeId × Value → H} {w : World} {base : Nat} {spare : Nat → Bool} {held : Bool} {fuel : Nat} {cs : List Value} {x : DataW H × List MemPlace} {a : Addr} (h1 : w.cells? base a 3 = some cs) (h2 : DataW.trod enc Try.prog w base spare held fuel 50 cs = some x) :
    ∃ d : Ed, d.ok ∧ w.cell? (a.add 0) = some (.int .i64 d.f) ∧ w.cell? (a.add 1) = some (.int .i64 d.t) ∧ w.cell? (a.add 2) = some (.string d.x) := by
  obtain ⟨_, hlen, hcell⟩ := World.cells?_some h1
  obtain ⟨y0, y1, n, _, _, g0, g1⟩ := trod_struct2 Try.underlying50 h2
  have k2 : Try.prog.cellsOf 24 = 2 := by kernel_rfl
  have k3 : Try.prog.cellsOf 3 = 1 := by kernel_rfl
  have k9 : Try.prog.cellsOf 9 = 1 := by kernel_rfl
  match cs, hlen with
  | [v0, v1, v2], _ =>
    simp only [k2, k3, k9] at g0 g1
    obtain ⟨z0, z1, m, _, _, e0, e1⟩ := trod_struct2 Try.underlying24 g0
    simp only [k3] at e0 e1
    obtain ⟨n0, q0, _, f0⟩ := DataW.trod_int Try.underlying3 e0
    obtain ⟨n1, q1, _, f1⟩ := DataW.trod_int Try.underlying3 e1
    obtain ⟨s2, q2, _, f2⟩ := DataW.trod_string Try.underlying9 g1
    simp at q0 q1 q2
    subst q0; subst q1; subst q2
    exact ⟨⟨n0, n1, s2⟩, ⟨bounds_i64 f0, bounds_i64 f1, by have h := f2; unfold maxLen at h; exact h⟩, by simpa using hcell 0 (by decide), by simpa using hcell 1 (by decide), by simpa using hcell 2 (by decide)⟩
/-- Edits to read. -/
def Es (w : World) (B : Nat) (v : Value) (L : List Ed) : Prop := Rd ec 3 w B v L
theorem open_eds {H : Type} {enc : TypeId × Value → H} {w : World} {base : Nat} {spare : Nat → Bool} {held : Bool} {fuel : Nat} {x : DataW H × List MemPlace} {a : Option Addr} {n cap : Nat} (h : DataW.trod enc Try.prog w base spare held fuel 22 [.slice a n cap] = some x) :
    ∃ L : List Ed, L.length = n ∧ Es w w.heap.size (.slice a n cap) L ∧ ∀ d ∈ L, d.ok := by
  have hce : Try.prog.cellsOf 50 = 3 := by kernel_rfl
  rcases open_slice Try.underlying22 h with ⟨h0, _⟩ | ⟨a', len, cap', m, f, D, Pl, h0, hb, hl, hm, hmm, _, hx⟩
  · simp at h0
    obtain ⟨rfl, rfl, rfl⟩ := h0
    exact ⟨[], rfl, .inl ⟨_, _, rfl, rfl⟩, fun d hd => by cases hd⟩
  · simp at h0
    obtain ⟨rfl, rfl, rfl⟩ := h0
    have hlm : n ≤ m := by rw [hmm]; split <;> omega
    have each : ∀ i, i < n → ∃ d : Ed, d.ok ∧ w.cell? ((a'.add (i * 3)).add 0) = some (.int .i64 d.f) ∧ w.cell? ((a'.add (i * 3)).add 1) = some (.int .i64 d.t) ∧ w.cell? ((a'.add (i * 3)).add 2) = some (.string d.x) := fun i hi => by
      obtain ⟨cs', h1, h2⟩ := hx i (by omega)
      rw [hce] at h1
      exact ed_cells h1 h2
    rcases Nat.eq_zero_or_pos n with hn | hn
    · subst hn
      exact ⟨[], rfl, .inl ⟨_, _, rfl, rfl⟩, fun d hd => by cases hd⟩
    obtain ⟨q, hq⟩ := choose_lt each
    obtain ⟨b, off, spot⟩ := a'
    have hs : spot = none := by
      have := World.cell?_spot (hq 0 hn).2.1
      simpa [Addr.add] using this
    subst hs
    have ad : ∀ k j, ((⟨b, off, none⟩ : Addr).add k).add j = ⟨b, off + k + j, none⟩ := fun k j => by unfold Addr.add; split <;> split <;> simp_all
    refine ⟨(List.range n).map q, by simp, .inr ⟨b, off, cap, by simp, ?_, by simpa using hl, hm, ?_⟩, ?_⟩
    · have := (hq 0 hn).2.1
      rw [ad] at this
      exact World.block_lt_of_cell? w _ this
    · intro i x j u hi hj
      have hin : i < n := by
        have := (List.getElem?_eq_some_iff.1 hi).1
        simpa using this
      have hqx : q i = x := by
        rw [List.getElem?_map, List.getElem?_range hin] at hi
        simpa using hi
      obtain ⟨_, e0, e1, e2⟩ := hq i hin
      rw [ad] at e0 e1 e2
      rw [hqx] at e0 e1 e2
      have hj3 : j < 3 := (List.getElem?_eq_some_iff.1 hj).1
      rcases (show j = 0 ∨ j = 1 ∨ j = 2 by omega) with rfl | rfl | rfl
      · have : Value.int .i64 x.f = u := by simpa [ec] using hj
        rw [← this]; exact e0
      · have : Value.int .i64 x.t = u := by simpa [ec] using hj
        rw [← this]; exact e1
      · have : Value.string x.x = u := by simpa [ec] using hj
        rw [← this]; exact e2
    · intro d hd
      rw [List.mem_map] at hd
      obtain ⟨i, hi, rfl⟩ := hd
      rw [List.mem_range] at hi
      exact (hq i hi).1
/-- The three cells of element i. -/
theorem Es.at_ {w : World} {B : Nat} {v : Value} {L : List Ed} (h : Es w B v L) {n : Nat} (hn : L.length = n) (h0 : 0 < n) : ∃ g o cap, v = .slice (some ⟨g, o, none⟩) n cap ∧ g < B ∧ n ≤ cap ∧ cap ≤ 9223372036854775807 ∧ ∀ i d, L[i]? = some d → w.cell? ⟨g, o + i * 3, none⟩ = some (.int .i64 d.f) ∧ w.cell? ⟨g, o + i * 3 + 1, none⟩ = some (.int .i64 d.t) ∧ w.cell? ⟨g, o + i * 3 + 2, none⟩ = some (.string d.x) := by
  subst hn
  obtain ⟨g, o, cap, hv, hg, hl, hm, hc⟩ := Rd.at_ h h0
  exact ⟨g, o, cap, hv, hg, hl, by unfold maxLen at hm; exact hm, fun i d hd => ⟨hc i d 0 _ hd rfl, hc i d 1 _ hd rfl, hc i d 2 _ hd rfl⟩⟩
def vld (f t s : Int) : Bool := decide (0 ≤ f) && decide (f ≤ t) && decide (t ≤ s)
set_option maxHeartbeats 400000 in
theorem valid_any (f t s : Int) (w : World) (hf : I64 f) (ht : I64 t) (hs : I64 s) : Calls Try.prog 13 #[.agg #[.int .i64 f, .int .i64 t], .int .i64 s] w fun e w' => e = .returned (.bool (vld f t s)) ∧ Below w.heap.size w w' := by
  by_cases h1 : 0 ≤ f
  · by_cases h2 : f ≤ t
    · by_cases h3 : t ≤ s
      · have HV : Hid (vld f t s = true) := Lib.hid (by unfold vld; simp [h1, h2, h3])
        go_enter Try.func13, Try.ntmps13
        go_wp2
        go_ret
        exact ⟨ret_bool HV.out.symm, (Below.refl _ _).alloc (Nat.le_refl _) _⟩
      · have HV : Hid (vld f t s = false) := Lib.hid (by unfold vld; simp [h3])
        go_enter Try.func13, Try.ntmps13
        go_wp2
        go_ret
        exact ⟨ret_bool HV.out.symm, (Below.refl _ _).alloc (Nat.le_refl _) _⟩
    · have HV : Hid (vld f t s = false) := Lib.hid (by unfold vld; simp [h2])
      go_enter Try.func13, Try.ntmps13
      go_wp2
      go_ret
      exact ⟨ret_bool HV.out.symm, (Below.refl _ _).alloc (Nat.le_refl _) _⟩
  · have HV : Hid (vld f t s = false) := Lib.hid (by unfold vld; simp [h1])
    go_enter Try.func13, Try.ntmps13
    go_wp2
    go_ret
    exact ⟨ret_bool HV.out.symm, (Below.refl _ _).alloc (Nat.le_refl _) _⟩
set_option maxHeartbeats 400000 in
theorem rvalid_any (f t s : Int) (w : World) (hf : I64 f) (ht : I64 t) (hs : I64 s) : Calls Try.prog 14 #[.agg #[.int .i64 f, .int .i64 t], .int .i64 s] w fun e w' => e = .returned (.bool (vld f t s)) ∧ Below w.heap.size w w' := by
  by_cases h1 : 0 ≤ f
  · by_cases h2 : f ≤ t
    · by_cases h3 : t ≤ s
      · have HV : Hid (vld f t s = true) := Lib.hid (by unfold vld; simp [h1, h2, h3])
        go_enter Try.func14, Try.ntmps14
        go_wp2
        go_ret
        exact ⟨ret_bool HV.out.symm, (Below.refl _ _).alloc (Nat.le_refl _) _⟩
      · have HV : Hid (vld f t s = false) := Lib.hid (by unfold vld; simp [h3])
        go_enter Try.func14, Try.ntmps14
        go_wp2
        go_ret
        exact ⟨ret_bool HV.out.symm, (Below.refl _ _).alloc (Nat.le_refl _) _⟩
    · have HV : Hid (vld f t s = false) := Lib.hid (by unfold vld; simp [h2])
      go_enter Try.func14, Try.ntmps14
      go_wp2
      go_ret
      exact ⟨ret_bool HV.out.symm, (Below.refl _ _).alloc (Nat.le_refl _) _⟩
  · have HV : Hid (vld f t s = false) := Lib.hid (by unfold vld; simp [h1])
    go_enter Try.func14, Try.ntmps14
    go_wp2
    go_ret
    exact ⟨ret_bool HV.out.symm, (Below.refl _ _).alloc (Nat.le_refl _) _⟩
set_option maxHeartbeats 1000000 in
theorem cut_no (s : ByteArray) (f t : Int) (w : World) (hf : I64 f) (ht : I64 t) (hs : s.size ≤ 9223372036854775807) (hv : vld f t s.size = false) : Calls Try.prog 11 #[.string s, .agg #[.int .i64 f, .int .i64 t]] w fun e w' => e = .returned (.tuple #[.string ⟨#[]⟩, .int .i64 2]) ∧ Below w.heap.size w w' := by
  have HC := Lib.hid (fun w => valid_any f t s.size w hf ht ⟨by omega, by omega⟩)
  rw [hv] at HC
  clear hv
  go_enter Try.func11, Try.ntmps11
  go_wp2_with (go_at_call 13; (with_reducible refine (HC.out _).mono ?_); rintro e w1 ⟨rfl, hb1⟩)
  go_ret2
  exact ⟨rfl, ((Below.refl _ _).alloc (Nat.le_refl _) _).trans (hb1.mono (by simp))⟩
set_option maxHeartbeats 1000000 in
theorem cut_yes (s : ByteArray) (f t : Nat) (w : World) (hs : s.size ≤ 9223372036854775807) (h1 : f ≤ t) (h2 : t ≤ s.size) : Calls Try.prog 11 #[.string s, .agg #[.int .i64 f, .int .i64 t]] w fun e w' => e = .returned (.tuple #[.string (s.extract f t), .int .i64 0]) ∧ Below w.heap.size w w' := by
  have HC := Lib.hid (fun w => valid_any f t s.size w ⟨by omega, by omega⟩ ⟨by omega, by omega⟩ ⟨by omega, by omega⟩)
  rw [show vld (f : Int) (t : Int) (s.size : Int) = true by unfold vld; simp; omega] at HC
  go_enter Try.func11, Try.ntmps11
  go_wp2_with (go_at_call 13; (with_reducible refine (HC.out _).mono ?_); rintro e w1 ⟨rfl, hb1⟩; obtain ⟨hc1, hf1⟩ := bcell hb1; have k0 := hc1 w.heap.size 0 (by simp); have k1 := hc1 w.heap.size 1 (by simp); clear hc1 hf1)
  go_ret2
  exact ⟨rfl, ((Below.refl _ _).alloc (Nat.le_refl _) _).trans (hb1.mono (by simp))⟩
set_option maxHeartbeats 1000000 in
theorem rcut_no (s : ByteArray) (f t : Int) (w : World) (hf : I64 f) (ht : I64 t) (hs : s.size ≤ 9223372036854775807) (hv : vld f t s.size = false) : Calls Try.prog 12 #[.string s, .agg #[.int .i64 f, .int .i64 t]] w fun e w' => e = .returned (.tuple #[.string ⟨#[]⟩, .int .i64 2]) ∧ Below w.heap.size w w' := by
  have HC := Lib.hid (fun w => rvalid_any f t s.size w hf ht ⟨by omega, by omega⟩)
  rw [hv] at HC
  clear hv
  go_enter Try.func12, Try.ntmps12
  go_wp2_with (go_at_call 14; (with_reducible refine (HC.out _).mono ?_); rintro e w1 ⟨rfl, hb1⟩)
  go_ret2
  exact ⟨rfl, ((Below.refl _ _).alloc (Nat.le_refl _) _).trans (hb1.mono (by simp))⟩
set_option maxHeartbeats 1000000 in
theorem rcut_yes (s : ByteArray) (f t : Nat) (w : World) (hs : s.size ≤ 9223372036854775807) (h1 : f ≤ t) (h2 : t ≤ s.size) : Calls Try.prog 12 #[.string s, .agg #[.int .i64 f, .int .i64 t]] w fun e w' => e = .returned (.tuple #[.string (s.extract f t), .int .i64 0]) ∧ Below w.heap.size w w' := by
  have HC := Lib.hid (fun w => rvalid_any f t s.size w ⟨by omega, by omega⟩ ⟨by omega, by omega⟩ ⟨by omega, by omega⟩)
  rw [show vld (f : Int) (t : Int) (s.size : Int) = true by unfold vld; simp; omega] at HC
  go_enter Try.func12, Try.ntmps12
  go_wp2_with (go_at_call 14; (with_reducible refine (HC.out _).mono ?_); rintro e w1 ⟨rfl, hb1⟩; obtain ⟨hc1, hf1⟩ := bcell hb1; have k0 := hc1 w.heap.size 0 (by simp); have k1 := hc1 w.heap.size 1 (by simp); clear hc1 hf1)
  go_ret2
  exact ⟨rfl, ((Below.refl _ _).alloc (Nat.le_refl _) _).trans (hb1.mono (by simp))⟩
end Go.Proofs.Ytdgoblapmjpcaaa.Sp
