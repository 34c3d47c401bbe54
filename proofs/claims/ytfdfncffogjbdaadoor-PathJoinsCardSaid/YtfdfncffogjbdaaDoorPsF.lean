/-
  Package path: the steps that a text begins with, at the literals that lives asks for.
-/
import Derived.Test.YtfdfncffogjbdaaDoorPsE
import Derived.Deep.RegionHeld3
import Derived.BigQuiet
import Derived.Lib.AtoiErrMem
namespace Go.Proofs.YtfdfncffogjbdaaDoor.Ps
open Go.RowKit
set_option linter.unusedVariables false
set_option linter.unusedSimpArgs false
open RO

set_option maxRecDepth 100000 in
set_option maxHeartbeats 4000000 in
theorem unesc_xy (w : World) : Calls Tryd.prog 57 #[.string (⟨#[120, 32, 121, 34]⟩ : ByteArray)] w fun e w' => e = .returned (.tuple #[.string (⟨#[120, 32, 121]⟩ : ByteArray), .int .i64 4, .bool true]) ∧ Below w.heap.size w w' := by
  have z : (⟨#[120, 32, 121, 34]⟩ : ByteArray).size = 4 := rfl
  have c0 : ((⟨#[120, 32, 121, 34]⟩ : ByteArray)[0]'(by decide)).toNat = 120 := rfl
  have c1 : ((⟨#[120, 32, 121, 34]⟩ : ByteArray)[1]'(by decide)).toNat = 32 := rfl
  have c2 : ((⟨#[120, 32, 121, 34]⟩ : ByteArray)[2]'(by decide)).toNat = 121 := rfl
  have c3 : ((⟨#[120, 32, 121, 34]⟩ : ByteArray)[3]'(by decide)).toNat = 34 := rfl
  have HW := Lib.hid wbyte_any
  have HS := Lib.hid bstr_any
  have B0 := Lib.hid (Bu.new w)
  have bl : Below w.heap.size w (w.alloc (.cells #[.pointer none, .slice none 0 0] 48)) := (Below.refl _ _).alloc (Nat.le_refl _) _
  go_enter Tryd.func57, Tryd.ntmps57
  go_wp2
  refine wp_loop_rounds 4 ?_
  rw [rounds_succ]
  go_wp2_with (go_at_call 32; (refine (HW.out w.heap.size [] 120 _ _ rfl B0.out (by decide)).mono ?_); rintro e w1 ⟨rfl, hB, hX⟩; have B1 := Lib.hid hB; have bl := bl.trans hX; clear hX hB)
  rw [rounds_succ]
  go_wp2_with (go_at_call 32; (refine (HW.out w.heap.size [120] 32 _ _ rfl B1.out (by decide)).mono ?_); rintro e w2 ⟨rfl, hB, hX⟩; have B2 := Lib.hid hB; have bl := bl.trans hX; clear hX hB)
  rw [rounds_succ]
  go_wp2_with (go_at_call 32; (refine (HW.out w.heap.size [120, 32] 121 _ _ rfl B2.out (by decide)).mono ?_); rintro e w3 ⟨rfl, hB, hX⟩; have B3 := Lib.hid hB; have bl := bl.trans hX; clear hX hB)
  rw [rounds_succ]
  go_wp2_with (go_at_call 37; (refine (HS.out w.heap.size [120, 32, 121] _ B3.out).mono ?_); rintro e w4 ⟨rfl, hB, hX⟩; have bl := bl.trans hX; clear hX hB)
  exact bodyPost_ret (v := .tuple #[.string (⟨#[120, 32, 121]⟩ : ByteArray), .int .i64 4, .bool true]) (by simp [results, Tryd.results57, go_sem]) rfl ⟨rfl, bl⟩
set_option maxRecDepth 100000 in
set_option maxHeartbeats 4000000 in
theorem step_name (s k : ByteArray) (w : World) (h0 : 2 < s.size) (hs : s.size ≤ 1000) (c0 : (s[0]'(by omega)).toNat = 46) (c1 : (s[1]'(by omega)).toNat = 97) (c2 : (s[2]'h0).toNat = 91) (hk : s.extract 1 2 = k) : Calls Tryd.prog 40 #[.string s] w fun e w' => e = .returned (.tuple #[.agg #[.bool false, .string k, .int .i64 0], .int .i64 2, .bool true]) ∧ Below w.heap.size w w' := by
  have HK := Lib.hid (fun w => key_any k w)
  have hz : ¬ s.size < 2 := by omega
  have A := SC.new w false ⟨#[]⟩ 0
  have bl : Below w.heap.size w (w.alloc (.cells #[.bool false, .string ⟨#[]⟩, .int .i64 0] 26)) := (Below.refl _ _).alloc (Nat.le_refl _) _
  obtain ⟨a0, a1, a2⟩ := A.cells
  go_enter Tryd.func40, Tryd.ntmps40
  go_wp2
  refine wp_loop_rounds 2 ?_
  rw [rounds_succ]
  go_wp2
  rw [rounds_succ]
  go_wp2_with (go_at_call 12; (with_reducible refine (HK.out _).mono ?_); rintro e w1 ⟨rfl, hX⟩; have A := A.below hX A.lt; have bl := bl.trans (hX.mono bl.size); clear hX; obtain ⟨a0, a1, a2⟩ := A.cells; have y0 := A.fz 0; have y1 := A.fz 1; have y2 := A.fz 2)
  exact bodyPost_ret (v := .tuple #[.agg #[.bool false, .string k, .int .i64 0], .int .i64 2, .bool true]) (by simp [results, Tryd.results40, go_sem, a0, a1, a2]) rfl ⟨rfl, ((bl.setCell (by simp) _).setCell (by simp) _).setCell (by simp) _⟩
set_option maxRecDepth 100000 in
set_option maxHeartbeats 4000000 in
theorem step_quoted (s q k : ByteArray) (n : Int) (w : World) (h0 : 2 < s.size) (hs : s.size ≤ 1000) (hn : 0 ≤ n ∧ n ≤ 1000) (c0 : (s[0]'(by omega)).toNat = 46) (c1 : (s[1]'(by omega)).toNat = 34) (hq : s.extract 2 s.size = q) (HU : ∀ w, Calls Tryd.prog 57 #[.string q] w fun e w' => e = .returned (.tuple #[.string k, .int .i64 n, .bool true]) ∧ Below w.heap.size w w') : Calls Tryd.prog 40 #[.string s] w fun e w' => e = .returned (.tuple #[.agg #[.bool false, .string k, .int .i64 0], .int .i64 (2 + n), .bool true]) ∧ Below w.heap.size w w' := by
  have HK := Lib.hid (fun w => key_any k w)
  have HU := Lib.hid HU
  have hz : ¬ s.size < 2 := by omega
  have A := SC.new w false ⟨#[]⟩ 0
  have bl : Below w.heap.size w (w.alloc (.cells #[.bool false, .string ⟨#[]⟩, .int .i64 0] 26)) := (Below.refl _ _).alloc (Nat.le_refl _) _
  obtain ⟨a0, a1, a2⟩ := A.cells
  go_enter Tryd.func40, Tryd.ntmps40
  go_wp2_with (first | (go_at_call 57; (with_reducible refine (HU.out _).mono ?_); rintro e w1 ⟨rfl, hX⟩; have A := A.below hX A.lt; have bl := bl.trans (hX.mono bl.size); clear hX) | (go_at_call 12; (with_reducible refine (HK.out _).mono ?_); rintro e w1 ⟨rfl, hX⟩; have A := A.below hX A.lt; have bl := bl.trans (hX.mono bl.size); clear hX; obtain ⟨a0, a1, a2⟩ := A.cells; have y0 := A.fz 0; have y1 := A.fz 1; have y2 := A.fz 2))
  exact bodyPost_ret (v := .tuple #[.agg #[.bool false, .string k, .int .i64 0], .int .i64 (2 + n), .bool true]) (by simp [results, Tryd.results40, go_sem, a0, a1, a2]) rfl ⟨rfl, ((bl.setCell (by simp) _).setCell (by simp) _).setCell (by simp) _⟩
/-- Some step in a block of its own. -/
structure R1 (w W : World) : Prop where
  c : ∃ b s x, SC W w.heap.size b s x
  bel : Below w.heap.size w W
section
variable {w W W' : World}
theorem R1.d (h : R1 w W) : R1 w W.drew := ⟨by obtain ⟨_, _, _, hc⟩ := h.c; exact ⟨_, _, _, hc.dr⟩, h.bel.drew⟩
theorem R1.step (hb : Below W.heap.size W W') (h : R1 w W) : R1 w W' := ⟨by obtain ⟨_, _, _, hc⟩ := h.c; exact ⟨_, _, _, hc.below hb hc.lt⟩, h.bel.trans (hb.mono h.bel.size)⟩
theorem SC.put {A : Nat} {b : Bool} {s : ByteArray} {x : Int} (h : SC W A b s x) (b' : Bool) (s' : ByteArray) (x' : Int) : SC (((W.setCell ⟨A, 0, none⟩ (.bool b')).setCell ⟨A, 1, none⟩ (.string s')).setCell ⟨A, 2, none⟩ (.int .i64 x')) A b' s' x' :=
  (((World.rowIs.set h 0 _).set 1 _).set 2 _).congr fun i hi => by
    rcases (show i = 0 ∨ i = 1 ∨ i = 2 by omega) with rfl | rfl | rfl <;> rfl
theorem R1.put (h : R1 w W) (b' : Bool) (s' : ByteArray) (x' : Int) : R1 w (((W.setCell ⟨w.heap.size, 0, none⟩ (.bool b')).setCell ⟨w.heap.size, 1, none⟩ (.string s')).setCell ⟨w.heap.size, 2, none⟩ (.int .i64 x')) := by
  obtain ⟨b, s, x, hc⟩ := h.c
  exact ⟨⟨_, _, _, hc.put b' s' x'⟩, ((h.bel.setCell (by simp) _).setCell (by simp) _).setCell (by simp) _⟩
theorem R1.all (h : R1 w W) : R1 w W ∧ True := ⟨h, trivial⟩
end
set_option maxRecDepth 100000 in
set_option maxHeartbeats 4000000 in
theorem step_index (s d : ByteArray) (n : Nat) (x : Int) (w : World) (h0 : 0 < s.size) (hs : s.size ≤ 1000) (c0 : (s[0]'h0).toNat = 91) (hn : 0 < n ∧ n < s.size) (hi : Lib.indexByte s.data.toList 93 = (n : Int)) (hd : s.extract 1 n = d) (ha : Lib.atoi d.data.toList = some x) (hds : d.size ≤ 18) : Calls Tryd.prog 40 #[.string s] w fun e w' => e = .returned (.tuple #[.agg #[.bool true, .string ⟨#[]⟩, .int .i64 x], .int .i64 ((n : Int) + 1), .bool true]) ∧ Below w.heap.size w w' := by
  have HI : Hid (∀ w, Calls Tryd.prog 55 #[.string s, .int .u8 93] w fun e w' => e = .returned (.int .i64 n) ∧ w' = w) := Lib.hid (fun w => by have := Tryd.strings_IndexByte s 93 w; rw [show (93 : Int).toNat.toUInt8 = 93 from rfl, hi] at this; exact this)
  have HA : Hid (∀ w, Calls Tryd.prog 56 #[.string d] w fun e w' => e = .returned (.tuple #[.int .i64 x, .nilIface]) ∧ Below w.heap.size w w') := Lib.hid (fun w => (Tryd.strconv_Atoi d x hds ha w).mono fun _ _ ⟨he, t, hw⟩ => ⟨he, by rw [hw]; exact Lib.bytesWorld_below _ _ _⟩)
  have HT := Lib.hid (fun w => at_any x w)
  have hw1 : IntKind.i64.wrap ((n : Int) + 1) = (n : Int) + 1 := IntWalk.i64_in _ (by omega)
  clear hi ha hds
  have A := SC.new w false ⟨#[]⟩ 0
  have bl : Below w.heap.size w (w.alloc (.cells #[.bool false, .string ⟨#[]⟩, .int .i64 0] 26)) := (Below.refl _ _).alloc (Nat.le_refl _) _
  obtain ⟨a0, a1, a2⟩ := A.cells
  go_enter Tryd.func40, Tryd.ntmps40
  go_wp2_with (first | (go_at_call 55; (with_reducible refine (HI.out _).mono ?_); rintro e w1 ⟨rfl, rfl⟩) | (go_at_call 56; (with_reducible refine (HA.out _).mono ?_); rintro e w2 ⟨rfl, hX⟩; have A := A.below hX A.lt; have bl := bl.trans (hX.mono bl.size); clear hX))
  have T : R1 w w2 := ⟨⟨_, _, _, A⟩, bl⟩
  go_region_held3 (fun (W : World) => R1 w W ∧ True) ((first | (go_split_ands; exact R1.all (by assumption)) | (go_split_ands; exact R1.all (R1.d (by assumption))) | (go_split_ands; exact R1.all (R1.step hX (by assumption))) | (go_split_ands; exact R1.all (R1.put (by assumption) _ _ _)))) (first | (go_at_call 14; (with_reducible refine (HT.out _).mono ?_); rintro e wn ⟨rfl, hX⟩) | (go_split_ands; obtain ⟨g0, s0, z0, hD⟩ := R1.c (by assumption); obtain ⟨a0, a1, a2⟩ := hD.cells; have y0 := hD.fz 0; have y1 := hD.fz 1; have y2 := hD.fz 2; go_simp))
  rename_i hH
  have bl := hH.1.bel
  clear hH T
  go_wp2
  exact bodyPost_ret (v := .tuple #[.agg #[.bool true, .string ⟨#[]⟩, .int .i64 x], .int .i64 ((n : Int) + 1), .bool true]) (by simp [results, Tryd.results40, go_sem, a0, a1, a2]) rfl ⟨rfl, bl⟩
end Go.Proofs.YtfdfncffogjbdaaDoor.Ps
