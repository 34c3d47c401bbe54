/-
  Package path: names and escapes at the literals that lives asks for; the text of a path.
-/
import Derived.Test.YtfdfncffogjbdaaDoorPsB
import Derived.Test.YtfdfncffogjbdaaDoorBuiWS
import Derived.Test.YtfdfncffogjbdaaDoorBuiWB
import Derived.Test.YtfdfncffogjbdaaDoorShelf3
import Derived.LoopN
import Derived.Lib.AppendStr
namespace Go.Proofs.YtfdfncffogjbdaaDoor.Ps
open Go.RowKit
set_option linter.unusedVariables false
set_option linter.unusedSimpArgs false
open RO

/-- A builder that holds these bytes, in a block of its own. -/
def Bu (w : World) (b : Nat) (l : List UInt8) : Prop := Lib.IsBuilderF 48 5 b b (Lib.byteCells l) w ∧ b < w.heap.size
theorem Bu.new (w : World) : Bu (w.alloc (.cells #[.pointer none, .slice none 0 0] 48)) w.heap.size [] :=
  ⟨.inl ⟨Nat.le_refl _, .slice none 0 0, heap_alloc_new w _, World.ownsRowF_of (World.ownsRow_nil _ _ _ _), by simp [Value.ownBlock]⟩, by simp⟩
theorem Bu.alloc {w : World} {b : Nat} {l : List UInt8} (h : Bu w b l) (o : Obj) : Bu (w.alloc o) b l := ⟨h.1.alloc o, Nat.lt_of_lt_of_le h.2 (by simp)⟩
theorem Bu.below {w w' : World} {b : Nat} {l : List UInt8} (h : Bu w b l) (hb : Below w.heap.size w w') : Bu w' b l := by
  have key : ∀ p, Lib.BuilderAtF 48 5 b b p (Lib.byteCells l) w → Lib.BuilderAtF 48 5 b b p (Lib.byteCells l) w' := fun p ⟨h1, v, h2, h3, h4⟩ => ⟨h1, v, (hb.block b h.2).trans h2, World.ownsRowF.kept (row := none) h3 ⟨hb.os, hb.tape, hb.output, hb.size, fun k hk _ => hb.block k hk⟩ (by cases v.ownBlock <;> simp), h4⟩
  exact ⟨h.1.elim (fun x => .inl (key _ x)) (fun x => .inr (key _ x)), Nat.lt_of_lt_of_le h.2 hb.size⟩
theorem wbyte_any (b : Nat) (l : List UInt8) (c : UInt8) (z : Int) (w : World) (hz : z = (c.toNat : Int)) (h : Bu w b l) (hl : l.length ≤ 1000000) : Calls Tryd.prog 32 #[.pointer (some ⟨b, 0, none⟩), .int .u8 z] w fun e w' => e = .returned .nilIface ∧ Bu w' b (l ++ [c]) ∧ Below b w w' :=
  (Tryd.Builder_WriteByte_k b b (Lib.byteCells l) z w h.1 (by simp [Lib.byteCells]; omega) (Nat.le_of_lt h.2)).mono fun e w' ⟨h1, h2, h3, h4⟩ =>
    ⟨h1, ⟨.inr (by subst hz; simpa [Lib.byteCells] using h2), Nat.lt_of_lt_of_le h.2 h3.size⟩, h3⟩
theorem wstr_any (b : Nat) (l : List UInt8) (s : ByteArray) (w : World) (h : Bu w b l) (hl : l.length + s.size ≤ 1000000) : Calls Tryd.prog 33 #[.pointer (some ⟨b, 0, none⟩), .string s] w fun e w' => e = .returned (.tuple #[.int .i64 s.size, .nilIface]) ∧ Bu w' b (l ++ s.data.toList) ∧ Below b w w' :=
  (Tryd.Builder_WriteString_k b b (Lib.byteCells l) s w h.1 (by simp [Lib.byteCells]; omega) (Nat.le_of_lt h.2)).mono fun e w' ⟨h1, h2, h3, h4⟩ =>
    ⟨h1, ⟨.inr (by rw [show Lib.strCells s = Lib.byteCells s.data.toList from rfl] at h2; simpa [Lib.byteCells] using h2), Nat.lt_of_lt_of_le h.2 h3.size⟩, h3⟩
theorem bstr_any (b : Nat) (l : List UInt8) (w : World) (h : Bu w b l) : Calls Tryd.prog 37 #[.pointer (some ⟨b, 0, none⟩)] w fun e w' => e = .returned (.string ⟨l.toArray⟩) ∧ Bu w' b l ∧ Below b w w' :=
  (Tryd.Builder_String_any_k b b l w h.1 (Nat.le_of_lt h.2)).mono fun e w' ⟨h1, h2, h3, h4⟩ => ⟨h1, ⟨h2, Nat.lt_of_lt_of_le h.2 h3.size⟩, h3⟩
set_option maxRecDepth 100000 in
set_option maxHeartbeats 4000000 in
theorem name_a (w : World) : Calls Tryd.prog 35 #[.string (⟨#[97]⟩ : ByteArray)] w fun e w' => e = .returned (.bool true) ∧ w = w' := by
  have z : (⟨#[97]⟩ : ByteArray).size = 1 := rfl
  have c0 : ((⟨#[97]⟩ : ByteArray)[0]'(by decide)).toNat = 97 := rfl
  have t1 := tl_ne (s := (⟨#[97]⟩ : ByteArray)) (by decide)
  have t2 := tl_ne' (s := (⟨#[97]⟩ : ByteArray)) (by decide)
  go_enter Tryd.func35, Tryd.ntmps35
  go_wp2
  refine wp_loop_rounds 2 ?_
  rw [rounds_succ]
  go_wp2
  rw [rounds_succ]
  go_wp2
  go_ret
  exact ⟨rfl, rfl⟩
set_option maxRecDepth 100000 in
set_option maxHeartbeats 4000000 in
theorem name_xy (w : World) : Calls Tryd.prog 35 #[.string (⟨#[120, 32, 121]⟩ : ByteArray)] w fun e w' => e = .returned (.bool false) ∧ w = w' := by
  have z : (⟨#[120, 32, 121]⟩ : ByteArray).size = 3 := rfl
  have c0 : ((⟨#[120, 32, 121]⟩ : ByteArray)[0]'(by decide)).toNat = 120 := rfl
  have c1 : ((⟨#[120, 32, 121]⟩ : ByteArray)[1]'(by decide)).toNat = 32 := rfl
  have c2 : ((⟨#[120, 32, 121]⟩ : ByteArray)[2]'(by decide)).toNat = 121 := rfl
  have t1 := tl_ne (s := (⟨#[120, 32, 121]⟩ : ByteArray)) (by decide)
  have t2 := tl_ne' (s := (⟨#[120, 32, 121]⟩ : ByteArray)) (by decide)
  go_enter Tryd.func35, Tryd.ntmps35
  go_wp2
  refine wp_loop_rounds 2 ?_
  rw [rounds_succ]
  go_wp2
  rw [rounds_succ]
  go_wp2
  go_ret
  exact ⟨rfl, rfl⟩
set_option maxRecDepth 100000 in
set_option maxHeartbeats 4000000 in
theorem esc_xy (w : World) : Calls Tryd.prog 36 #[.string (⟨#[120, 32, 121]⟩ : ByteArray)] w fun e w' => e = .returned (.string (⟨#[120, 32, 121]⟩ : ByteArray)) ∧ Below w.heap.size w w' := by
  have z : (⟨#[120, 32, 121]⟩ : ByteArray).size = 3 := rfl
  have c0 : ((⟨#[120, 32, 121]⟩ : ByteArray)[0]'(by decide)).toNat = 120 := rfl
  have c1 : ((⟨#[120, 32, 121]⟩ : ByteArray)[1]'(by decide)).toNat = 32 := rfl
  have c2 : ((⟨#[120, 32, 121]⟩ : ByteArray)[2]'(by decide)).toNat = 121 := rfl
  have t1 := tl_ne (s := (⟨#[120, 32, 121]⟩ : ByteArray)) (by decide)
  have t2 := tl_ne' (s := (⟨#[120, 32, 121]⟩ : ByteArray)) (by decide)
  have HW := Lib.hid wbyte_any
  have HS := Lib.hid bstr_any
  have B0 := Lib.hid (Bu.new w)
  have bl : Below w.heap.size w (w.alloc (.cells #[.pointer none, .slice none 0 0] 48)) := (Below.refl _ _).alloc (Nat.le_refl _) _
  go_enter Tryd.func36, Tryd.ntmps36
  go_wp2
  refine wp_loop_rounds 4 ?_
  rw [rounds_succ]
  go_wp2_with (go_at_call 32; (refine (HW.out w.heap.size [] 120 _ _ rfl B0.out (by decide)).mono ?_); rintro e w1 ⟨rfl, hB, hX⟩; have B1 := Lib.hid hB; have bl := bl.trans hX; clear hX hB)
  rw [rounds_succ]
  go_wp2_with (go_at_call 32; (refine (HW.out w.heap.size [120] 32 _ _ rfl B1.out (by decide)).mono ?_); rintro e w2 ⟨rfl, hB, hX⟩; have B2 := Lib.hid hB; have bl := bl.trans hX; clear hX hB)
  rw [rounds_succ]
  go_wp2_with (go_at_call 32; (refine (HW.out w.heap.size [120, 32] 121 _ _ rfl B2.out (by decide)).mono ?_); rintro e w3 ⟨rfl, hB, hX⟩; have B3 := Lib.hid hB; have bl := bl.trans hX; clear hX hB)
  rw [rounds_succ]
  go_wp2_with (go_at_call 37; (refine (HS.out w.heap.size [120, 32, 121] _ B3.out).mono ?_); rintro e w4 ⟨rfl, hB, hX⟩; have bl := bl.trans hX; clear hX hB)
  go_ret
  exact ⟨rfl, bl⟩
end Go.Proofs.YtfdfncffogjbdaaDoor.Ps
