/-
  The laws' walks: BaseHexes, BaseEncodes, BaseDecodes.
-/
import Derived.Test.YtacmallcfaokpaaBasI
import Derived.Test.YtacmallcfaokpaaRow
namespace Go.Proofs.Ytacmallcfaokpaa.Bas
open Go.RowKit
set_option linter.unusedVariables false
set_option linter.unusedSimpArgs false

theorem same_t {v u : Value} {l : List UInt8} {w : World} {B C : Nat} (hv : Bs w B v l) (hu : Bs w C u l) : Calls Try.prog 15 #[v, u] w fun e w' => e = .returned (.bool true) ∧ w = w' := by
  have c1 := hv.conv 9 Try.underlying9
  have c2 := hu.conv 9 Try.underlying9
  go_enter Try.func15, Try.ntmps15
  go_wp2
  go_ret
  exact ⟨rfl, rfl⟩
theorem lit_bs (w : World) (l : List UInt8) (h : 0 < l.length) (hm : l.length ≤ 1000) : Bs (w.alloc (.cells (bc l).toArray 5)) (w.alloc (.cells (bc l).toArray 5)).heap.size (.slice (some ⟨w.heap.size, 0, none⟩) l.length l.length) l := by
  refine .inr ⟨w.heap.size, 0, l.length, rfl, by simp, Nat.le_refl _, by unfold maxLen; omega, fun i hi => ?_⟩
  have := new_row w (bc l) 5 i (.int .u8 (l.getD i 0).toNat) (by unfold bc; rw [List.getElem?_map, List.getElem?_eq_getElem hi, List.getD_eq_getElem?_getD, List.getElem?_eq_getElem hi]; rfl)
  have e : (⟨w.heap.size, 0, none⟩ : Addr).add i = ⟨w.heap.size, 0 + i, none⟩ := by unfold Addr.add; simp; omega
  rwa [e] at this
theorem lit_hex (w : World) : Calls Try.prog 13 #[.slice (some ⟨w.heap.size, 0, none⟩) 2 2] (w.alloc (.cells #[.int .u8 0, .int .u8 171] 5)) fun e w' => e = .returned (.string ⟨#[48, 48, 97, 98]⟩) ∧ Below w.heap.size w w' := by
  have h := lit_bs w [0, 171] (by decide) (by decide)
  refine (hex_any _ _ _ h (by decide)).mono fun e w' ⟨he, hb⟩ => ⟨by rw [he]; rfl, ?_⟩
  exact ((Below.refl _ _).alloc (Nat.le_refl _) _).trans (hb.mono (by simp))
theorem lit_enc (w : World) : Calls Try.prog 16 #[.slice (some ⟨w.heap.size, 0, none⟩) 1 1, .bool false] (w.alloc (.cells #[.int .u8 255] 5)) fun e w' => e = .returned (.string ⟨#[47, 119]⟩) ∧ Below w.heap.size w w' := by
  have h := lit_bs w [255] (by decide) (by decide)
  refine (enc_any _ _ false _ h (by decide)).mono fun e w' ⟨he, hb⟩ => ⟨by rw [he]; rfl, ?_⟩
  exact ((Below.refl _ _).alloc (Nat.le_refl _) _).trans (hb.mono (by simp))
theorem lit_dec (w : World) : Calls Try.prog 20 #[.string ⟨#[65, 81, 73, 61]⟩, .bool true] w fun e w' => ∃ v, e = .returned (.tuple #[v, .int .i64 0]) ∧ Below w.heap.size w w' ∧ Bs w' w'.heap.size v [1, 2] := by
  have h1 : decE [65, 81, 73, 61] true = 0 := by decide +kernel
  have h2 : decR [65, 81, 73, 61] true = [1, 2] := by decide +kernel
  refine (dec_any ⟨#[65, 81, 73, 61]⟩ true w (by decide)).mono fun e w' ⟨v, he, hb, hv⟩ => ⟨v, ?_, hb, ?_⟩
  · rw [he]
    show Ending.returned (.tuple #[v, .int .i64 (decE [65, 81, 73, 61] true)]) = _
    rw [h1]
  · have hv : Bs w' w'.heap.size v (decR [65, 81, 73, 61] true) := hv
    rwa [h2] at hv
set_option maxRecDepth 100000 in
set_option maxHeartbeats 1000000 in
theorem awake_any (w : World) : Calls Try.prog 10 #[] w fun e w' => e = .returned (.bool true) ∧ Below w.heap.size w w' := by
  go_enter Try.func10, Try.ntmps10
  go_wp2_with (first | (go_at_call 20; (with_reducible refine (lit_dec _).mono ?_); rintro e w1 ⟨v, rfl, hb1, hv⟩; have HV := Lib.hid hv; clear hv) | (go_at_call 13; (with_reducible refine (lit_hex _).mono ?_); rintro e w2 ⟨rfl, hb2⟩) | (go_at_call 16; (with_reducible refine (lit_enc _).mono ?_); rintro e w3 ⟨rfl, hb3⟩; have hcv := ((HV.out.below hb2).mono hb2.size |>.below hb3).conv 9 Try.underlying9))
  go_ret
  exact ⟨rfl, bthen (bthen hb1 hb2) hb3⟩
/-- The bytes of a slice that came in. -/
def bl (z : List Int) (n : Nat) : List UInt8 := (z.take n).map fun x => x.toNat.toUInt8
theorem bs_row {W : World} {a : Option Addr} {n cap : Nat} {z : List Int} (h : IsRow .u8 W a n cap z) : Bs W W.heap.size (.slice a n cap) (bl z n) ∧ (bl z n).length = n := by
  rcases h with ⟨rfl, rfl, rfl, rfl⟩ | ⟨x, rfl, hl, hm, hz, hcell, hwz⟩
  · exact ⟨.inl ⟨_, _, rfl, rfl⟩, rfl⟩
  · have hlen : (bl z n).length = n := by unfold bl; rw [List.length_map, List.length_take]; omega
    refine ⟨?_, hlen⟩
    rcases Nat.eq_zero_or_pos n with h0 | h0
    · subst h0
      exact .inl ⟨_, _, rfl, List.length_eq_zero_iff.1 hlen⟩
    · obtain ⟨b, off, v, hx, hb, _, _⟩ := IsRow.at_ (.inr ⟨x, rfl, hl, hm, hz, hcell, hwz⟩) h0
      obtain rfl : x = ⟨b, off, none⟩ := Option.some.inj hx
      refine .inr ⟨b, off, cap, by rw [hlen], hb, by rw [hlen]; exact hl, hm, fun i hi => ?_⟩
      rw [hlen] at hi
      have hc := hcell i (by omega)
      have e : (⟨b, off, none⟩ : Addr).add i = ⟨b, off + i, none⟩ := by unfold Addr.add; split <;> simp_all
      rw [e] at hc
      rw [hc]
      have hwf := hwz (z.getD i 0) (by rw [List.getD_eq_getElem?_getD, List.getElem?_eq_getElem (by omega)]; exact List.getElem_mem _)
      unfold bl
      rw [List.getD_eq_getElem?_getD (l := List.map _ _), List.getElem?_map, List.getElem?_take_of_lt hi, List.getElem?_eq_getElem (show i < z.length by omega)]
      rw [List.getD_eq_getElem?_getD, List.getElem?_eq_getElem (show i < z.length by omega)] at hwf ⊢
      have hb := bounds_u8 hwf
      simp only [Option.getD_some, Option.map_some] at hb ⊢
      congr 2
      show z[i] = ((z[i].toNat % 256 : Nat) : Int)
      omega
theorem bl_len {W : World} {a : Option Addr} {n cap : Nat} {z : List Int} (h : IsRow .u8 W a n cap z) : n ≤ 9223372036854775807 := by
  have := h.len_le; unfold maxLen at this; omega
set_option maxRecDepth 100000 in
set_option maxHeartbeats 4000000 in
theorem hexes_walk (a : Option Addr) (n cap : Nat) (z : List Int) (s : ByteArray) (W : World) (hr : IsRow .u8 W a n cap z) (hs : s.size ≤ 9223372036854775807) : Calls Try.prog 3 #[.slice a n cap, .string s] W fun e w' => e = .returned (.bool true) ∧ Below W.heap.size W w' := by
  have hn := bl_len hr
  obtain ⟨hv, hlen⟩ := bs_row hr
  obtain ⟨l, hl⟩ : ∃ l, bl z n = l := ⟨_, rfl⟩
  rw [hl] at hv hlen
  have HV := Lib.hid hv
  have HL := Lib.hid hlen
  clear hv hl hr hlen
  by_cases h1 : 3000 < n
  · go_enter Try.func3, Try.ntmps3
    go_wp2_with (go_at_call 10; (with_reducible refine (awake_any _).mono ?_); rintro e w1 ⟨rfl, hb1⟩)
    go_ret
    exact ⟨rfl, hb1⟩
  by_cases h2 : 3000 < s.size
  · go_enter Try.func3, Try.ntmps3
    go_wp2_with (go_at_call 10; (with_reducible refine (awake_any _).mono ?_); rintro e w1 ⟨rfl, hb1⟩)
    go_ret
    exact ⟨rfl, hb1⟩
  have HL4 : Hid (l.length ≤ 4000) := Lib.hid (by rw [HL.out]; omega)
  go_enter Try.func3, Try.ntmps3
  go_wp2_with (first
    | (go_at_call 11; (with_reducible refine (unhex_any s _ (by omega)).mono ?_); rintro e w1 ⟨v1, rfl, hb1, hv1⟩; have HV1 := Lib.hid hv1; have HVa := Lib.hid ((HV.out.below hb1).mono hb1.size); clear hv1)
    | (go_at_call 12; (with_reducible refine (runhex_any s _ (by omega)).mono ?_); rintro e w2 ⟨v2, rfl, hb2, hv2⟩; have HV2 := Lib.hid hv2; have HV1b := Lib.hid ((HV1.out.below hb2).mono hb2.size); have HVb := Lib.hid ((HVa.out.below hb2).mono hb2.size); clear hv2)
    | (go_at_call 13; (with_reducible refine (hex_any _ l _ HVb.out HL4.out).mono ?_); rintro e w3 ⟨rfl, hb3⟩; have HVc := Lib.hid ((HVb.out.below hb3).mono hb3.size))
    | (go_at_call 14; (with_reducible refine (rhex_any _ l _ HVc.out HL4.out).mono ?_); rintro e w4 ⟨rfl, hb4⟩; have hb34 := bthen hb3 hb4)
    | (go_at_call 15; (with_reducible refine (same_t (HV1b.out.below hb34) (HV2.out.below hb34)).mono ?_); rintro e w5 ⟨rfl, rfl⟩)
    | (go_at_call 10; (with_reducible refine (awake_any _).mono ?_); rintro e w6 ⟨rfl, hb6⟩))
  go_ret
  exact ⟨rfl, bthen (bthen (bthen hb1 hb2) hb34) hb6⟩
end Go.Proofs.Ytacmallcfaokpaa.Bas
