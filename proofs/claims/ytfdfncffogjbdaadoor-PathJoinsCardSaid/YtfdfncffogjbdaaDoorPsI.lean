/-
  Package path: lives; the law PathValid.
-/
import Derived.Test.YtfdfncffogjbdaaDoorPsH
namespace Go.Proofs.YtfdfncffogjbdaaDoor.Ps
open Go.RowKit
set_option linter.unusedVariables false
set_option linter.unusedSimpArgs false
open RO

theorem Ss.made (w : World) (L : List St) (h0 : 0 < L.length) (hl : L.length ≤ 100) : Ss (w.alloc (.cells (flat scs L).toArray 26)) (w.heap.size + 1) (.slice (some ⟨w.heap.size, 0, none⟩) L.length L.length) L := by
  refine .inr ⟨w.heap.size, 0, L.length, rfl, Nat.lt_succ_self _, Nat.le_refl _, by unfold maxLen; omega, fun i x j u hi hj => ?_⟩
  have hj' : j < 3 := (List.getElem?_eq_some_iff.1 hj).1
  have := new_row w (flat scs L) 26 (i * 3 + j) u (by rw [flat_get sc_len hi hj']; exact hj)
  have e : (⟨w.heap.size, 0, none⟩ : Addr).add (i * 3 + j) = ⟨w.heap.size, 0 + i * 3 + j, none⟩ := by unfold Addr.add; simp; omega
  rwa [e] at this
theorem ok0 : ∀ d ∈ L0, d.ok := by
  intro d hd
  simp only [L0, List.mem_cons, List.not_mem_nil, or_false] at hd
  rcases hd with rfl | rfl | rfl <;> exact ⟨by decide, by decide, by decide⟩
set_option maxRecDepth 100000 in
set_option maxHeartbeats 8000000 in
theorem equal_any (v1 v2 : Value) (L M : List St) (w : World) (h1 : Ss w w.heap.size v1 L) (h2 : Ss w w.heap.size v2 M) : Calls Tryd.prog 21 #[v1, v2] w fun e w' => e = .returned (.bool (eqL L M)) ∧ Below w.heap.size w w' := by
  have HE := Lib.hid (sequal_any v1 v2 L M w h1 h2)
  clear h1 h2
  go_enter Tryd.func21, Tryd.ntmps21
  go_wp2_with (go_at_call 43; (with_reducible refine (HE.out).mono ?_); rintro e w1 ⟨rfl, hX⟩)
  go_ret
  exact ⟨rfl, hX⟩
set_option maxRecDepth 100000 in
set_option maxHeartbeats 8000000 in
theorem lives_any (w : World) (hT : Utf.Tabs w) (ht : Tb w) : Calls Tryd.prog 9 #[] w fun e w' => e = .returned (.bool true) ∧ Below w.heap.size w w' := by
  have HK := Lib.hid key_any
  have HA := Lib.hid at_any
  have HP := Lib.hid (fun (w' : World) (hb : Below w.heap.size w w') => parse_one w' (hT.below hb) (ht.next hb))
  have HB := Lib.hid (fun (w' : World) (hb : Below w.heap.size w w') => parse_bad w' (hT.below hb) (ht.next hb))
  have HM : Hid (∀ w1 : World, Ss (w1.alloc (.cells #[.bool false, .string ⟨#[97]⟩, .int .i64 0, .bool true, .string ⟨#[]⟩, .int .i64 0, .bool false, .string ⟨#[120, 32, 121]⟩, .int .i64 0] 26)) (w1.alloc (.cells #[.bool false, .string ⟨#[97]⟩, .int .i64 0, .bool true, .string ⟨#[]⟩, .int .i64 0, .bool false, .string ⟨#[120, 32, 121]⟩, .int .i64 0] 26)).heap.size (.slice (some ⟨w1.heap.size, 0, none⟩) 3 3) L0) := Lib.hid (fun w1 => by
    have h := Ss.made w1 L0 (by decide) (by decide)
    rw [show (w1.alloc (.cells #[.bool false, .string ⟨#[97]⟩, .int .i64 0, .bool true, .string ⟨#[]⟩, .int .i64 0, .bool false, .string ⟨#[120, 32, 121]⟩, .int .i64 0] 26)).heap.size = w1.heap.size + 1 by simp]
    exact h)
  have HTX : Hid (∀ (v : Value) (w' : World), Below w.heap.size w w' → Ss w' w'.heap.size v L0 → Calls Tryd.prog 16 #[v] w' fun e w2 => e = .returned (.string (⟨#[46, 97, 91, 48, 93, 46, 34, 120, 32, 121, 34]⟩ : ByteArray)) ∧ Below w'.heap.size w' w2) := Lib.hid (fun v w' hb hv => by
    have h := text_any T0 v L0 w' hv ok0 (by decide) ts0 tl0 (ht.next hb)
    rw [tx0] at h
    exact h)
  have HTN : Hid (∀ (w' : World), Calls Tryd.prog 16 #[.slice none 0 0] w' fun e w2 => e = .returned (.string ⟨#[46]⟩) ∧ Below w'.heap.size w' w2) := Lib.hid (fun w' => text_nil _ w' (.inl ⟨_, _, rfl, rfl⟩))
  have HE : Hid (∀ (v1 v2 : Value) (w' : World), Ss w' w'.heap.size v1 L0 → Ss w' w'.heap.size v2 L0 → Calls Tryd.prog 21 #[v1, v2] w' fun e w2 => e = .returned (.bool true) ∧ Below w'.heap.size w' w2) := Lib.hid (fun v1 v2 w' h1 h2 => by
    have h := equal_any v1 v2 L0 L0 w' h1 h2
    rw [eqL_iff.2 rfl] at h
    exact h)
  have bl := Below.refl w.heap.size w
  clear hT ht
  go_enter Tryd.func9, Tryd.ntmps9
  go_wp2_with (first | (go_at_call 12; (with_reducible refine (HK.out _ _).mono ?_); rintro e w1 ⟨rfl, hX⟩; have bl := bl.trans (hX.mono bl.size); clear hX) | (go_at_call 14; (with_reducible refine (HA.out _ _).mono ?_); rintro e w1 ⟨rfl, hX⟩; have bl := bl.trans (hX.mono bl.size); clear hX) | (go_at_call 17; first | ((with_reducible refine (HP.out _ (bl.alloc bl.size (.cells #[.bool false, .string ⟨#[97]⟩, .int .i64 0, .bool true, .string ⟨#[]⟩, .int .i64 0, .bool false, .string ⟨#[120, 32, 121]⟩, .int .i64 0] 26))).mono ?_); rintro e w2 ⟨v, rfl, hv, hX⟩; have hp : Ss w2 w2.heap.size (.slice (some ⟨w1.heap.size, 0, none⟩) 3 3) L0 := Ss.next (HM.out w1) hX; have bl := (bl.alloc bl.size (.cells #[.bool false, .string ⟨#[97]⟩, .int .i64 0, .bool true, .string ⟨#[]⟩, .int .i64 0, .bool false, .string ⟨#[120, 32, 121]⟩, .int .i64 0] 26)).trans (hX.mono (Nat.le_trans bl.size (by simp))); clear hX) | ((with_reducible refine (HB.out _ bl).mono ?_); rintro e w3 ⟨rfl, hX⟩; have hp := Ss.next hp hX; have hv := Ss.next hv hX; have bl := bl.trans (hX.mono bl.size); clear hX)) | (go_at_call 16; first | ((with_reducible refine (HTX.out _ _ bl hp).mono ?_); rintro e w4 ⟨rfl, hX⟩; have hp := Ss.next hp hX; have hv := Ss.next hv hX; have bl := bl.trans (hX.mono bl.size); clear hX) | ((with_reducible refine (HTN.out _).mono ?_); rintro e w4 ⟨rfl, hX⟩; have bl := bl.trans (hX.mono bl.size); clear hX)) | (go_at_call 21; (with_reducible refine (HE.out _ _ _ hp hv).mono ?_); rintro e w5 ⟨rfl, hX⟩; have bl := bl.trans (hX.mono bl.size); clear hX))
  go_ret
  exact ⟨rfl, bl⟩
set_option maxRecDepth 100000 in
set_option maxHeartbeats 8000000 in
theorem valid_walk (a : Option Addr) (n cap : Nat) (s : ByteArray) (x : Int) (w : World) (hT : Utf.Tabs w) (ht : Tb w) {L : List St} (h : L.length = n ∧ Ss w w.heap.size (.slice a n cap) L ∧ ∀ d ∈ L, d.ok) : Calls Tryd.prog 3 #[.slice a n cap, .string s, .int .i64 x] w fun e w' => e = .returned (.bool true) ∧ Below w.heap.size w w' := by
  obtain ⟨hn, hv, hok⟩ := h
  have HL := Lib.hid (fun (w' : World) (hb : Below w.heap.size w w') => lives_any w' (hT.below hb) (ht.next hb))
  have HV := Lib.hid (fun (w' : World) (hb : Below w.heap.size w w') => pvalid_any _ L w' (hv.below hb |>.mono hb.size) hok (hT.below hb))
  have HRV := Lib.hid (fun (w' : World) (hb : Below w.heap.size w w') => rpvalid_any _ L w' (hv.below hb |>.mono hb.size) hok)
  have HK := Lib.hid key_any
  have HA := Lib.hid at_any
  have HRK := Lib.hid rkey_any
  have HRA := Lib.hid rat_any
  have bl := Below.refl w.heap.size w
  obtain ⟨_, _, _, hn9⟩ := Rd.slice hv hn
  by_cases h1 : 100 < n
  · clear hT ht hv hok hn
    go_enter Tryd.func3, Tryd.ntmps3
    go_wp2_with (go_at_call 9; (with_reducible refine (HL.out _ bl).mono ?_); rintro e w1 ⟨rfl, hX⟩; have bl := bl.trans (hX.mono bl.size); clear hX)
    go_ret
    exact ⟨rfl, bl⟩
  · clear hT ht hv hok hn
    generalize pvB L = pv at *
    go_enter Tryd.func3, Tryd.ntmps3
    go_wp2_with (first | (go_at_call 10; (with_reducible refine (HV.out _ bl).mono ?_); rintro e w1 ⟨rfl, hX⟩; have bl := bl.trans (hX.mono bl.size); clear hX) | (go_at_call 11; (with_reducible refine (HRV.out _ bl).mono ?_); rintro e w1 ⟨rfl, hX⟩; have bl := bl.trans (hX.mono bl.size); clear hX) | (go_at_call 12; (with_reducible refine (HK.out _ _).mono ?_); rintro e w1 ⟨rfl, hX⟩; have bl := bl.trans (hX.mono bl.size); clear hX) | (go_at_call 14; (with_reducible refine (HA.out _ _).mono ?_); rintro e w1 ⟨rfl, hX⟩; have bl := bl.trans (hX.mono bl.size); clear hX) | (go_at_call 13; (with_reducible refine (HRK.out _ _).mono ?_); rintro e w1 ⟨rfl, hX⟩; have bl := bl.trans (hX.mono bl.size); clear hX) | (go_at_call 15; (with_reducible refine (HRA.out _ _).mono ?_); rintro e w1 ⟨rfl, hX⟩; have bl := bl.trans (hX.mono bl.size); clear hX) | (go_at_call 9; (with_reducible refine (HL.out _ bl).mono ?_); rintro e w1 ⟨rfl, hX⟩; have bl := bl.trans (hX.mono bl.size); clear hX))
    go_ret
    exact ⟨rfl, bl⟩
end Go.Proofs.YtfdfncffogjbdaaDoor.Ps
