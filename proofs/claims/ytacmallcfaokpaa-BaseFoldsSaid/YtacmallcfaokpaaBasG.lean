/-
  Contracts of package base: base64 read.
-/
import Derived.Test.YtacmallcfaokpaaBasF
namespace Go.Proofs.Ytacmallcfaokpaa.Bas
open Go.RowKit
set_option linter.unusedVariables false
set_option linter.unusedSimpArgs false

theorem ib6_isx {s : ByteArray} {k : Nat} {w : World} {x : Int} (h : k < s.size) (hx : Hid (dv (s.data.toList.getD k 0) = x)) : Calls Try.prog 24 #[.string ⟨#[65, 66, 67, 68, 69, 70, 71, 72, 73, 74, 75, 76, 77, 78, 79, 80, 81, 82, 83, 84, 85, 86, 87, 88, 89, 90, 97, 98, 99, 100, 101, 102, 103, 104, 105, 106, 107, 108, 109, 110, 111, 112, 113, 114, 115, 116, 117, 118, 119, 120, 121, 122, 48, 49, 50, 51, 52, 53, 54, 55, 56, 57, 43, 47]⟩, .int .u8 (s[k].toNat)] w fun e w' => e = .returned (.int .i64 x) ∧ w = w' := ib6_is h hx
theorem whole_is {s : List UInt8} {k q r B : Nat} (hn : ne s = k) (hqr : 8 * q + r = 6 * k) (hr : r < 8) (hB : vl (fb s) (8 * q) r = B) : whole (dsL s) = (decide (k % 4 ≠ 1) && decide (B = 0)) := by
  subst hn
  unfold whole
  rw [dsL_len, rest_fb s q r hqr hr, hB]
theorem decE_pad {s : List UInt8} {pad : Bool} {k : Nat} (hn : ne s = k) (hk : k < s.length) : decE s pad = padE (s.drop k) (pad && whole (dsL s) && decide (k % 4 ≠ 0)) (4 - k % 4) := by
  subst hn
  unfold decE padE
  rw [if_neg (by omega)]
theorem decE_end {s : List UInt8} {pad : Bool} {k : Nat} (hn : ne s = k) (hk : k = s.length) : decE s pad = if (whole (dsL s) && (!pad || decide (k % 4 = 0))) = true then 0 else 4 := by
  subst hn
  unfold decE
  rw [if_pos hk]
theorem gb_is {s : List UInt8} {k q r : Nat} (hn : ne s = k) (hqr : 8 * q + r = 6 * k) (hr : r < 8) : by8 (dsL s) = gb s q := by
  subst hn
  rw [← gb_by8]
  congr 1; omega
theorem padded_is {v vr : Value} {l : List UInt8} {p : ByteArray} {may : Bool} {n : Nat} {y E : Int} {w : World} (hv : Bs w w.heap.size v l) (hn : n ≤ 4) (hp : p.size ≤ 8000) (hy : y = (n : Int)) (hE : Hid (padE p.data.toList may n = E)) (hvr : Hid ((if E = 0 then v else .slice none 0 0) = vr)) : Calls Try.prog 27 #[v, .string p, .bool may, .int .i64 y] w fun e w' => e = .returned (.tuple #[vr, .int .i64 E]) ∧ Below w.heap.size w w' := by
  subst hy
  have := padded_any v l p may n w hv hn hp
  rwa [hE.out, hvr.out] at this
theorem ext_list (s : ByteArray) {k e : Nat} : (s.extract k e).data.toList = (s.data.toList.drop k).take (e - k) := Lib.extract_data s k e
theorem ext_drop (s : ByteArray) (k : Nat) : (s.extract k s.size).data.toList = s.data.toList.drop k := by
  rw [ext_list, List.take_of_length_le]
  rw [List.length_drop, size_list]; omega
theorem ext_ne {s : ByteArray} {k : Nat} (h : k < s.size) : (s.extract k s.size).toList.isEmpty = false := by
  cases e : (s.extract k s.size).toList.isEmpty with
  | false => rfl
  | true =>
    have h2 : (s.extract k s.size).toList = [] := by simpa using e
    rw [toList_data, ext_drop] at h2
    have h3 := congrArg List.length h2
    rw [List.length_drop, size_list] at h3
    simp at h3; omega
theorem nil_bs (w : World) (B : Nat) : Bs w B (.slice none 0 0) [] := .inl ⟨_, _, rfl, rfl⟩
theorem dec_fin {s : List UInt8} {pad : Bool} {q : Nat} {v vr : Value} {E : Int} {w w1 w2 : World} (hE : decE s pad = E) (hG : by8 (dsL s) = gb s q) (hvr : (if E = 0 then v else .slice none 0 0) = vr) (hb : Below w.heap.size w w1) (hb1 : Below w1.heap.size w1 w2) (hB : Bs w1 w1.heap.size v (gb s q)) : DecPost s pad w (.returned (.tuple #[vr, .int .i64 E])) w2 := by
  refine ⟨vr, by rw [hE], bthen hb hb1, ?_⟩
  unfold decR
  rw [hE, ← hvr, hG]
  by_cases h : E = 0
  · rw [if_pos h, if_pos h]
    exact (hB.below hb1).mono hb1.size
  · rw [if_neg h, if_neg h]
    exact nil_bs _ _
set_option maxRecDepth 100000 in
set_option maxHeartbeats 4000000 in
theorem dec_any (s : ByteArray) (pad : Bool) (w : World) (hs : s.size ≤ 8000) : Calls Try.prog 20 #[.string s, .bool pad] w (DecPost s.data.toList pad w) := by
  have hmk : ∀ w : World, (Instr.makeSlice 22 (.int .i64 0) (.int .i64 ((s.size : Int) / 4 * 3 + 2))).run Try.prog w = .ok (.slice (some ⟨w.heap.size, 0, none⟩) 0 (s.size / 4 * 3 + 2)) (w.alloc (.cells (madeCells #[.int .u8 0] (s.size / 4 * 3 + 2)) 5)) := fun w => mk_room (s.size / 4 * 3 + 2) (by omega) w
  go_enter Try.func20, Try.ntmps20
  go_wp2
  go_loopw [6, 7, 8, 9] (fun t b m i wr => ∃ k q r : Nat, k ≤ s.size ∧ i = .int .i64 k ∧ 8 * q + r = 6 * k ∧ r < 8 ∧ m = .int .i64 r ∧ b = .int .i64 (vl (fb s.data.toList) (8 * q) r : Nat) ∧ Hid (∀ j, j < k → 0 ≤ dv (s.data.toList.getD j 0)) ∧ Below w.heap.size w wr ∧ w.heap.size ≤ wr.heap.size ∧ Hid (Buf wr w.heap.size t (gb s.data.toList q))) (fun _ _ _ i _ => s.size - (intOf i).toNat)
  case atStart => exact ⟨0, 0, 0, by omega, rfl, rfl, by omega, rfl, rfl, Lib.hid fun j hj => by omega, (Below.refl _ _).alloc (Nat.le_refl _) _, by simp, Lib.hid (Buf.room w _ (by omega))⟩
  case round =>
    obtain ⟨k, q, r, hk, rfl, hqr, hr8, rfl, rfl, HA, hb, hbs, HB⟩ := hrel
    by_cases hlt : k < s.size
    · obtain ⟨x, hx⟩ : ∃ x, Hid (dv (s.data.toList.getD k 0) = x) := ⟨_, Lib.hid rfl⟩
      have hx1 := dv_lt (s.data.toList.getD k 0)
      rw [hx.out] at hx1
      by_cases hn : x < 0
      · have HN : Hid (ne s.data.toList = k) := Lib.hid (ne_of (by rw [size_list]; omega) HA.out (fun _ => by rw [hx.out]; exact hn))
        obtain ⟨B, HBv⟩ : ∃ B, Hid (vl (fb s.data.toList) (8 * q) r = B) := ⟨_, Lib.hid rfl⟩
        have HW := Lib.hid (whole_is HN.out hqr hr8 HBv.out)
        have HG := Lib.hid (gb_is HN.out hqr hr8)
        have HE := Lib.hid (decE_pad (pad := pad) HN.out (by rw [size_list]; exact hlt))
        rw [HBv.out]
        have hne := ext_ne hlt
        have hes : (s.extract k s.size).size ≤ 8000 := by rw [ByteArray.size_extract]; omega
        have HBs := Lib.hid HB.out.bs
        have HED := Lib.hid (ext_drop s k)
        rcases (show k % 4 = 0 ∨ k % 4 = 1 ∨ k % 4 = 2 ∨ k % 4 = 3 by omega) with hc | hc | hc | hc
        · have hc2 : (k : Int) % 4 = 0 := by omega
          by_cases h0 : B = 0
          · have hb0 : ((B : Int) == 0) = true := by rw [h0]; rfl
            have HW2 : Hid (whole (dsL s.data.toList) = true) := Lib.hid (by rw [HW.out]; simp [hc, h0])
            clear h0
            cases pad
            · obtain ⟨E, hE⟩ : ∃ E, Hid (padE (s.extract k s.size).data.toList false 4 = E) := ⟨_, Lib.hid rfl⟩
              obtain ⟨vr, hvr⟩ : ∃ vr, Hid ((if E = 0 then u6 else .slice none 0 0) = vr) := ⟨_, Lib.hid rfl⟩
              have HE2 : Hid (decE s.data.toList false = E) := Lib.hid (by rw [HE.out, HW2.out, ← hE.out, HED.out]; simp [hc])
              clear hc
              go_wp2_with (first | (go_at_call 24; (with_reducible refine (ib6_isx hlt hx).mono ?_); rintro e w1 ⟨rfl, rfl⟩) | (go_at_call 27; (with_reducible refine (padded_is (n := 4) HBs.out (by decide) hes (by omega) hE hvr).mono ?_); rintro e w1 ⟨rfl, hb1⟩))
              go_ret2
              exact dec_fin HE2.out HG.out hvr.out hb hb1 HBs.out
            · obtain ⟨E, hE⟩ : ∃ E, Hid (padE (s.extract k s.size).data.toList false 4 = E) := ⟨_, Lib.hid rfl⟩
              obtain ⟨vr, hvr⟩ : ∃ vr, Hid ((if E = 0 then u6 else .slice none 0 0) = vr) := ⟨_, Lib.hid rfl⟩
              have HE2 : Hid (decE s.data.toList true = E) := Lib.hid (by rw [HE.out, HW2.out, ← hE.out, HED.out]; simp [hc])
              clear hc
              go_wp2_with (first | (go_at_call 24; (with_reducible refine (ib6_isx hlt hx).mono ?_); rintro e w1 ⟨rfl, rfl⟩) | (go_at_call 27; (with_reducible refine (padded_is (n := 4) HBs.out (by decide) hes (by omega) hE hvr).mono ?_); rintro e w1 ⟨rfl, hb1⟩))
              go_ret2
              exact dec_fin HE2.out HG.out hvr.out hb hb1 HBs.out
          · have hb0 : ((B : Int) == 0) = false := by rw [beq_eq_false_iff_ne]; omega
            have HW2 : Hid (whole (dsL s.data.toList) = false) := Lib.hid (by rw [HW.out]; simp [hc, h0])
            clear h0
            cases pad
            · obtain ⟨E, hE⟩ : ∃ E, Hid (padE (s.extract k s.size).data.toList false 4 = E) := ⟨_, Lib.hid rfl⟩
              obtain ⟨vr, hvr⟩ : ∃ vr, Hid ((if E = 0 then u6 else .slice none 0 0) = vr) := ⟨_, Lib.hid rfl⟩
              have HE2 : Hid (decE s.data.toList false = E) := Lib.hid (by rw [HE.out, HW2.out, ← hE.out, HED.out]; simp [hc])
              clear hc
              go_wp2_with (first | (go_at_call 24; (with_reducible refine (ib6_isx hlt hx).mono ?_); rintro e w1 ⟨rfl, rfl⟩) | (go_at_call 27; (with_reducible refine (padded_is (n := 4) HBs.out (by decide) hes (by omega) hE hvr).mono ?_); rintro e w1 ⟨rfl, hb1⟩))
              go_ret2
              exact dec_fin HE2.out HG.out hvr.out hb hb1 HBs.out
            · obtain ⟨E, hE⟩ : ∃ E, Hid (padE (s.extract k s.size).data.toList false 4 = E) := ⟨_, Lib.hid rfl⟩
              obtain ⟨vr, hvr⟩ : ∃ vr, Hid ((if E = 0 then u6 else .slice none 0 0) = vr) := ⟨_, Lib.hid rfl⟩
              have HE2 : Hid (decE s.data.toList true = E) := Lib.hid (by rw [HE.out, HW2.out, ← hE.out, HED.out]; simp [hc])
              clear hc
              go_wp2_with (first | (go_at_call 24; (with_reducible refine (ib6_isx hlt hx).mono ?_); rintro e w1 ⟨rfl, rfl⟩) | (go_at_call 27; (with_reducible refine (padded_is (n := 4) HBs.out (by decide) hes (by omega) hE hvr).mono ?_); rintro e w1 ⟨rfl, hb1⟩))
              go_ret2
              exact dec_fin HE2.out HG.out hvr.out hb hb1 HBs.out
        · have hc2 : (k : Int) % 4 = 1 := by omega
          by_cases h0 : B = 0
          · have hb0 : ((B : Int) == 0) = true := by rw [h0]; rfl
            have HW2 : Hid (whole (dsL s.data.toList) = false) := Lib.hid (by rw [HW.out]; simp [hc, h0])
            clear h0
            cases pad
            · obtain ⟨E, hE⟩ : ∃ E, Hid (padE (s.extract k s.size).data.toList false 3 = E) := ⟨_, Lib.hid rfl⟩
              obtain ⟨vr, hvr⟩ : ∃ vr, Hid ((if E = 0 then u6 else .slice none 0 0) = vr) := ⟨_, Lib.hid rfl⟩
              have HE2 : Hid (decE s.data.toList false = E) := Lib.hid (by rw [HE.out, HW2.out, ← hE.out, HED.out]; simp [hc])
              clear hc
              go_wp2_with (first | (go_at_call 24; (with_reducible refine (ib6_isx hlt hx).mono ?_); rintro e w1 ⟨rfl, rfl⟩) | (go_at_call 27; (with_reducible refine (padded_is (n := 3) HBs.out (by decide) hes (by omega) hE hvr).mono ?_); rintro e w1 ⟨rfl, hb1⟩))
              go_ret2
              exact dec_fin HE2.out HG.out hvr.out hb hb1 HBs.out
            · obtain ⟨E, hE⟩ : ∃ E, Hid (padE (s.extract k s.size).data.toList false 3 = E) := ⟨_, Lib.hid rfl⟩
              obtain ⟨vr, hvr⟩ : ∃ vr, Hid ((if E = 0 then u6 else .slice none 0 0) = vr) := ⟨_, Lib.hid rfl⟩
              have HE2 : Hid (decE s.data.toList true = E) := Lib.hid (by rw [HE.out, HW2.out, ← hE.out, HED.out]; simp [hc])
              clear hc
              go_wp2_with (first | (go_at_call 24; (with_reducible refine (ib6_isx hlt hx).mono ?_); rintro e w1 ⟨rfl, rfl⟩) | (go_at_call 27; (with_reducible refine (padded_is (n := 3) HBs.out (by decide) hes (by omega) hE hvr).mono ?_); rintro e w1 ⟨rfl, hb1⟩))
              go_ret2
              exact dec_fin HE2.out HG.out hvr.out hb hb1 HBs.out
          · have hb0 : ((B : Int) == 0) = false := by rw [beq_eq_false_iff_ne]; omega
            have HW2 : Hid (whole (dsL s.data.toList) = false) := Lib.hid (by rw [HW.out]; simp [hc, h0])
            clear h0
            cases pad
            · obtain ⟨E, hE⟩ : ∃ E, Hid (padE (s.extract k s.size).data.toList false 3 = E) := ⟨_, Lib.hid rfl⟩
              obtain ⟨vr, hvr⟩ : ∃ vr, Hid ((if E = 0 then u6 else .slice none 0 0) = vr) := ⟨_, Lib.hid rfl⟩
              have HE2 : Hid (decE s.data.toList false = E) := Lib.hid (by rw [HE.out, HW2.out, ← hE.out, HED.out]; simp [hc])
              clear hc
              go_wp2_with (first | (go_at_call 24; (with_reducible refine (ib6_isx hlt hx).mono ?_); rintro e w1 ⟨rfl, rfl⟩) | (go_at_call 27; (with_reducible refine (padded_is (n := 3) HBs.out (by decide) hes (by omega) hE hvr).mono ?_); rintro e w1 ⟨rfl, hb1⟩))
              go_ret2
              exact dec_fin HE2.out HG.out hvr.out hb hb1 HBs.out
            · obtain ⟨E, hE⟩ : ∃ E, Hid (padE (s.extract k s.size).data.toList false 3 = E) := ⟨_, Lib.hid rfl⟩
              obtain ⟨vr, hvr⟩ : ∃ vr, Hid ((if E = 0 then u6 else .slice none 0 0) = vr) := ⟨_, Lib.hid rfl⟩
              have HE2 : Hid (decE s.data.toList true = E) := Lib.hid (by rw [HE.out, HW2.out, ← hE.out, HED.out]; simp [hc])
              clear hc
              go_wp2_with (first | (go_at_call 24; (with_reducible refine (ib6_isx hlt hx).mono ?_); rintro e w1 ⟨rfl, rfl⟩) | (go_at_call 27; (with_reducible refine (padded_is (n := 3) HBs.out (by decide) hes (by omega) hE hvr).mono ?_); rintro e w1 ⟨rfl, hb1⟩))
              go_ret2
              exact dec_fin HE2.out HG.out hvr.out hb hb1 HBs.out
        · have hc2 : (k : Int) % 4 = 2 := by omega
          by_cases h0 : B = 0
          · have hb0 : ((B : Int) == 0) = true := by rw [h0]; rfl
            have HW2 : Hid (whole (dsL s.data.toList) = true) := Lib.hid (by rw [HW.out]; simp [hc, h0])
            clear h0
            cases pad
            · obtain ⟨E, hE⟩ : ∃ E, Hid (padE (s.extract k s.size).data.toList false 2 = E) := ⟨_, Lib.hid rfl⟩
              obtain ⟨vr, hvr⟩ : ∃ vr, Hid ((if E = 0 then u6 else .slice none 0 0) = vr) := ⟨_, Lib.hid rfl⟩
              have HE2 : Hid (decE s.data.toList false = E) := Lib.hid (by rw [HE.out, HW2.out, ← hE.out, HED.out]; simp [hc])
              clear hc
              go_wp2_with (first | (go_at_call 24; (with_reducible refine (ib6_isx hlt hx).mono ?_); rintro e w1 ⟨rfl, rfl⟩) | (go_at_call 27; (with_reducible refine (padded_is (n := 2) HBs.out (by decide) hes (by omega) hE hvr).mono ?_); rintro e w1 ⟨rfl, hb1⟩))
              go_ret2
              exact dec_fin HE2.out HG.out hvr.out hb hb1 HBs.out
            · obtain ⟨E, hE⟩ : ∃ E, Hid (padE (s.extract k s.size).data.toList true 2 = E) := ⟨_, Lib.hid rfl⟩
              obtain ⟨vr, hvr⟩ : ∃ vr, Hid ((if E = 0 then u6 else .slice none 0 0) = vr) := ⟨_, Lib.hid rfl⟩
              have HE2 : Hid (decE s.data.toList true = E) := Lib.hid (by rw [HE.out, HW2.out, ← hE.out, HED.out]; simp [hc])
              clear hc
              go_wp2_with (first | (go_at_call 24; (with_reducible refine (ib6_isx hlt hx).mono ?_); rintro e w1 ⟨rfl, rfl⟩) | (go_at_call 27; (with_reducible refine (padded_is (n := 2) HBs.out (by decide) hes (by omega) hE hvr).mono ?_); rintro e w1 ⟨rfl, hb1⟩))
              go_ret2
              exact dec_fin HE2.out HG.out hvr.out hb hb1 HBs.out
          · have hb0 : ((B : Int) == 0) = false := by rw [beq_eq_false_iff_ne]; omega
            have HW2 : Hid (whole (dsL s.data.toList) = false) := Lib.hid (by rw [HW.out]; simp [hc, h0])
            clear h0
            cases pad
            · obtain ⟨E, hE⟩ : ∃ E, Hid (padE (s.extract k s.size).data.toList false 2 = E) := ⟨_, Lib.hid rfl⟩
              obtain ⟨vr, hvr⟩ : ∃ vr, Hid ((if E = 0 then u6 else .slice none 0 0) = vr) := ⟨_, Lib.hid rfl⟩
              have HE2 : Hid (decE s.data.toList false = E) := Lib.hid (by rw [HE.out, HW2.out, ← hE.out, HED.out]; simp [hc])
              clear hc
              go_wp2_with (first | (go_at_call 24; (with_reducible refine (ib6_isx hlt hx).mono ?_); rintro e w1 ⟨rfl, rfl⟩) | (go_at_call 27; (with_reducible refine (padded_is (n := 2) HBs.out (by decide) hes (by omega) hE hvr).mono ?_); rintro e w1 ⟨rfl, hb1⟩))
              go_ret2
              exact dec_fin HE2.out HG.out hvr.out hb hb1 HBs.out
            · obtain ⟨E, hE⟩ : ∃ E, Hid (padE (s.extract k s.size).data.toList false 2 = E) := ⟨_, Lib.hid rfl⟩
              obtain ⟨vr, hvr⟩ : ∃ vr, Hid ((if E = 0 then u6 else .slice none 0 0) = vr) := ⟨_, Lib.hid rfl⟩
              have HE2 : Hid (decE s.data.toList true = E) := Lib.hid (by rw [HE.out, HW2.out, ← hE.out, HED.out]; simp [hc])
              clear hc
              go_wp2_with (first | (go_at_call 24; (with_reducible refine (ib6_isx hlt hx).mono ?_); rintro e w1 ⟨rfl, rfl⟩) | (go_at_call 27; (with_reducible refine (padded_is (n := 2) HBs.out (by decide) hes (by omega) hE hvr).mono ?_); rintro e w1 ⟨rfl, hb1⟩))
              go_ret2
              exact dec_fin HE2.out HG.out hvr.out hb hb1 HBs.out
        · have hc2 : (k : Int) % 4 = 3 := by omega
          by_cases h0 : B = 0
          · have hb0 : ((B : Int) == 0) = true := by rw [h0]; rfl
            have HW2 : Hid (whole (dsL s.data.toList) = true) := Lib.hid (by rw [HW.out]; simp [hc, h0])
            clear h0
            cases pad
            · obtain ⟨E, hE⟩ : ∃ E, Hid (padE (s.extract k s.size).data.toList false 1 = E) := ⟨_, Lib.hid rfl⟩
              obtain ⟨vr, hvr⟩ : ∃ vr, Hid ((if E = 0 then u6 else .slice none 0 0) = vr) := ⟨_, Lib.hid rfl⟩
              have HE2 : Hid (decE s.data.toList false = E) := Lib.hid (by rw [HE.out, HW2.out, ← hE.out, HED.out]; simp [hc])
              clear hc
              go_wp2_with (first | (go_at_call 24; (with_reducible refine (ib6_isx hlt hx).mono ?_); rintro e w1 ⟨rfl, rfl⟩) | (go_at_call 27; (with_reducible refine (padded_is (n := 1) HBs.out (by decide) hes (by omega) hE hvr).mono ?_); rintro e w1 ⟨rfl, hb1⟩))
              go_ret2
              exact dec_fin HE2.out HG.out hvr.out hb hb1 HBs.out
            · obtain ⟨E, hE⟩ : ∃ E, Hid (padE (s.extract k s.size).data.toList true 1 = E) := ⟨_, Lib.hid rfl⟩
              obtain ⟨vr, hvr⟩ : ∃ vr, Hid ((if E = 0 then u6 else .slice none 0 0) = vr) := ⟨_, Lib.hid rfl⟩
              have HE2 : Hid (decE s.data.toList true = E) := Lib.hid (by rw [HE.out, HW2.out, ← hE.out, HED.out]; simp [hc])
              clear hc
              go_wp2_with (first | (go_at_call 24; (with_reducible refine (ib6_isx hlt hx).mono ?_); rintro e w1 ⟨rfl, rfl⟩) | (go_at_call 27; (with_reducible refine (padded_is (n := 1) HBs.out (by decide) hes (by omega) hE hvr).mono ?_); rintro e w1 ⟨rfl, hb1⟩))
              go_ret2
              exact dec_fin HE2.out HG.out hvr.out hb hb1 HBs.out
          · have hb0 : ((B : Int) == 0) = false := by rw [beq_eq_false_iff_ne]; omega
            have HW2 : Hid (whole (dsL s.data.toList) = false) := Lib.hid (by rw [HW.out]; simp [hc, h0])
            clear h0
            cases pad
            · obtain ⟨E, hE⟩ : ∃ E, Hid (padE (s.extract k s.size).data.toList false 1 = E) := ⟨_, Lib.hid rfl⟩
              obtain ⟨vr, hvr⟩ : ∃ vr, Hid ((if E = 0 then u6 else .slice none 0 0) = vr) := ⟨_, Lib.hid rfl⟩
              have HE2 : Hid (decE s.data.toList false = E) := Lib.hid (by rw [HE.out, HW2.out, ← hE.out, HED.out]; simp [hc])
              clear hc
              go_wp2_with (first | (go_at_call 24; (with_reducible refine (ib6_isx hlt hx).mono ?_); rintro e w1 ⟨rfl, rfl⟩) | (go_at_call 27; (with_reducible refine (padded_is (n := 1) HBs.out (by decide) hes (by omega) hE hvr).mono ?_); rintro e w1 ⟨rfl, hb1⟩))
              go_ret2
              exact dec_fin HE2.out HG.out hvr.out hb hb1 HBs.out
            · obtain ⟨E, hE⟩ : ∃ E, Hid (padE (s.extract k s.size).data.toList false 1 = E) := ⟨_, Lib.hid rfl⟩
              obtain ⟨vr, hvr⟩ : ∃ vr, Hid ((if E = 0 then u6 else .slice none 0 0) = vr) := ⟨_, Lib.hid rfl⟩
              have HE2 : Hid (decE s.data.toList true = E) := Lib.hid (by rw [HE.out, HW2.out, ← hE.out, HED.out]; simp [hc])
              clear hc
              go_wp2_with (first | (go_at_call 24; (with_reducible refine (ib6_isx hlt hx).mono ?_); rintro e w1 ⟨rfl, rfl⟩) | (go_at_call 27; (with_reducible refine (padded_is (n := 1) HBs.out (by decide) hes (by omega) hE hvr).mono ?_); rintro e w1 ⟨rfl, hb1⟩))
              go_ret2
              exact dec_fin HE2.out HG.out hvr.out hb hb1 HBs.out
      · have HA2 : Hid (∀ j, j < k + 1 → 0 ≤ dv (s.data.toList.getD j 0)) := Lib.hid fun j hj => by
          by_cases e : j = k
          · rw [e, hx.out]; omega
          · exact HA.out j (by omega)
        have hpush := push6 s.data.toList k r q hqr
        have hV := vl_lt (fb_bit s.data.toList) (8 * q) (r + 6)
        have hB0 := vl_lt (fb_bit s.data.toList) (8 * q) r
        rw [hx.out] at hpush
        obtain ⟨d, rfl⟩ := Int.eq_ofNat_of_zero_le (show 0 ≤ x by omega)
        obtain ⟨B, HBv⟩ : ∃ B, Hid (vl (fb s.data.toList) (8 * q) r = B) := ⟨_, Lib.hid rfl⟩
        rw [HBv.out] at hpush hB0 ⊢
        obtain ⟨V, HVv⟩ : ∃ V, Hid (vl (fb s.data.toList) (8 * q) (r + 6) = V) := ⟨_, Lib.hid rfl⟩
        rw [HVv.out] at hpush hV
        have hpush : B * 64 + d = V := hpush
        have hB1 : B < 256 := Nat.lt_of_lt_of_le hB0 (Nat.pow_le_pow_right (by omega) (show r ≤ 8 by omega))
        have hd64 : d < 64 := by omega
        have ho := or6 (h := B) (d := d) (by omega) hd64
        rw [hpush] at ho
        have hV1 : V < 16384 := Nat.lt_of_lt_of_le hV (Nat.pow_le_pow_right (by omega) (show r + 6 ≤ 14 by omega))
        clear hpush hB0
        rcases (show r = 0 ∨ r = 2 ∨ r = 4 ∨ r = 6 by omega) with rfl | rfl | rfl | rfl
        · have e3 : bits .and .i64 (V : Int) 63 = (V : Int) := by rw [and63 V (by omega), Nat.mod_eq_of_lt (by exact hV)]
          clear hV
          go_wp2_with (go_at_call 24; (with_reducible refine (ib6_isx hlt hx).mono ?_); rintro e w' ⟨rfl, rfl⟩)
          go_roundw
          case rel => exact ⟨k + 1, q, 6, by omega, by go_num, by omega, by omega, rfl, by rw [HVv.out], HA2, hb, hbs, HB⟩
          case measure => simp [intOf]; omega
        · have h8 : vl (fb s.data.toList) (8 * q) 8 = V := HVv.out
          have hb8 : V < 2 ^ 8 := hV
          have HS := Lib.hid (gb_succ s.data.toList q)
          rw [h8] at HS
          obtain ⟨u, hu⟩ : ∃ u : UInt8, V.toUInt8 = u := ⟨_, rfl⟩
          have hun : u.toNat = V := by rw [← hu]; exact Nat.mod_eq_of_lt hb8
          rw [hu] at HS
          clear hu h8
          have hPu : V = u.toNat := hun.symm
          clear hun
          have hB : True := trivial
          have hM : True := trivial
          have HX : Hid (#[Value.int .u8 (V : Int)] = (bc [u]).toArray) := Lib.hid (by rw [hPu]; rfl)
          have HL : Hid ((gb s.data.toList q).length + [u].length ≤ 100000000) := Lib.hid (by rw [gb_len]; show _ + 1 ≤ _; omega)
          have e3 : bits .and .i64 (V : Int) 0 = 0 := and0 V (by omega)
          have hP8 : V < 256 := by rw [hPu]; exact UInt8.toNat_lt u
          clear hV hPu hB hb8 hM
          go_wp2_with (first | (go_at_call 24; (with_reducible refine (ib6_isx hlt hx).mono ?_); rintro e w' ⟨rfl, rfl⟩) | (at_builtin; refine wpList_app (by rfl) (.tmp 38) (.tmp 43) (by rfl) (by rfl) HB.out hb hbs [u] (by rfl) HX.out (by rfl) (by simp) HL.out ?_; intro v' w' hB' hb' hbs'; have HB' := Lib.hid hB'; clear hB'))
          go_roundw
          case rel => exact ⟨k + 1, q + 1, 0, by omega, by go_num, by omega, by omega, rfl, rfl, HA2, hb', hbs', Lib.hid (by rw [HS.out]; exact HB'.out)⟩
          case measure => simp [intOf]; omega
        · have hB := byte_at s.data.toList q 2
          have hM := low6 s.data.toList q 2
          rw [HVv.out] at hB hM
          have hb8 := vl_lt (fb_bit s.data.toList) (8 * q) 8
          have HS := Lib.hid (gb_succ s.data.toList q)
          obtain ⟨u, hu⟩ : ∃ u, (vl (fb s.data.toList) (8 * q) 8).toUInt8 = u := ⟨_, rfl⟩
          have hun : u.toNat = vl (fb s.data.toList) (8 * q) 8 := by rw [← hu]; exact Nat.mod_eq_of_lt hb8
          rw [hu] at HS
          rw [← hun] at hB hb8
          clear hu hun
          obtain ⟨M, HM⟩ : ∃ M, Hid (vl (fb s.data.toList) (8 * (q + 1)) 2 = M) := ⟨_, Lib.hid rfl⟩
          rw [HM.out] at hM
          obtain ⟨P, hP⟩ : ∃ P, V / 4 = P := ⟨_, rfl⟩
          have e1 : (V : Int) / 4 = (P : Int) := by omega
          have hPu : P = u.toNat := by
            have : V < 1024 := hV
            omega
          have HX : Hid (#[Value.int .u8 (P : Int)] = (bc [u]).toArray) := Lib.hid (by rw [hPu]; rfl)
          have HL : Hid ((gb s.data.toList q).length + [u].length ≤ 100000000) := Lib.hid (by rw [gb_len]; show _ + 1 ≤ _; omega)
          have e3 : bits .and .i64 (V : Int) 3 = (M : Int) := by rw [and3 V (by omega), ← hM]
          have hP8 : P < 256 := by rw [hPu]; exact UInt8.toNat_lt u
          clear hV hP hPu hB hb8 hM
          go_wp2_with (first | (go_at_call 24; (with_reducible refine (ib6_isx hlt hx).mono ?_); rintro e w' ⟨rfl, rfl⟩) | (at_builtin; refine wpList_app (by rfl) (.tmp 38) (.tmp 43) (by rfl) (by rfl) HB.out hb hbs [u] (by rfl) HX.out (by rfl) (by simp) HL.out ?_; intro v' w' hB' hb' hbs'; have HB' := Lib.hid hB'; clear hB'))
          go_roundw
          case rel => exact ⟨k + 1, q + 1, 2, by omega, by go_num, by omega, by omega, rfl, by rw [HM.out], HA2, hb', hbs', Lib.hid (by rw [HS.out]; exact HB'.out)⟩
          case measure => simp [intOf]; omega
        · have hB := byte_at s.data.toList q 4
          have hM := low6 s.data.toList q 4
          rw [HVv.out] at hB hM
          have hb8 := vl_lt (fb_bit s.data.toList) (8 * q) 8
          have HS := Lib.hid (gb_succ s.data.toList q)
          obtain ⟨u, hu⟩ : ∃ u, (vl (fb s.data.toList) (8 * q) 8).toUInt8 = u := ⟨_, rfl⟩
          have hun : u.toNat = vl (fb s.data.toList) (8 * q) 8 := by rw [← hu]; exact Nat.mod_eq_of_lt hb8
          rw [hu] at HS
          rw [← hun] at hB hb8
          clear hu hun
          obtain ⟨M, HM⟩ : ∃ M, Hid (vl (fb s.data.toList) (8 * (q + 1)) 4 = M) := ⟨_, Lib.hid rfl⟩
          rw [HM.out] at hM
          obtain ⟨P, hP⟩ : ∃ P, V / 16 = P := ⟨_, rfl⟩
          have e1 : (V : Int) / 16 = (P : Int) := by omega
          have hPu : P = u.toNat := by
            have : V < 4096 := hV
            omega
          have HX : Hid (#[Value.int .u8 (P : Int)] = (bc [u]).toArray) := Lib.hid (by rw [hPu]; rfl)
          have HL : Hid ((gb s.data.toList q).length + [u].length ≤ 100000000) := Lib.hid (by rw [gb_len]; show _ + 1 ≤ _; omega)
          have e3 : bits .and .i64 (V : Int) 15 = (M : Int) := by rw [and15' V (by omega), ← hM]
          have hP8 : P < 256 := by rw [hPu]; exact UInt8.toNat_lt u
          clear hV hP hPu hB hb8 hM
          go_wp2_with (first | (go_at_call 24; (with_reducible refine (ib6_isx hlt hx).mono ?_); rintro e w' ⟨rfl, rfl⟩) | (at_builtin; refine wpList_app (by rfl) (.tmp 38) (.tmp 43) (by rfl) (by rfl) HB.out hb hbs [u] (by rfl) HX.out (by rfl) (by simp) HL.out ?_; intro v' w' hB' hb' hbs'; have HB' := Lib.hid hB'; clear hB'))
          go_roundw
          case rel => exact ⟨k + 1, q + 1, 4, by omega, by go_num, by omega, by omega, rfl, by rw [HM.out], HA2, hb', hbs', Lib.hid (by rw [HS.out]; exact HB'.out)⟩
          case measure => simp [intOf]; omega
    · obtain rfl : k = s.size := by omega
      have HN : Hid (ne s.data.toList = s.size) := Lib.hid (ne_of (by rw [size_list]; omega) HA.out (fun h => by rw [size_list] at h; omega))
      obtain ⟨B, HBv⟩ : ∃ B, Hid (vl (fb s.data.toList) (8 * q) r = B) := ⟨_, Lib.hid rfl⟩
      have HW := Lib.hid (whole_is HN.out hqr hr8 HBv.out)
      have HG := Lib.hid (gb_is HN.out hqr hr8)
      have HE := Lib.hid (decE_end (pad := pad) HN.out (by rw [size_list]))
      rw [HBv.out]
      have HBs := Lib.hid HB.out.bs
      rcases (show s.size % 4 = 0 ∨ s.size % 4 = 1 ∨ s.size % 4 = 2 ∨ s.size % 4 = 3 by omega) with hc | hc | hc | hc
      · have hc2 : (s.size : Int) % 4 = 0 := by omega
        by_cases h0 : B = 0
        · have hb0 : ((B : Int) == 0) = true := by rw [h0]; rfl
          have HW2 : Hid (whole (dsL s.data.toList) = true) := Lib.hid (by rw [HW.out]; simp [hc, h0])
          clear h0
          cases pad
          · have HE2 : Hid (decE s.data.toList false = 0) := Lib.hid (by rw [HE.out, HW2.out]; simp [hc])
            clear hc
            go_wp2
            go_ret2
            exact dec_fin (v := u6) HE2.out HG.out (by rfl) hb (Below.refl _ _) HBs.out
          · have HE2 : Hid (decE s.data.toList true = 0) := Lib.hid (by rw [HE.out, HW2.out]; simp [hc])
            clear hc
            go_wp2
            go_ret2
            exact dec_fin (v := u6) HE2.out HG.out (by rfl) hb (Below.refl _ _) HBs.out
        · have hb0 : ((B : Int) == 0) = false := by rw [beq_eq_false_iff_ne]; omega
          have HW2 : Hid (whole (dsL s.data.toList) = false) := Lib.hid (by rw [HW.out]; simp [hc, h0])
          clear h0
          cases pad
          · have HE2 : Hid (decE s.data.toList false = 4) := Lib.hid (by rw [HE.out, HW2.out]; simp [hc])
            clear hc
            go_wp2
            go_ret2
            exact dec_fin (v := u6) HE2.out HG.out (by rfl) hb (Below.refl _ _) HBs.out
          · have HE2 : Hid (decE s.data.toList true = 4) := Lib.hid (by rw [HE.out, HW2.out]; simp [hc])
            clear hc
            go_wp2
            go_ret2
            exact dec_fin (v := u6) HE2.out HG.out (by rfl) hb (Below.refl _ _) HBs.out
      · have hc2 : (s.size : Int) % 4 = 1 := by omega
        by_cases h0 : B = 0
        · have hb0 : ((B : Int) == 0) = true := by rw [h0]; rfl
          have HW2 : Hid (whole (dsL s.data.toList) = false) := Lib.hid (by rw [HW.out]; simp [hc, h0])
          clear h0
          cases pad
          · have HE2 : Hid (decE s.data.toList false = 4) := Lib.hid (by rw [HE.out, HW2.out]; simp [hc])
            clear hc
            go_wp2
            go_ret2
            exact dec_fin (v := u6) HE2.out HG.out (by rfl) hb (Below.refl _ _) HBs.out
          · have HE2 : Hid (decE s.data.toList true = 4) := Lib.hid (by rw [HE.out, HW2.out]; simp [hc])
            clear hc
            go_wp2
            go_ret2
            exact dec_fin (v := u6) HE2.out HG.out (by rfl) hb (Below.refl _ _) HBs.out
        · have hb0 : ((B : Int) == 0) = false := by rw [beq_eq_false_iff_ne]; omega
          have HW2 : Hid (whole (dsL s.data.toList) = false) := Lib.hid (by rw [HW.out]; simp [hc, h0])
          clear h0
          cases pad
          · have HE2 : Hid (decE s.data.toList false = 4) := Lib.hid (by rw [HE.out, HW2.out]; simp [hc])
            clear hc
            go_wp2
            go_ret2
            exact dec_fin (v := u6) HE2.out HG.out (by rfl) hb (Below.refl _ _) HBs.out
          · have HE2 : Hid (decE s.data.toList true = 4) := Lib.hid (by rw [HE.out, HW2.out]; simp [hc])
            clear hc
            go_wp2
            go_ret2
            exact dec_fin (v := u6) HE2.out HG.out (by rfl) hb (Below.refl _ _) HBs.out
      · have hc2 : (s.size : Int) % 4 = 2 := by omega
        by_cases h0 : B = 0
        · have hb0 : ((B : Int) == 0) = true := by rw [h0]; rfl
          have HW2 : Hid (whole (dsL s.data.toList) = true) := Lib.hid (by rw [HW.out]; simp [hc, h0])
          clear h0
          cases pad
          · have HE2 : Hid (decE s.data.toList false = 0) := Lib.hid (by rw [HE.out, HW2.out]; simp [hc])
            clear hc
            go_wp2
            go_ret2
            exact dec_fin (v := u6) HE2.out HG.out (by rfl) hb (Below.refl _ _) HBs.out
          · have HE2 : Hid (decE s.data.toList true = 4) := Lib.hid (by rw [HE.out, HW2.out]; simp [hc])
            clear hc
            go_wp2
            go_ret2
            exact dec_fin (v := u6) HE2.out HG.out (by rfl) hb (Below.refl _ _) HBs.out
        · have hb0 : ((B : Int) == 0) = false := by rw [beq_eq_false_iff_ne]; omega
          have HW2 : Hid (whole (dsL s.data.toList) = false) := Lib.hid (by rw [HW.out]; simp [hc, h0])
          clear h0
          cases pad
          · have HE2 : Hid (decE s.data.toList false = 4) := Lib.hid (by rw [HE.out, HW2.out]; simp [hc])
            clear hc
            go_wp2
            go_ret2
            exact dec_fin (v := u6) HE2.out HG.out (by rfl) hb (Below.refl _ _) HBs.out
          · have HE2 : Hid (decE s.data.toList true = 4) := Lib.hid (by rw [HE.out, HW2.out]; simp [hc])
            clear hc
            go_wp2
            go_ret2
            exact dec_fin (v := u6) HE2.out HG.out (by rfl) hb (Below.refl _ _) HBs.out
      · have hc2 : (s.size : Int) % 4 = 3 := by omega
        by_cases h0 : B = 0
        · have hb0 : ((B : Int) == 0) = true := by rw [h0]; rfl
          have HW2 : Hid (whole (dsL s.data.toList) = true) := Lib.hid (by rw [HW.out]; simp [hc, h0])
          clear h0
          cases pad
          · have HE2 : Hid (decE s.data.toList false = 0) := Lib.hid (by rw [HE.out, HW2.out]; simp [hc])
            clear hc
            go_wp2
            go_ret2
            exact dec_fin (v := u6) HE2.out HG.out (by rfl) hb (Below.refl _ _) HBs.out
          · have HE2 : Hid (decE s.data.toList true = 4) := Lib.hid (by rw [HE.out, HW2.out]; simp [hc])
            clear hc
            go_wp2
            go_ret2
            exact dec_fin (v := u6) HE2.out HG.out (by rfl) hb (Below.refl _ _) HBs.out
        · have hb0 : ((B : Int) == 0) = false := by rw [beq_eq_false_iff_ne]; omega
          have HW2 : Hid (whole (dsL s.data.toList) = false) := Lib.hid (by rw [HW.out]; simp [hc, h0])
          clear h0
          cases pad
          · have HE2 : Hid (decE s.data.toList false = 4) := Lib.hid (by rw [HE.out, HW2.out]; simp [hc])
            clear hc
            go_wp2
            go_ret2
            exact dec_fin (v := u6) HE2.out HG.out (by rfl) hb (Below.refl _ _) HBs.out
          · have HE2 : Hid (decE s.data.toList true = 4) := Lib.hid (by rw [HE.out, HW2.out]; simp [hc])
            clear hc
            go_wp2
            go_ret2
            exact dec_fin (v := u6) HE2.out HG.out (by rfl) hb (Below.refl _ _) HBs.out
end Go.Proofs.Ytacmallcfaokpaa.Bas
