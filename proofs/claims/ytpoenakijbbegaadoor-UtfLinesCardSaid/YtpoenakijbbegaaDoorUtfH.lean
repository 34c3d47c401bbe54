/-
  Contracts of the reference of utf: number of characters, slices; the law's walk: UtfCounts.
-/
import Derived.Test.YtpoenakijbbegaaDoorUtfG
namespace Go.Proofs.YtpoenakijbbegaaDoor.Utf
open Go.RowKit
set_option linter.unusedVariables false
set_option linter.unusedSimpArgs false

/-- What a slice of boundaries holds. -/
theorem bcells_at {w : World} {base k : Nat} {v : Value} (l : List UInt8) (h : w.ownsRow base 3 1 v (k + 1) (bcells l (k + 1))) : ∃ g cap, v = .slice (some ⟨g, 0, none⟩) (k + 1) cap ∧ ∀ i, i ≤ k → w.cell? ⟨g, i, none⟩ = some (.int .i64 (off l i : Nat)) := by
  rcases h.2 with ⟨_, h0⟩ | ⟨g, cap, _, rfl, _⟩
  · omega
  · refine ⟨g, cap, rfl, fun i hi => ?_⟩
    rw [World.ownsRow.cellAt h i (by omega)]
    unfold bcells
    rw [List.getElem?_map, List.getElem?_range (by omega)]; rfl
set_option maxRecDepth 100000 in
set_option maxHeartbeats 1000000 in
theorem rlen_any (s : ByteArray) (w : World) (hs : s.size ≤ 4096) : Calls Tryd.prog 22 #[.string s] w fun e w' => e = .returned (.tuple #[.int .i64 (lnN s), .int .i64 (lnE s)]) ∧ Below w.heap.size w w' := by
  cases h : vld s with
  | true =>
    have e1 : lnN s = nch s.data.toList := if_pos h
    have e2 : lnE s = 0 := if_pos h
    have HV := Lib.hid h
    have E1 := Lib.hid e1
    have E2 := Lib.hid e2
    have hB := Lib.hid (fun w => bounds_any s w hs)
    clear h e1 e2
    go_enter Tryd.func22, Tryd.ntmps22
    go_wp2_with (go_at_call 35; (with_reducible refine (hB.out _).mono ?_); rintro e w1 ⟨k, v, rfl, hb, hown, hk, hn⟩; obtain ⟨g, cap, rfl, hcells⟩ := bcells_at _ hown; have HN := Lib.hid (hn HV.out); clear hn hown hcells; rw [HV.out])
    go_ret2
    refine ⟨?_, hb⟩
    rw [E1.out, E2.out, HN.out]
    first | rfl | (congr 3; try omega)
  | false =>
    have e1 : lnN s = 0 := if_neg (by rw [h]; simp)
    have e2 : lnE s = 5 := if_neg (by rw [h]; simp)
    have HV := Lib.hid h
    have E1 := Lib.hid e1
    have E2 := Lib.hid e2
    have hB := Lib.hid (fun w => bounds_any s w hs)
    clear h e1 e2
    go_enter Tryd.func22, Tryd.ntmps22
    go_wp2_with (go_at_call 35; (with_reducible refine (hB.out _).mono ?_); rintro e w1 ⟨k, v, rfl, hb, hown, hk, hn⟩; obtain ⟨g, cap, rfl, hcells⟩ := bcells_at _ hown; clear hn hown hcells; rw [HV.out])
    go_ret2
    exact ⟨by rw [E1.out, E2.out]; rfl, hb⟩
theorem rlen_is {s : ByteArray} {w : World} {n : Nat} {c : Int} (h1 : Hid (lnN s = n)) (h2 : Hid (lnE s = c)) (hs : s.size ≤ 4096) : Calls Tryd.prog 22 #[.string s] w fun e w' => e = .returned (.tuple #[.int .i64 n, .int .i64 c]) ∧ Below w.heap.size w w' := by
  have := rlen_any s w hs; rwa [h1.out, h2.out] at this
/-- The slice by characters, and its error. -/
def slS (s : ByteArray) (a b : Int) : ByteArray := if vld s = true ∧ 0 ≤ a ∧ a ≤ b ∧ b ≤ nch s.data.toList then s.extract (off s.data.toList a.toNat) (off s.data.toList b.toNat) else ⟨#[]⟩
def slE (s : ByteArray) (a b : Int) : Int := if vld s = true then (if 0 ≤ a ∧ a ≤ b ∧ b ≤ nch s.data.toList then 0 else 2) else 5
set_option maxRecDepth 100000 in
set_option maxHeartbeats 2000000 in
theorem rslice_any (s : ByteArray) (a b : Int) (w : World) (hs : s.size ≤ 4096) (ha : -9223372036854775808 ≤ a ∧ a ≤ 9223372036854775807) (hb' : -9223372036854775808 ≤ b ∧ b ≤ 9223372036854775807) : Calls Tryd.prog 24 #[.string s, .int .i64 a, .int .i64 b] w fun e w' => e = .returned (.tuple #[.string (slS s a b), .int .i64 (slE s a b)]) ∧ Below w.heap.size w w' := by
  have hB := Lib.hid (fun w => bounds_any s w hs)
  obtain ⟨S, HS⟩ : ∃ S, Hid (slS s a b = S) := ⟨_, rfl⟩
  obtain ⟨E, HE⟩ : ∃ E, Hid (slE s a b = E) := ⟨_, rfl⟩
  rw [HS.out, HE.out]
  cases h : vld s with
  | false =>
    have e1 : slS s a b = ⟨#[]⟩ := if_neg (by rw [h]; simp)
    have e2 : slE s a b = 5 := if_neg (by rw [h]; simp)
    have HV := Lib.hid h
    obtain rfl := e1.symm.trans HS.out
    obtain rfl := e2.symm.trans HE.out
    clear h e1 e2 HS HE
    go_enter Tryd.func24, Tryd.ntmps24
    go_wp2_with (go_at_call 35; (with_reducible refine (hB.out _).mono ?_); rintro e w1 ⟨k, v, rfl, hb, hown, hk, hn⟩; obtain ⟨g, cap, rfl, hcells⟩ := bcells_at _ hown; clear hn hown hcells; rw [HV.out])
    go_ret2
    exact ⟨rfl, hb⟩
  | true =>
    by_cases hr : 0 ≤ a ∧ a ≤ b ∧ b ≤ nch s.data.toList
    · have e1 : slS s a b = s.extract (off s.data.toList a.toNat) (off s.data.toList b.toNat) := if_pos ⟨h, hr⟩
      have e2 : slE s a b = 0 := (if_pos h).trans (if_pos hr)
      have hx := e1.symm.trans HS.out
      have HX := Lib.hid hx
      obtain rfl := e2.symm.trans HE.out
      obtain ⟨h1, h2, h3⟩ := hr
      obtain ⟨x, rfl⟩ := Int.eq_ofNat_of_zero_le h1
      obtain ⟨y, rfl⟩ := Int.eq_ofNat_of_zero_le (Int.le_trans h1 h2)
      rw [Int.toNat_natCast, Int.toNat_natCast] at HX
      have o1 := off_mono s.data.toList (show x ≤ y by omega)
      have o2 := off_le s.data.toList y
      rw [size_list] at o2
      have HV := Lib.hid h
      obtain ⟨n, HNC⟩ : ∃ n, Hid (nch s.data.toList = n) := ⟨_, rfl⟩
      rw [HNC.out] at h3
      obtain ⟨p, HP⟩ : ∃ p, Hid (off s.data.toList x = p) := ⟨_, rfl⟩
      obtain ⟨q, HQ⟩ : ∃ q, Hid (off s.data.toList y = q) := ⟨_, rfl⟩
      rw [HP.out] at o1 HX
      rw [HQ.out] at o1 o2 HX
      clear h e1 e2 HS HE hx h1
      go_enter Tryd.func24, Tryd.ntmps24
      go_wp2_with (go_at_call 35; (with_reducible refine (hB.out _).mono ?_); rintro e w1 ⟨k, v, rfl, hb, hown, hk, hn⟩; obtain ⟨g, cap, rfl, hcells⟩ := bcells_at _ hown; obtain rfl := (hn HV.out).symm.trans HNC.out; have c1 := hcells x (by omega); have c2 := hcells y (by omega); rw [HP.out] at c1; rw [HQ.out] at c2; clear hn hown hcells; rw [HV.out])
      go_quiet (fail)
      go_wp2
      go_ret2
      rw [← HX.out]
      exact ⟨rfl, hb.trans ⟨rfl, rfl, rfl, Nat.le_refl _, fun _ _ => rfl⟩⟩
    · have e1 : slS s a b = ⟨#[]⟩ := if_neg (fun h => hr h.2)
      have e2 : slE s a b = 2 := (if_pos h).trans (if_neg hr)
      have HV := Lib.hid h
      obtain rfl := e1.symm.trans HS.out
      obtain rfl := e2.symm.trans HE.out
      obtain ⟨n, HNC⟩ : ∃ n, Hid (nch s.data.toList = n) := ⟨_, rfl⟩
      rw [HNC.out] at hr
      have hw : a < 0 ∨ (0 ≤ a ∧ b < a) ∨ (0 ≤ a ∧ a ≤ b ∧ (n : Int) < b) := by omega
      clear h e1 e2 HS HE hr
      rcases hw with g1 | ⟨g1, g2⟩ | ⟨g1, g2, g3⟩
      all_goals
        go_enter Tryd.func24, Tryd.ntmps24
        go_wp2_with (go_at_call 35; (with_reducible refine (hB.out _).mono ?_); rintro e w1 ⟨k, v, rfl, hb, hown, hk, hn⟩; obtain ⟨g, cap, rfl, hcells⟩ := bcells_at _ hown; obtain rfl := (hn HV.out).symm.trans HNC.out; clear hn hown hcells; rw [HV.out])
        go_ret2
        exact ⟨rfl, hb⟩
theorem rslice_is {s S : ByteArray} {a b E : Int} {w : World} (h1 : Hid (slS s a b = S)) (h2 : Hid (slE s a b = E)) (hs : s.size ≤ 4096) (ha : -9223372036854775808 ≤ a ∧ a ≤ 9223372036854775807) (hb' : -9223372036854775808 ≤ b ∧ b ≤ 9223372036854775807) : Calls Tryd.prog 24 #[.string s, .int .i64 a, .int .i64 b] w fun e w' => e = .returned (.tuple #[.string S, .int .i64 E]) ∧ Below w.heap.size w w' := by
  have := rslice_any s a b w hs ha hb'; rwa [h1.out, h2.out] at this
set_option maxRecDepth 100000 in
set_option maxHeartbeats 2000000 in
theorem slice_any (s : ByteArray) (a b : Int) (w : World) (hT : Tabs w) (hs : s.size ≤ 4611686018427387904) (ha : -9223372036854775808 ≤ a ∧ a ≤ 9223372036854775807) (hb' : -9223372036854775808 ≤ b ∧ b ≤ 9223372036854775807) : Calls Tryd.prog 23 #[.string s, .int .i64 a, .int .i64 b] w fun e w' => e = .returned (.tuple #[.string (slS s a b), .int .i64 (slE s a b)]) ∧ Below w.heap.size w w' := by
  obtain ⟨S, HS⟩ : ∃ S, Hid (slS s a b = S) := ⟨_, rfl⟩
  obtain ⟨E, HE⟩ : ∃ E, Hid (slE s a b = E) := ⟨_, rfl⟩
  rw [HS.out, HE.out]
  cases h : vld s with
  | false =>
    have e1 : slS s a b = ⟨#[]⟩ := if_neg (by rw [h]; simp)
    have e2 : slE s a b = 5 := if_neg (by rw [h]; simp)
    have E1 : Hid (lnN s = 0) := Lib.hid (if_neg (by rw [h]; simp))
    have E2 : Hid (lnE s = 5) := Lib.hid (if_neg (by rw [h]; simp))
    obtain rfl := e1.symm.trans HS.out
    obtain rfl := e2.symm.trans HE.out
    have HL : Hid (∀ w, Tabs w → Calls Tryd.prog 21 #[.string s] w fun e w' => e = .returned (.tuple #[.int .i64 0, .int .i64 5]) ∧ Below w.heap.size w w') := Lib.hid fun w hT => len_is E1 E2 hT hs
    clear h e1 e2 HS HE E1 E2
    go_enter Tryd.func23, Tryd.ntmps23
    go_wp2_with (go_at_call 21; (with_reducible refine (HL.out _ hT).mono ?_); rintro e w1 ⟨rfl, hb⟩)
    go_ret2
    exact ⟨rfl, hb⟩
  | true =>
    by_cases hr : 0 ≤ a ∧ a ≤ b ∧ b ≤ nch s.data.toList
    · have e1 : slS s a b = s.extract (off s.data.toList a.toNat) (off s.data.toList b.toNat) := if_pos ⟨h, hr⟩
      have e2 : slE s a b = 0 := (if_pos h).trans (if_pos hr)
      have HX := Lib.hid (e1.symm.trans HS.out)
      obtain rfl := e2.symm.trans HE.out
      obtain ⟨h1, h2, h3⟩ := hr
      obtain ⟨x, rfl⟩ := Int.eq_ofNat_of_zero_le h1
      obtain ⟨y, rfl⟩ := Int.eq_ofNat_of_zero_le (Int.le_trans h1 h2)
      rw [Int.toNat_natCast, Int.toNat_natCast] at HX
      exact slice_is HX hT hs (Lib.hid h) (Lib.hid rfl) (by omega) (by omega)
    · have e1 : slS s a b = ⟨#[]⟩ := if_neg (fun h => hr h.2)
      have e2 : slE s a b = 2 := (if_pos h).trans (if_neg hr)
      obtain rfl := e1.symm.trans HS.out
      obtain rfl := e2.symm.trans HE.out
      obtain ⟨n, HNC⟩ : ∃ n, Hid (nch s.data.toList = n) := ⟨_, rfl⟩
      rw [HNC.out] at hr
      have E1 : Hid (lnN s = n) := Lib.hid ((if_pos h).trans HNC.out)
      have E2 : Hid (lnE s = 0) := Lib.hid (if_pos h)
      have hw : a < 0 ∨ (0 ≤ a ∧ b < a) ∨ (0 ≤ a ∧ a ≤ b ∧ (n : Int) < b) := by omega
      have hn1 := nch_le s.data.toList
      rw [HNC.out, size_list] at hn1
      clear h e1 e2 HS HE hr
      rcases hw with g1 | ⟨g1, g2⟩ | ⟨g1, g2, g3⟩
      all_goals
        go_enter Tryd.func23, Tryd.ntmps23
        go_wp2_with (go_at_call 21; (with_reducible refine (len_is E1 E2 hT hs).mono ?_); rintro e w1 ⟨rfl, hb⟩)
        go_ret2
        exact ⟨rfl, hb⟩
theorem slice_e {s S : ByteArray} {a b E : Int} {w : World} (h1 : Hid (slS s a b = S)) (h2 : Hid (slE s a b = E)) (hT : Tabs w) (hs : s.size ≤ 4611686018427387904) (ha : -9223372036854775808 ≤ a ∧ a ≤ 9223372036854775807) (hb' : -9223372036854775808 ≤ b ∧ b ≤ 9223372036854775807) : Calls Tryd.prog 23 #[.string s, .int .i64 a, .int .i64 b] w fun e w' => e = .returned (.tuple #[.string S, .int .i64 E]) ∧ Below w.heap.size w w' := by
  have := slice_any s a b w hT hs ha hb'; rwa [h1.out, h2.out] at this
set_option maxRecDepth 100000 in
set_option maxHeartbeats 2000000 in
theorem counts_walk (s : ByteArray) (a b : Int) (w : World) (hT : Tabs w) (ha : -9223372036854775808 ≤ a ∧ a ≤ 9223372036854775807) (hb' : -9223372036854775808 ≤ b ∧ b ≤ 9223372036854775807) (hs : s.size ≤ 4611686018427387904) : Calls Tryd.prog 5 #[.string s, .int .i64 a, .int .i64 b] w fun e w' => e = .returned (.bool true) ∧ Below w.heap.size w w' := by
  have hb := Below.refl w.heap.size w
  by_cases g1 : s.size ≤ 4096
  case neg =>
    go_enter Tryd.func5, Tryd.ntmps5
    go_wp2_with (go_at_call 12; (with_reducible refine (awake_any _ (hT.below hb)).mono ?_); rintro e w9 ⟨rfl, hb9⟩; replace hb := bthen hb hb9; clear hb9)
    go_ret
    exact ⟨rfl, hb⟩
  obtain ⟨n, E1⟩ : ∃ n, Hid (lnN s = n) := ⟨_, rfl⟩
  obtain ⟨c, E2⟩ : ∃ c, Hid (lnE s = c) := ⟨_, rfl⟩
  obtain ⟨S, HS⟩ : ∃ S, Hid (slS s a b = S) := ⟨_, rfl⟩
  obtain ⟨E, HE⟩ : ∃ E, Hid (slE s a b = E) := ⟨_, rfl⟩
  have q1 : (S.toList == S.toList) = true := beq_self_eq_true _
  go_enter Tryd.func5, Tryd.ntmps5
  go_wp2_with (first | (go_at_call 21; (with_reducible refine (len_is E1 E2 (hT.below hb) hs).mono ?_); rintro e w1 ⟨rfl, hb1⟩; replace hb := bthen hb hb1; clear hb1) | (go_at_call 22; (with_reducible refine (rlen_is E1 E2 g1).mono ?_); rintro e w2 ⟨rfl, hb2⟩; replace hb := bthen hb hb2; clear hb2) | (go_at_call 23; (with_reducible refine (slice_e HS HE (hT.below hb) hs ha hb').mono ?_); rintro e w3 ⟨rfl, hb3⟩; replace hb := bthen hb hb3; clear hb3) | (go_at_call 24; (with_reducible refine (rslice_is HS HE g1 ha hb').mono ?_); rintro e w4 ⟨rfl, hb4⟩; replace hb := bthen hb hb4; clear hb4) | (go_at_call 12; (with_reducible refine (awake_any _ (hT.below hb)).mono ?_); rintro e w9 ⟨rfl, hb9⟩; replace hb := bthen hb hb9; clear hb9))
  go_ret
  exact ⟨rfl, hb⟩
end Go.Proofs.YtpoenakijbbegaaDoor.Utf
