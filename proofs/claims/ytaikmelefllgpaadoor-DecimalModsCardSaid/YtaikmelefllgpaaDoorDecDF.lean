/-
  Package decimal: the law DecimalMods.
-/
import Derived.Test.YtaikmelefllgpaaDoorDecDE
import Derived.Test.YtaikmelefllgpaaDoorDecDB
import Derived.Test.YtaikmelefllgpaaDoorDecE
namespace Go.Proofs.YtaikmelefllgpaaDoor.Dec
open Go.RowKit
set_option linter.unusedVariables false
set_option linter.unusedSimpArgs false
open Go.Proofs.YtaikmelefllgpaaDoor.Dig
open Go.ChangeShapes Go.WideShapes Go.Deep RO

/-- Two decimals in blocks of their own. -/
structure PQ (w W : World) (g1 : Bool) (s1 : ByteArray) (x1 : Int) (g2 : Bool) (s2 : ByteArray) (x2 : Int) : Prop where
  a : DC W w.heap.size g1 s1 x1
  b : DC W (w.heap.size + 1) g2 s2 x2
  bel : Below w.heap.size w W
section
variable {w W W' : World} {g1 g2 : Bool} {s1 s2 : ByteArray} {x1 x2 : Int}
theorem PQ.new (w : World) (g1 : Bool) (s1 : ByteArray) (x1 : Int) (g2 : Bool) (s2 : ByteArray) (x2 : Int) : PQ w ((w.alloc (.cells #[.bool g1, .string s1, .int .i64 x1] 23)).alloc (.cells #[.bool g2, .string s2, .int .i64 x2] 23)) g1 s1 x1 g2 s2 x2 := by
  have h2 := DC.new (w.alloc (.cells #[.bool g1, .string s1, .int .i64 x1] 23)) g2 s2 x2
  rw [show (w.alloc (.cells #[.bool g1, .string s1, .int .i64 x1] 23)).heap.size = w.heap.size + 1 by simp] at h2
  exact ⟨(DC.new w g1 s1 x1).alloc _, h2, ((Below.refl _ _).alloc (Nat.le_refl _) _).alloc (by simp) _⟩
theorem PQ.step (h : PQ w W g1 s1 x1 g2 s2 x2) (hb : Below W.heap.size W W') : PQ w W' g1 s1 x1 g2 s2 x2 := ⟨h.a.below hb h.a.lt, h.b.below hb h.b.lt, h.bel.trans (hb.mono h.bel.size)⟩
theorem PQ.al (h : PQ w W g1 s1 x1 g2 s2 x2) (o : Obj) : PQ w (W.alloc o) g1 s1 x1 g2 s2 x2 := ⟨h.a.alloc _, h.b.alloc _, h.bel.alloc h.bel.size _⟩
end
set_option maxRecDepth 100000 in
set_option maxHeartbeats 8000000 in
theorem mods_bad (g1 : Bool) (s1 : ByteArray) (x1 : Int) (g2 : Bool) (s2 : ByteArray) (x2 : Int) (v : Value) (n : Nat) (L : List De) (w : World) (hv : Ds w w.heap.size v L) (hn : L.length = n) (va vb : Bool) (HV1 : Hid (∀ w, Calls Tryd.prog 6 #[.agg #[.bool g1, .string s1, .int .i64 x1]] w fun e w' => e = .returned (.bool va) ∧ Below w.heap.size w w')) (HV2 : Hid (∀ w, Calls Tryd.prog 6 #[.agg #[.bool g2, .string s2, .int .i64 x2]] w fun e w' => e = .returned (.bool vb) ∧ Below w.heap.size w w')) (HLV : Hid (∀ w, Calls Tryd.prog 7 #[] w fun e w' => e = .returned (.bool true) ∧ Below w.heap.size w w')) (hb : va = false ∨ (va = true ∧ vb = false) ∨ (va = true ∧ vb = true ∧ 20 < n)) : Calls Tryd.prog 3 #[.agg #[.bool g1, .string s1, .int .i64 x1], .agg #[.bool g2, .string s2, .int .i64 x2], v] w fun e w' => e = .returned (.bool true) ∧ Below w.heap.size w w' := by
  obtain ⟨a, cap, rfl, hn9⟩ := Rd.slice hv hn
  have T := PQ.new w g1 s1 x1 g2 s2 x2
  obtain ⟨a0, a1, a2⟩ := T.a.cells
  obtain ⟨b0, b1, b2⟩ := T.b.cells
  clear hv hn
  rcases hb with rfl | ⟨rfl, rfl⟩ | ⟨rfl, rfl, h20⟩
  · go_enter Tryd.func3, Tryd.ntmps3
    go_wp2_with (first | (go_at_call 6; first | ((with_reducible refine (HV1.out _).mono ?_); rintro e w1 ⟨rfl, hX⟩; have T := T.step hX; clear hX; obtain ⟨a0, a1, a2⟩ := T.a.cells; obtain ⟨b0, b1, b2⟩ := T.b.cells) | ((with_reducible refine (HV2.out _).mono ?_); rintro e w1 ⟨rfl, hX⟩; have T := T.step hX; clear hX; obtain ⟨a0, a1, a2⟩ := T.a.cells; obtain ⟨b0, b1, b2⟩ := T.b.cells)) | (go_at_call 7; (with_reducible refine (HLV.out _).mono ?_); rintro e w2 ⟨rfl, hX⟩; have bl := T.bel.trans (hX.mono T.bel.size); clear hX))
    go_ret
    exact ⟨rfl, bl⟩
  · go_enter Tryd.func3, Tryd.ntmps3
    go_wp2_with (first | (go_at_call 6; first | ((with_reducible refine (HV1.out _).mono ?_); rintro e w1 ⟨rfl, hX⟩; have T := T.step hX; clear hX; obtain ⟨a0, a1, a2⟩ := T.a.cells; obtain ⟨b0, b1, b2⟩ := T.b.cells) | ((with_reducible refine (HV2.out _).mono ?_); rintro e w1 ⟨rfl, hX⟩; have T := T.step hX; clear hX; obtain ⟨a0, a1, a2⟩ := T.a.cells; obtain ⟨b0, b1, b2⟩ := T.b.cells)) | (go_at_call 7; (with_reducible refine (HLV.out _).mono ?_); rintro e w2 ⟨rfl, hX⟩; have bl := T.bel.trans (hX.mono T.bel.size); clear hX))
    go_ret
    exact ⟨rfl, bl⟩
  · have h2 : (20 : Int) < n := by omega
    go_enter Tryd.func3, Tryd.ntmps3
    go_wp2_with (first | (go_at_call 6; first | ((with_reducible refine (HV1.out _).mono ?_); rintro e w1 ⟨rfl, hX⟩; have T := T.step hX; clear hX; obtain ⟨a0, a1, a2⟩ := T.a.cells; obtain ⟨b0, b1, b2⟩ := T.b.cells) | ((with_reducible refine (HV2.out _).mono ?_); rintro e w1 ⟨rfl, hX⟩; have T := T.step hX; clear hX; obtain ⟨a0, a1, a2⟩ := T.a.cells; obtain ⟨b0, b1, b2⟩ := T.b.cells)) | (go_at_call 7; (with_reducible refine (HLV.out _).mono ?_); rintro e w2 ⟨rfl, hX⟩; have bl := T.bel.trans (hX.mono T.bel.size); clear hX))
    go_ret
    exact ⟨rfl, bl⟩
set_option maxRecDepth 100000 in
set_option maxHeartbeats 8000000 in
theorem mods_zero (g1 : Bool) (s1 : ByteArray) (x1 : Int) (g2 : Bool) (s2 : ByteArray) (x2 : Int) (v : Value) (n : Nat) (L : List De) (w : World) (hv : Ds w w.heap.size v L) (hn : L.length = n) (hok : ∀ d ∈ L, d.ok) (HV1 : Hid (∀ w, Calls Tryd.prog 6 #[.agg #[.bool g1, .string s1, .int .i64 x1]] w fun e w' => e = .returned (.bool true) ∧ Below w.heap.size w w')) (HV2 : Hid (∀ w, Calls Tryd.prog 6 #[.agg #[.bool g2, .string s2, .int .i64 x2]] w fun e w' => e = .returned (.bool true) ∧ Below w.heap.size w w')) (HLV : Hid (∀ w, Calls Tryd.prog 7 #[] w fun e w' => e = .returned (.bool true) ∧ Below w.heap.size w w')) (hn20 : n ≤ 20) (h0 : n = 0) (R1 : Bool) (R2 : ByteArray) (R3 R4 : Int) (Q1 : Bool) (Q2 : ByteArray) (Q3 Q4 : Int) (HM1 : Hid (∀ w, Calls Tryd.prog 8 #[.agg #[.bool g1, .string s1, .int .i64 x1], .agg #[.bool g2, .string s2, .int .i64 x2]] w fun e w' => e = .returned (.tuple #[.agg #[.bool R1, .string R2, .int .i64 R3], .int .i64 R4]) ∧ Below w.heap.size w w')) (HM2 : Hid (∀ w, Calls Tryd.prog 10 #[.agg #[.bool g1, .string s1, .int .i64 x1], .agg #[.bool g2, .string s2, .int .i64 x2]] w fun e w' => e = .returned (.tuple #[.agg #[.bool R1, .string R2, .int .i64 R3], .int .i64 R4]) ∧ Below w.heap.size w w')) (HSS1 : (∀ d ∈ L, vB d.g d.s d.x = true) → Hid (∀ w' : World, Below w.heap.size w w' → Calls Tryd.prog 9 #[v] w' fun e w'' => e = .returned (.tuple #[.agg #[.bool Q1, .string Q2, .int .i64 Q3], .int .i64 Q4]) ∧ Below w'.heap.size w' w'')) (HSS2 : (∀ d ∈ L, vB d.g d.s d.x = true) → Hid (∀ w' : World, Below w.heap.size w w' → Calls Tryd.prog 11 #[v] w' fun e w'' => e = .returned (.tuple #[.agg #[.bool Q1, .string Q2, .int .i64 Q3], .int .i64 Q4]) ∧ Below w'.heap.size w' w'')) : Calls Tryd.prog 3 #[.agg #[.bool g1, .string s1, .int .i64 x1], .agg #[.bool g2, .string s2, .int .i64 x2], v] w fun e w' => e = .returned (.bool true) ∧ Below w.heap.size w w' := by
  have T := PQ.new w g1 s1 x1 g2 s2 x2
  obtain ⟨a0, a1, a2⟩ := T.a.cells
  obtain ⟨b0, b1, b2⟩ := T.b.cells
  have hall : ∀ d ∈ L, vB d.g d.s d.x = true := fun d hd => by rw [List.length_eq_zero_iff.1 (hn.trans h0)] at hd; cases hd
  have HS1 := HSS1 hall
  have HS2 := HSS2 hall
  obtain ⟨a, cap, rfl, hn9⟩ := Rd.slice hv hn
  subst h0
  clear hv hn hok hall HSS1 HSS2
  go_enter Tryd.func3, Tryd.ntmps3
  go_wp2_with (go_at_call 6; first | ((with_reducible refine (HV1.out _).mono ?_); rintro e w1 ⟨rfl, hX⟩; have T := T.step hX; clear hX; obtain ⟨a0, a1, a2⟩ := T.a.cells; obtain ⟨b0, b1, b2⟩ := T.b.cells) | ((with_reducible refine (HV2.out _).mono ?_); rintro e w1 ⟨rfl, hX⟩; have T := T.step hX; clear hX; obtain ⟨a0, a1, a2⟩ := T.a.cells; obtain ⟨b0, b1, b2⟩ := T.b.cells))
  go_loopw [7] (fun i wr => i = .int .i64 0 ∧ PQ w wr g1 s1 x1 g2 s2 x2) (fun _ _ => 0)
  case atStart => exact ⟨rfl, T⟩
  case round =>
    clear T a0 a1 a2 b0 b1 b2
    obtain ⟨rfl, T⟩ := hrel
    obtain ⟨a0, a1, a2⟩ := T.a.cells
    obtain ⟨b0, b1, b2⟩ := T.b.cells
    go_wp2_with (first | (go_at_call 8; (with_reducible refine (HM1.out _).mono ?_); rintro e w3 ⟨rfl, hX⟩; have T := (T.step hX).al (.cells #[.bool R1, .string R2, .int .i64 R3] 23); have A := DC.new w3 R1 R2 R3; clear hX; obtain ⟨a0, a1, a2⟩ := T.a.cells; obtain ⟨b0, b1, b2⟩ := T.b.cells; obtain ⟨m0, m1, m2⟩ := A.cells) | (go_at_call 9; (with_reducible refine (HS1.out _ T.bel).mono ?_); rintro e w4 ⟨rfl, hX⟩; have A := (A.below hX A.lt).alloc (.cells #[.bool Q1, .string Q2, .int .i64 Q3] 23); have B := DC.new w4 Q1 Q2 Q3; have T := (T.step hX).al (.cells #[.bool Q1, .string Q2, .int .i64 Q3] 23); clear hX; obtain ⟨a0, a1, a2⟩ := T.a.cells; obtain ⟨b0, b1, b2⟩ := T.b.cells; obtain ⟨m0, m1, m2⟩ := A.cells; obtain ⟨q0, q1, q2⟩ := B.cells) | (go_at_call 10; (with_reducible refine (HM2.out _).mono ?_); rintro e w5 ⟨rfl, hX⟩; have A := (A.below hX A.lt).alloc (.cells #[.bool R1, .string R2, .int .i64 R3] 23); have B := (B.below hX B.lt).alloc (.cells #[.bool R1, .string R2, .int .i64 R3] 23); have D := DC.new w5 R1 R2 R3; have T := (T.step hX).al (.cells #[.bool R1, .string R2, .int .i64 R3] 23); clear hX; obtain ⟨a0, a1, a2⟩ := T.a.cells; obtain ⟨b0, b1, b2⟩ := T.b.cells; obtain ⟨m0, m1, m2⟩ := A.cells; obtain ⟨q0, q1, q2⟩ := B.cells; obtain ⟨d0, d1, d2⟩ := D.cells) | (go_at_call 11; (with_reducible refine (HS2.out _ T.bel).mono ?_); rintro e w6 ⟨rfl, hX⟩; have A := (A.below hX A.lt).alloc (.cells #[.bool Q1, .string Q2, .int .i64 Q3] 23); have B := (B.below hX B.lt).alloc (.cells #[.bool Q1, .string Q2, .int .i64 Q3] 23); have D := (D.below hX D.lt).alloc (.cells #[.bool Q1, .string Q2, .int .i64 Q3] 23); have E := DC.new w6 Q1 Q2 Q3; have T := (T.step hX).al (.cells #[.bool Q1, .string Q2, .int .i64 Q3] 23); clear hX; obtain ⟨m0, m1, m2⟩ := A.cells; obtain ⟨q0, q1, q2⟩ := B.cells; obtain ⟨d0, d1, d2⟩ := D.cells; obtain ⟨f0, f1, f2⟩ := E.cells) | (go_at_call 7; (with_reducible refine (HLV.out _).mono ?_); rintro e w2 ⟨rfl, hX⟩; have bl := T.bel.trans (hX.mono T.bel.size); clear hX))
    go_ret
    exact ⟨rfl, bl⟩
set_option maxRecDepth 100000 in
set_option maxHeartbeats 8000000 in
theorem mods_many (g1 : Bool) (s1 : ByteArray) (x1 : Int) (g2 : Bool) (s2 : ByteArray) (x2 : Int) (v : Value) (n : Nat) (L : List De) (w : World) (hv : Ds w w.heap.size v L) (hn : L.length = n) (hok : ∀ d ∈ L, d.ok) (HV1 : Hid (∀ w, Calls Tryd.prog 6 #[.agg #[.bool g1, .string s1, .int .i64 x1]] w fun e w' => e = .returned (.bool true) ∧ Below w.heap.size w w')) (HV2 : Hid (∀ w, Calls Tryd.prog 6 #[.agg #[.bool g2, .string s2, .int .i64 x2]] w fun e w' => e = .returned (.bool true) ∧ Below w.heap.size w w')) (HLV : Hid (∀ w, Calls Tryd.prog 7 #[] w fun e w' => e = .returned (.bool true) ∧ Below w.heap.size w w')) (hn20 : n ≤ 20) (h0 : 0 < n) (R1 : Bool) (R2 : ByteArray) (R3 R4 : Int) (Q1 : Bool) (Q2 : ByteArray) (Q3 Q4 : Int) (HM1 : Hid (∀ w, Calls Tryd.prog 8 #[.agg #[.bool g1, .string s1, .int .i64 x1], .agg #[.bool g2, .string s2, .int .i64 x2]] w fun e w' => e = .returned (.tuple #[.agg #[.bool R1, .string R2, .int .i64 R3], .int .i64 R4]) ∧ Below w.heap.size w w')) (HM2 : Hid (∀ w, Calls Tryd.prog 10 #[.agg #[.bool g1, .string s1, .int .i64 x1], .agg #[.bool g2, .string s2, .int .i64 x2]] w fun e w' => e = .returned (.tuple #[.agg #[.bool R1, .string R2, .int .i64 R3], .int .i64 R4]) ∧ Below w.heap.size w w')) (HSS1 : (∀ d ∈ L, vB d.g d.s d.x = true) → Hid (∀ w' : World, Below w.heap.size w w' → Calls Tryd.prog 9 #[v] w' fun e w'' => e = .returned (.tuple #[.agg #[.bool Q1, .string Q2, .int .i64 Q3], .int .i64 Q4]) ∧ Below w'.heap.size w' w'')) (HSS2 : (∀ d ∈ L, vB d.g d.s d.x = true) → Hid (∀ w' : World, Below w.heap.size w w' → Calls Tryd.prog 11 #[v] w' fun e w'' => e = .returned (.tuple #[.agg #[.bool Q1, .string Q2, .int .i64 Q3], .int .i64 Q4]) ∧ Below w'.heap.size w' w'')) : Calls Tryd.prog 3 #[.agg #[.bool g1, .string s1, .int .i64 x1], .agg #[.bool g2, .string s2, .int .i64 x2], v] w fun e w' => e = .returned (.bool true) ∧ Below w.heap.size w w' := by
  have T := PQ.new w g1 s1 x1 g2 s2 x2
  obtain ⟨a0, a1, a2⟩ := T.a.cells
  obtain ⟨b0, b1, b2⟩ := T.b.cells
  obtain ⟨a, cap, rfl, hn9⟩ := Rd.slice hv hn
  obtain ⟨gg, o, cap', hvv, hg, hcap, hcap9, hcell⟩ := Ds.at_ hv hn h0
  injection hvv with hv1 hv2 hv3
  subst hv1 hv3
  have HC := Lib.hid hcell
  have HN := Lib.hid hn
  have HOK := Lib.hid hok
  have HSA := Lib.hid HSS1
  have HSB := Lib.hid HSS2
  have h20 : ¬ (20 : Int) < n := by omega
  have HVV := Lib.hid (fun (d : De) (w : World) (h : d.ok) => rdvalid_any d.g d.s d.x w h.1 h.2)
  clear hcell hn hv hok HSS1 HSS2
  go_enter Tryd.func3, Tryd.ntmps3
  go_wp2_with (go_at_call 6; first | ((with_reducible refine (HV1.out _).mono ?_); rintro e w1 ⟨rfl, hX⟩; have T := T.step hX; clear hX; obtain ⟨a0, a1, a2⟩ := T.a.cells; obtain ⟨b0, b1, b2⟩ := T.b.cells) | ((with_reducible refine (HV2.out _).mono ?_); rintro e w1 ⟨rfl, hX⟩; have T := T.step hX; clear hX; obtain ⟨a0, a1, a2⟩ := T.a.cells; obtain ⟨b0, b1, b2⟩ := T.b.cells))
  go_loopw [7] (fun i wr => ∃ k : Nat, k ≤ n ∧ i = .int .i64 k ∧ PQ w wr g1 s1 x1 g2 s2 x2 ∧ Hid (∀ j d, j < k → L[j]? = some d → vB d.g d.s d.x = true)) (fun i _ => n - (intOf i).toNat)
  case atStart => exact ⟨0, by omega, rfl, T, Lib.hid (fun j d hj => absurd hj (by omega))⟩
  case round =>
    clear T a0 a1 a2 b0 b1 b2
    obtain ⟨k, hk, rfl, T, HI⟩ := hrel
    by_cases hlt : k < n
    · have hi : (k : Int) < n := by omega
      obtain ⟨d, hd⟩ := de_in HN.out hlt
      obtain ⟨e0, e1, e2⟩ := HC.out k d hd
      have e0 := (T.bel.cell (p := ⟨gg, o + k * 3, none⟩) hg).trans e0
      have e1 := (T.bel.cell (p := ⟨gg, o + k * 3 + 1, none⟩) hg).trans e1
      have e2 := (T.bel.cell (p := ⟨gg, o + k * 3 + 2, none⟩) hg).trans e2
      have VD := Lib.hid (fun w => HVV.out d w (HOK.out d (List.mem_of_getElem? hd)))
      have HD := Lib.hid hd
      clear hd hlt
      cases hvd : vB d.g d.s d.x with
      | true =>
        have HI2 : Hid (∀ j d, j < k + 1 → L[j]? = some d → vB d.g d.s d.x = true) := Lib.hid (fun j d' hj hd' => by
          by_cases hjk : j < k
          · exact HI.out j d' hjk hd'
          · have e : j = k := by omega
            rw [e, HD.out] at hd'
            rw [← Option.some.inj hd']; exact hvd)
        rw [hvd] at VD
        clear hvd
        obtain ⟨dg, dS, dx⟩ := d
        simp only at e0 e1 e2 VD
        go_wp2_with (go_at_call 6; (with_reducible refine (VD.out _).mono ?_); rintro e w1 ⟨rfl, hX⟩; have T := T.step hX; clear hX)
        exact ⟨⟨k + 1, by omega, by go_num, T, HI2⟩, by simp [intOf] <;> omega⟩
      | false =>
        rw [hvd] at VD
        clear hvd
        obtain ⟨dg, dS, dx⟩ := d
        simp only at e0 e1 e2 VD
        go_wp2_with (first | (go_at_call 6; (with_reducible refine (VD.out _).mono ?_); rintro e w1 ⟨rfl, hX⟩; have T := T.step hX; clear hX) | (go_at_call 7; (with_reducible refine (HLV.out _).mono ?_); rintro e w2 ⟨rfl, hX⟩; have bl := T.bel.trans (hX.mono T.bel.size); clear hX))
        go_ret
        exact ⟨rfl, bl⟩
    · have hi : ¬ (k : Int) < n := by omega
      have hall : ∀ d ∈ L, vB d.g d.s d.x = true := fun d hd => by
        obtain ⟨j, hj, he⟩ := List.getElem_of_mem hd
        have hjn : j < k := by have := HN.out; omega
        exact HI.out j d hjn (by rw [List.getElem?_eq_getElem hj, he])
      have HS1 := HSA.out hall
      have HS2 := HSB.out hall
      clear hall
      obtain ⟨a0, a1, a2⟩ := T.a.cells
      obtain ⟨b0, b1, b2⟩ := T.b.cells
      go_wp2_with (first | (go_at_call 8; (with_reducible refine (HM1.out _).mono ?_); rintro e w3 ⟨rfl, hX⟩; have T := (T.step hX).al (.cells #[.bool R1, .string R2, .int .i64 R3] 23); have A := DC.new w3 R1 R2 R3; clear hX; obtain ⟨a0, a1, a2⟩ := T.a.cells; obtain ⟨b0, b1, b2⟩ := T.b.cells; obtain ⟨m0, m1, m2⟩ := A.cells) | (go_at_call 9; (with_reducible refine (HS1.out _ T.bel).mono ?_); rintro e w4 ⟨rfl, hX⟩; have A := (A.below hX A.lt).alloc (.cells #[.bool Q1, .string Q2, .int .i64 Q3] 23); have B := DC.new w4 Q1 Q2 Q3; have T := (T.step hX).al (.cells #[.bool Q1, .string Q2, .int .i64 Q3] 23); clear hX; obtain ⟨a0, a1, a2⟩ := T.a.cells; obtain ⟨b0, b1, b2⟩ := T.b.cells; obtain ⟨m0, m1, m2⟩ := A.cells; obtain ⟨q0, q1, q2⟩ := B.cells) | (go_at_call 10; (with_reducible refine (HM2.out _).mono ?_); rintro e w5 ⟨rfl, hX⟩; have A := (A.below hX A.lt).alloc (.cells #[.bool R1, .string R2, .int .i64 R3] 23); have B := (B.below hX B.lt).alloc (.cells #[.bool R1, .string R2, .int .i64 R3] 23); have D := DC.new w5 R1 R2 R3; have T := (T.step hX).al (.cells #[.bool R1, .string R2, .int .i64 R3] 23); clear hX; obtain ⟨a0, a1, a2⟩ := T.a.cells; obtain ⟨b0, b1, b2⟩ := T.b.cells; obtain ⟨m0, m1, m2⟩ := A.cells; obtain ⟨q0, q1, q2⟩ := B.cells; obtain ⟨d0, d1, d2⟩ := D.cells) | (go_at_call 11; (with_reducible refine (HS2.out _ T.bel).mono ?_); rintro e w6 ⟨rfl, hX⟩; have A := (A.below hX A.lt).alloc (.cells #[.bool Q1, .string Q2, .int .i64 Q3] 23); have B := (B.below hX B.lt).alloc (.cells #[.bool Q1, .string Q2, .int .i64 Q3] 23); have D := (D.below hX D.lt).alloc (.cells #[.bool Q1, .string Q2, .int .i64 Q3] 23); have E := DC.new w6 Q1 Q2 Q3; have T := (T.step hX).al (.cells #[.bool Q1, .string Q2, .int .i64 Q3] 23); clear hX; obtain ⟨m0, m1, m2⟩ := A.cells; obtain ⟨q0, q1, q2⟩ := B.cells; obtain ⟨d0, d1, d2⟩ := D.cells; obtain ⟨f0, f1, f2⟩ := E.cells) | (go_at_call 7; (with_reducible refine (HLV.out _).mono ?_); rintro e w2 ⟨rfl, hX⟩; have bl := T.bel.trans (hX.mono T.bel.size); clear hX))
      go_ret
      exact ⟨rfl, bl⟩
theorem mods_walk (g1 : Bool) (s1 : ByteArray) (x1 : Int) (g2 : Bool) (s2 : ByteArray) (x2 : Int) (a : Option Addr) (n cap : Nat) (L : List De) (w : World) (hr : L.length = n ∧ Ds w w.heap.size (.slice a n cap) L ∧ ∀ d ∈ L, d.ok) (hs1 : s1.size ≤ maxLen) (hx1 : -9223372036854775808 ≤ x1 ∧ x1 ≤ 9223372036854775807) (hs2 : s2.size ≤ maxLen) (hx2 : -9223372036854775808 ≤ x2 ∧ x2 ≤ 9223372036854775807) : Calls Tryd.prog 3 #[.agg #[.bool g1, .string s1, .int .i64 x1], .agg #[.bool g2, .string s2, .int .i64 x2], .slice a n cap] w fun e w' => e = .returned (.bool true) ∧ Below w.heap.size w w' := by
  obtain ⟨hn, hv, hok⟩ := hr
  have hz1 : s1.size ≤ 9223372036854775807 := by unfold maxLen at hs1; omega
  have hz2 : s2.size ≤ 9223372036854775807 := by unfold maxLen at hs2; omega
  have HV1 := Lib.hid (fun w => rdvalid_any g1 s1 x1 w hz1 hx1)
  have HV2 := Lib.hid (fun w => rdvalid_any g2 s2 x2 w hz2 hx2)
  have HLV := Lib.hid lives_any
  by_cases hb : vB g1 s1 x1 = true ∧ vB g2 s2 x2 = true ∧ n ≤ 20
  · obtain ⟨b1, b2, b3⟩ := hb
    rw [b1] at HV1
    rw [b2] at HV2
    obtain ⟨n1, rfl, h1⟩ := vB_ok b1
    obtain ⟨n2, rfl, h2⟩ := vB_ok b2
    obtain ⟨R, HM1, HM2⟩ := mods_both h1 h2
    have HSS1 : (∀ d ∈ L, vB d.g d.s d.x = true) → Hid (∀ w' : World, Below w.heap.size w w' → Calls Tryd.prog 9 #[.slice a n cap] w' fun e w'' => e = retR (sumL false 0 0 L) ∧ Below w'.heap.size w' w'') := fun h => Lib.hid (fun w' hb => dsum_any _ L w' (Rd.next hv hb) h (by omega))
    have HSS2 : (∀ d ∈ L, vB d.g d.s d.x = true) → Hid (∀ w' : World, Below w.heap.size w w' → Calls Tryd.prog 11 #[.slice a n cap] w' fun e w'' => e = retR (sumL false 0 0 L) ∧ Below w'.heap.size w' w'') := fun h => Lib.hid (fun w' hb => rdsum_any _ L w' (Rd.next hv hb) h (by omega))
    rcases Nat.eq_zero_or_pos n with h0 | h0
    · exact mods_zero _ _ _ _ _ _ _ n L w hv hn hok HV1 HV2 HLV b3 h0 _ _ _ _ _ _ _ _ (Lib.hid HM1) (Lib.hid HM2) HSS1 HSS2
    · exact mods_many _ _ _ _ _ _ _ n L w hv hn hok HV1 HV2 HLV b3 h0 _ _ _ _ _ _ _ _ (Lib.hid HM1) (Lib.hid HM2) HSS1 HSS2
  · refine mods_bad _ _ _ _ _ _ _ n L w hv hn _ _ HV1 HV2 HLV ?_
    cases h1 : vB g1 s1 x1 with
    | false => exact .inl rfl
    | true =>
      cases h2 : vB g2 s2 x2 with
      | false => exact .inr (.inl ⟨rfl, rfl⟩)
      | true => exact .inr (.inr ⟨rfl, rfl, by
          have : ¬ n ≤ 20 := fun h3 => hb ⟨h1, h2, h3⟩
          omega⟩)
end Go.Proofs.YtaikmelefllgpaaDoor.Dec
