/-
  Package decimal: the reference's Text at any decimal.
-/
import Derived.Test.YtaikmelefllgpaaDoorDecCB
import Derived.Test.YtaikmelefllgpaaDoorDecW
namespace Go.Proofs.YtaikmelefllgpaaDoor.Dec
open Go.RowKit
set_option linter.unusedVariables false
set_option linter.unusedSimpArgs false
open Go.Proofs.YtaikmelefllgpaaDoor.Dig

set_option maxRecDepth 100000 in
set_option maxHeartbeats 8000000 in
theorem number_any (q : Int) (w : World) (hq : q ≠ 0) (hb : -1000 ≤ q ∧ q ≤ 1000) : Calls Tryd.prog 46 #[.int .i64 q] w fun e w' => e = .returned (.string ⟨(Lib.itoa q).toArray⟩) ∧ Below w.heap.size w w' := by
  have hT : (⟨(Lib.itoa q).toArray⟩ : ByteArray) = if q < 0 then ⟨#[45]⟩ ++ S q.natAbs else S q.natAbs := by
    refine (of_list ?_).symm
    rw [itoa_num hq]
    split
    · rw [cat_list]; rfl
    · rfl
  have hl : (S q.natAbs).size ≤ 4 := by
    have h4 : (10 : Nat) ^ 4 = 10000 := by decide
    rw [S_size]
    exact num_len.2 (by rw [h4]; omega)
  rw [hT]
  by_cases h : q < 0
  · rw [if_pos h]
    have HF := Lib.hid (fun w => rfromInt_any (-q) w (by omega))
    rw [show (-q).toNat = q.natAbs by omega] at HF
    have b1 : decide (q < 0) = true := decide_eq_true h
    have b2 : IntKind.i64.wrap (-q) = -q := IntWalk.i64_in _ (by omega)
    obtain ⟨s, hs⟩ : ∃ s, S q.natAbs = s := ⟨_, rfl⟩
    rw [hs] at HF hl ⊢
    have u1 : ¬ 9223372036854775807 < 1 + s.size := by omega
    have u2 : 1 + s.size ≤ 9223372036854775807 := by omega
    clear hs hT hq hb h hl
    go_enter Tryd.func46, Tryd.ntmps46
    go_wp2_with (go_at_call 59; (with_reducible refine (HF.out _).mono ?_); rintro e w1 ⟨rfl, hb⟩)
    go_ret
    exact ⟨rfl, hb⟩
  · rw [if_neg h]
    have HF := Lib.hid (fun w => rfromInt_any q w (by omega))
    rw [show q.toNat = q.natAbs by omega] at HF
    have b1 : decide (q < 0) = false := decide_eq_false h
    have b3 : (q == 0) = false := beq_eq_false_iff_ne.2 hq
    obtain ⟨s, hs⟩ : ∃ s, S q.natAbs = s := ⟨_, rfl⟩
    rw [hs] at HF ⊢
    clear hs hT hq hb h hl
    go_enter Tryd.func46, Tryd.ntmps46
    go_wp2_with (go_at_call 59; (with_reducible refine (HF.out _).mono ?_); rintro e w1 ⟨rfl, hb⟩)
    go_ret
    exact ⟨rfl, hb⟩
set_option maxRecDepth 100000 in
set_option maxHeartbeats 8000000 in
theorem rtx_1 (g : Bool) (G A : ByteArray) (x p : Int) (w : World) (hG : G = if g then ⟨#[45]⟩ else ⟨#[]⟩) (hp : (A.size : Int) + x = p) (hA : A.data.toList ≠ []) (hA2 : A.size ≤ 120) (hx : -400 ≤ x ∧ x ≤ 400) (h1 : 0 ≤ x) (h2 : p ≤ 21) (Z B1 R : ByteArray) (HR : Hid (∀ w, Calls Tryd.prog 38 #[.int .i64 x] w fun e w' => e = .returned (.string Z) ∧ Below w.heap.size w w')) (cc1 : G ++ A = B1) (uu1 : G.size + A.size ≤ 9223372036854775807) (cc2 : B1 ++ Z = R) (uu2 : B1.size + Z.size ≤ 9223372036854775807) : Calls Tryd.prog 18 #[.agg #[.bool g, .string A, .int .i64 x]] w fun e w' => e = .returned (.string R) ∧ Below w.heap.size w w' := by
  have wp : IntKind.i64.wrap ((A.size : Int) + x) = p := by rw [hp]; exact IntWalk.i64_in _ (by omega)
  have e1 := isE_f hA
  have e2 := ne_nil hA
  have hA1 := size_pos hA
  have HP : Hid (P1 w (w.alloc (.cells #[.bool g, .string A, .int .i64 x] 23)) g A x) := Lib.hid ⟨DC.new _ _ _ _, (Below.refl _ _).alloc (Nat.le_refl _) _⟩
  have T := HP.out
  have cl := T.all
  obtain ⟨-, x0, x1, x2⟩ := cl
  have b1 : decide ((0 : Int) ≤ x) = true := decide_eq_true (by omega)
  have b2 : decide (p ≤ 21) = true := decide_eq_true (by omega)
  have vv1 : ¬ 9223372036854775807 < G.size + A.size := by omega
  have vv2 : ¬ 9223372036854775807 < B1.size + Z.size := by omega
  have sA : A.size ≤ 9223372036854775807 := by omega
  have sA1 : ¬ 9223372036854775807 < A.size := by omega
  have sA2 : 1 + A.size ≤ 9223372036854775807 := by omega
  have sA3 : ¬ 9223372036854775807 < 1 + A.size := by omega
  clear hp hA hA2 hx h1 h2
  cases g
  · have hG2 : G = ⟨#[]⟩ := hG
    subst hG2
    clear hG
    go_enter Tryd.func18, Tryd.ntmps18
    go_wp2
    go_region_held3 (fun (W : World) => P1 w W false A x ∧ W.cell? ⟨w.heap.size, 0, none⟩ = some (.bool false) ∧ W.cell? ⟨w.heap.size, 1, none⟩ = some (.string A) ∧ W.cell? ⟨w.heap.size, 2, none⟩ = some (.int .i64 x)) ((first | (go_split_ands; exact P1.all (by assumption)) | (go_split_ands; exact P1.all (P1.d (by assumption))) | (go_split_ands; exact P1.all (P1.step hX (by assumption))))) (first | (go_at_call 38; (with_reducible refine (HR.out _).mono ?_); rintro e wn ⟨rfl, hX⟩))
    rename_i hH
    have bl := hH.1.bel
    clear hH T HP
    go_wp2
    go_ret
    exact ⟨rfl, bl⟩
  · have hG2 : G = ⟨#[45]⟩ := hG
    subst hG2
    clear hG
    go_enter Tryd.func18, Tryd.ntmps18
    go_wp2
    go_region_held3 (fun (W : World) => P1 w W true A x ∧ W.cell? ⟨w.heap.size, 0, none⟩ = some (.bool true) ∧ W.cell? ⟨w.heap.size, 1, none⟩ = some (.string A) ∧ W.cell? ⟨w.heap.size, 2, none⟩ = some (.int .i64 x)) ((first | (go_split_ands; exact P1.all (by assumption)) | (go_split_ands; exact P1.all (P1.d (by assumption))) | (go_split_ands; exact P1.all (P1.step hX (by assumption))))) (first | (go_at_call 38; (with_reducible refine (HR.out _).mono ?_); rintro e wn ⟨rfl, hX⟩))
    rename_i hH
    have bl := hH.1.bel
    clear hH T HP
    go_wp2
    go_ret
    exact ⟨rfl, bl⟩
set_option maxRecDepth 100000 in
set_option maxHeartbeats 8000000 in
theorem rtx_2 (g : Bool) (G A : ByteArray) (x p : Int) (w : World) (hG : G = if g then ⟨#[45]⟩ else ⟨#[]⟩) (hp : (A.size : Int) + x = p) (hA : A.data.toList ≠ []) (hA2 : A.size ≤ 120) (hx : -400 ≤ x ∧ x ≤ 400) (h1 : x < 0) (k : Nat) (hk : p = (k : Int)) (h2 : 1 ≤ k) (h3 : k ≤ 21) (A1 A2 B1 B2 R : ByteArray) (ha1 : A.extract 0 k = A1) (ha2 : A.extract k A.size = A2) (cc3 : G ++ A1 = B1) (uu3 : G.size + A1.size ≤ 9223372036854775807) (cc4 : B1 ++ ⟨#[46]⟩ = B2) (uu4 : B1.size + 1 ≤ 9223372036854775807) (cc5 : B2 ++ A2 = R) (uu5 : B2.size + A2.size ≤ 9223372036854775807) : Calls Tryd.prog 18 #[.agg #[.bool g, .string A, .int .i64 x]] w fun e w' => e = .returned (.string R) ∧ Below w.heap.size w w' := by
  subst hk
  have wp : IntKind.i64.wrap ((A.size : Int) + x) = (k : Int) := by rw [hp]; exact IntWalk.i64_in _ (by omega)
  have e1 := isE_f hA
  have e2 := ne_nil hA
  have hA1 := size_pos hA
  have HP : Hid (P1 w (w.alloc (.cells #[.bool g, .string A, .int .i64 x] 23)) g A x) := Lib.hid ⟨DC.new _ _ _ _, (Below.refl _ _).alloc (Nat.le_refl _) _⟩
  have T := HP.out
  have cl := T.all
  obtain ⟨-, x0, x1, x2⟩ := cl
  have b1 : decide ((0 : Int) ≤ x) = false := decide_eq_false (by omega)
  have b2 : decide (x < 0) = true := decide_eq_true (by omega)
  have b3 : decide ((1 : Int) ≤ (k : Int)) = true := decide_eq_true (by omega)
  have b4 : decide ((k : Int) ≤ 21) = true := decide_eq_true (by omega)
  have b5 : (k : Int) ≤ A.size := by omega
  have b6 : (0 : Int) ≤ k := by omega
  have vv3 : ¬ 9223372036854775807 < G.size + A1.size := by omega
  have vv4 : ¬ 9223372036854775807 < B1.size + 1 := by omega
  have vv5 : ¬ 9223372036854775807 < B2.size + A2.size := by omega
  have s120 : A1.size ≤ 120 := by rw [← ha1, ByteArray.size_extract]; omega
  have sA : A1.size ≤ 9223372036854775807 := by omega
  have sA1 : ¬ 9223372036854775807 < A1.size := by omega
  have sA2 : 1 + A1.size ≤ 9223372036854775807 := by omega
  have sA3 : ¬ 9223372036854775807 < 1 + A1.size := by omega
  clear s120
  clear hp hA hA2 hx h1 h2 h3
  cases g
  · have hG2 : G = ⟨#[]⟩ := hG
    subst hG2
    clear hG
    go_enter Tryd.func18, Tryd.ntmps18
    go_wp2
    go_region_held3 (fun (W : World) => P1 w W false A x ∧ W.cell? ⟨w.heap.size, 0, none⟩ = some (.bool false) ∧ W.cell? ⟨w.heap.size, 1, none⟩ = some (.string A) ∧ W.cell? ⟨w.heap.size, 2, none⟩ = some (.int .i64 x)) ((first | (go_split_ands; exact P1.all (by assumption)) | (go_split_ands; exact P1.all (P1.d (by assumption))) | (go_split_ands; exact P1.all (P1.step hX (by assumption))))) (first | (go_at_call 38; (with_reducible refine (HP.out _).mono ?_); rintro e wn ⟨rfl, hX⟩))
    rename_i hH
    have bl := hH.1.bel
    clear hH T HP
    go_wp2
    go_ret
    exact ⟨rfl, bl⟩
  · have hG2 : G = ⟨#[45]⟩ := hG
    subst hG2
    clear hG
    go_enter Tryd.func18, Tryd.ntmps18
    go_wp2
    go_region_held3 (fun (W : World) => P1 w W true A x ∧ W.cell? ⟨w.heap.size, 0, none⟩ = some (.bool true) ∧ W.cell? ⟨w.heap.size, 1, none⟩ = some (.string A) ∧ W.cell? ⟨w.heap.size, 2, none⟩ = some (.int .i64 x)) ((first | (go_split_ands; exact P1.all (by assumption)) | (go_split_ands; exact P1.all (P1.d (by assumption))) | (go_split_ands; exact P1.all (P1.step hX (by assumption))))) (first | (go_at_call 38; (with_reducible refine (HP.out _).mono ?_); rintro e wn ⟨rfl, hX⟩))
    rename_i hH
    have bl := hH.1.bel
    clear hH T HP
    go_wp2
    go_ret
    exact ⟨rfl, bl⟩
set_option maxRecDepth 100000 in
set_option maxHeartbeats 8000000 in
theorem rtx_3 (g : Bool) (G A : ByteArray) (x p : Int) (w : World) (hG : G = if g then ⟨#[45]⟩ else ⟨#[]⟩) (hp : (A.size : Int) + x = p) (hA : A.data.toList ≠ []) (hA2 : A.size ≤ 120) (hx : -400 ≤ x ∧ x ≤ 400) (k : Nat) (hk : p = -(k : Int)) (h2 : k ≤ 5) (Z B1 B2 R : ByteArray) (HR : Hid (∀ w, Calls Tryd.prog 38 #[.int .i64 k] w fun e w' => e = .returned (.string Z) ∧ Below w.heap.size w w')) (cc6 : G ++ ⟨#[48, 46]⟩ = B1) (uu6 : G.size + 2 ≤ 9223372036854775807) (cc7 : B1 ++ Z = B2) (uu7 : B1.size + Z.size ≤ 9223372036854775807) (cc8 : B2 ++ A = R) (uu8 : B2.size + A.size ≤ 9223372036854775807) : Calls Tryd.prog 18 #[.agg #[.bool g, .string A, .int .i64 x]] w fun e w' => e = .returned (.string R) ∧ Below w.heap.size w w' := by
  have wp : IntKind.i64.wrap ((A.size : Int) + x) = p := by rw [hp]; exact IntWalk.i64_in _ (by omega)
  have e1 := isE_f hA
  have e2 := ne_nil hA
  have hA1 := size_pos hA
  have HP : Hid (P1 w (w.alloc (.cells #[.bool g, .string A, .int .i64 x] 23)) g A x) := Lib.hid ⟨DC.new _ _ _ _, (Below.refl _ _).alloc (Nat.le_refl _) _⟩
  have T := HP.out
  have cl := T.all
  obtain ⟨-, x0, x1, x2⟩ := cl
  have b1 : decide ((0 : Int) ≤ x) = false := decide_eq_false (by omega)
  have b2 : decide (x < 0) = true := decide_eq_true (by omega)
  have b3 : decide ((1 : Int) ≤ p) = false := decide_eq_false (by omega)
  have b4 : decide ((-5 : Int) ≤ p) = true := decide_eq_true (by omega)
  have b5 : decide (p ≤ 0) = true := decide_eq_true (by omega)
  have b6 : IntKind.i64.wrap (-p) = (k : Int) := by rw [show -p = (k : Int) by omega]; exact IntWalk.i64_in _ (by omega)
  have vv6 : ¬ 9223372036854775807 < G.size + 2 := by omega
  have vv7 : ¬ 9223372036854775807 < B1.size + Z.size := by omega
  have vv8 : ¬ 9223372036854775807 < B2.size + A.size := by omega
  clear hp hA hA2 hx h2 hk
  cases g
  · have hG2 : G = ⟨#[]⟩ := hG
    subst hG2
    clear hG
    go_enter Tryd.func18, Tryd.ntmps18
    go_wp2
    go_region_held3 (fun (W : World) => P1 w W false A x ∧ W.cell? ⟨w.heap.size, 0, none⟩ = some (.bool false) ∧ W.cell? ⟨w.heap.size, 1, none⟩ = some (.string A) ∧ W.cell? ⟨w.heap.size, 2, none⟩ = some (.int .i64 x)) ((first | (go_split_ands; exact P1.all (by assumption)) | (go_split_ands; exact P1.all (P1.d (by assumption))) | (go_split_ands; exact P1.all (P1.step hX (by assumption))))) (first | (go_at_call 38; (with_reducible refine (HR.out _).mono ?_); rintro e wn ⟨rfl, hX⟩))
    rename_i hH
    have bl := hH.1.bel
    clear hH T HP
    go_wp2
    go_ret
    exact ⟨rfl, bl⟩
  · have hG2 : G = ⟨#[45]⟩ := hG
    subst hG2
    clear hG
    go_enter Tryd.func18, Tryd.ntmps18
    go_wp2
    go_region_held3 (fun (W : World) => P1 w W true A x ∧ W.cell? ⟨w.heap.size, 0, none⟩ = some (.bool true) ∧ W.cell? ⟨w.heap.size, 1, none⟩ = some (.string A) ∧ W.cell? ⟨w.heap.size, 2, none⟩ = some (.int .i64 x)) ((first | (go_split_ands; exact P1.all (by assumption)) | (go_split_ands; exact P1.all (P1.d (by assumption))) | (go_split_ands; exact P1.all (P1.step hX (by assumption))))) (first | (go_at_call 38; (with_reducible refine (HR.out _).mono ?_); rintro e wn ⟨rfl, hX⟩))
    rename_i hH
    have bl := hH.1.bel
    clear hH T HP
    go_wp2
    go_ret
    exact ⟨rfl, bl⟩
set_option maxRecDepth 100000 in
set_option maxHeartbeats 8000000 in
theorem rtx_4s (g : Bool) (G A : ByteArray) (x p : Int) (w : World) (hG : G = if g then ⟨#[45]⟩ else ⟨#[]⟩) (hp : (A.size : Int) + x = p) (hA : A.data.toList ≠ []) (hA2 : A.size ≤ 120) (hx : -400 ≤ x ∧ x ≤ 400) (q : Int) (hq : p - 1 = q) (A1 B1 M B3 IT R : ByteArray) (ha1 : A.extract 0 1 = A1) (hL : A.size = 1) (hM : B1 = M) (cc9 : G ++ A1 = B1) (uu9 : G.size + A1.size ≤ 9223372036854775807)   (cc10 : M ++ ⟨#[101]⟩ = B3) (uu10 : M.size + 1 ≤ 9223372036854775807) (cc11 : B3 ++ IT = R) (uu11 : B3.size + IT.size ≤ 9223372036854775807) (HI : Hid (∀ w, Calls Tryd.prog 46 #[.int .i64 q] w fun e w' => e = .returned (.string IT) ∧ Below w.heap.size w w')) (hc : (0 ≤ x ∧ 21 < p) ∨ (x < 0 ∧ 21 < p) ∨ (x < 0 ∧ p < -5)) : Calls Tryd.prog 18 #[.agg #[.bool g, .string A, .int .i64 x]] w fun e w' => e = .returned (.string R) ∧ Below w.heap.size w w' := by
  have wp : IntKind.i64.wrap ((A.size : Int) + x) = p := by rw [hp]; exact IntWalk.i64_in _ (by omega)
  have e1 := isE_f hA
  have e2 := ne_nil hA
  have hA1 := size_pos hA
  have HP : Hid (P1 w (w.alloc (.cells #[.bool g, .string A, .int .i64 x] 23)) g A x) := Lib.hid ⟨DC.new _ _ _ _, (Below.refl _ _).alloc (Nat.le_refl _) _⟩
  have T := HP.out
  have cl := T.all
  obtain ⟨-, x0, x1, x2⟩ := cl
  have wq : IntKind.i64.wrap (p - 1) = q := by rw [hq]; exact IntWalk.i64_in _ (by omega)
  have b0 : (1 : Int) ≤ A.size := by omega
  have b9 : decide ((1 : Int) < (A.size : Int)) = false := decide_eq_false (by omega)
  have vv9 : ¬ 9223372036854775807 < G.size + A1.size := by omega
  have vv10 : ¬ 9223372036854775807 < M.size + 1 := by omega
  have vv11 : ¬ 9223372036854775807 < B3.size + IT.size := by omega
  subst hM
  rcases hc with ⟨h1, h2⟩ | ⟨h1, h2⟩ | ⟨h1, h2⟩
  · have b1 : decide ((0 : Int) ≤ x) = true := decide_eq_true (by omega)
    have b2 : decide (p ≤ 21) = false := decide_eq_false (by omega)
    have b3 : decide (x < 0) = false := decide_eq_false (by omega)
    have b6 : decide ((-5 : Int) ≤ p) = true := decide_eq_true (by omega)
    have b7 : decide (p ≤ 0) = false := decide_eq_false (by omega)
    clear hp hA hA2 hx h1 h2 hq hL hA1
    cases g
    · have hG2 : G = ⟨#[]⟩ := hG
      subst hG2
      clear hG
      go_enter Tryd.func18, Tryd.ntmps18
      go_wp2_with (go_at_call 46; (with_reducible refine (HI.out _).mono ?_); rintro e w1 ⟨rfl, hX⟩; have bl := (P1.step hX T).bel; clear hX)
      go_ret
      exact ⟨rfl, bl⟩
    · have hG2 : G = ⟨#[45]⟩ := hG
      subst hG2
      clear hG
      go_enter Tryd.func18, Tryd.ntmps18
      go_wp2_with (go_at_call 46; (with_reducible refine (HI.out _).mono ?_); rintro e w1 ⟨rfl, hX⟩; have bl := (P1.step hX T).bel; clear hX)
      go_ret
      exact ⟨rfl, bl⟩
  · have b1 : decide ((0 : Int) ≤ x) = false := decide_eq_false (by omega)
    have b3 : decide (x < 0) = true := decide_eq_true (by omega)
    have b4 : decide ((1 : Int) ≤ p) = true := decide_eq_true (by omega)
    have b5 : decide (p ≤ 21) = false := decide_eq_false (by omega)
    have b6 : decide ((-5 : Int) ≤ p) = true := decide_eq_true (by omega)
    have b7 : decide (p ≤ 0) = false := decide_eq_false (by omega)
    clear hp hA hA2 hx h1 h2 hq hL hA1
    cases g
    · have hG2 : G = ⟨#[]⟩ := hG
      subst hG2
      clear hG
      go_enter Tryd.func18, Tryd.ntmps18
      go_wp2_with (go_at_call 46; (with_reducible refine (HI.out _).mono ?_); rintro e w1 ⟨rfl, hX⟩; have bl := (P1.step hX T).bel; clear hX)
      go_ret
      exact ⟨rfl, bl⟩
    · have hG2 : G = ⟨#[45]⟩ := hG
      subst hG2
      clear hG
      go_enter Tryd.func18, Tryd.ntmps18
      go_wp2_with (go_at_call 46; (with_reducible refine (HI.out _).mono ?_); rintro e w1 ⟨rfl, hX⟩; have bl := (P1.step hX T).bel; clear hX)
      go_ret
      exact ⟨rfl, bl⟩
  · have b1 : decide ((0 : Int) ≤ x) = false := decide_eq_false (by omega)
    have b3 : decide (x < 0) = true := decide_eq_true (by omega)
    have b4 : decide ((1 : Int) ≤ p) = false := decide_eq_false (by omega)
    have b6 : decide ((-5 : Int) ≤ p) = false := decide_eq_false (by omega)
    clear hp hA hA2 hx h1 h2 hq hL hA1
    cases g
    · have hG2 : G = ⟨#[]⟩ := hG
      subst hG2
      clear hG
      go_enter Tryd.func18, Tryd.ntmps18
      go_wp2_with (go_at_call 46; (with_reducible refine (HI.out _).mono ?_); rintro e w1 ⟨rfl, hX⟩; have bl := (P1.step hX T).bel; clear hX)
      go_ret
      exact ⟨rfl, bl⟩
    · have hG2 : G = ⟨#[45]⟩ := hG
      subst hG2
      clear hG
      go_enter Tryd.func18, Tryd.ntmps18
      go_wp2_with (go_at_call 46; (with_reducible refine (HI.out _).mono ?_); rintro e w1 ⟨rfl, hX⟩; have bl := (P1.step hX T).bel; clear hX)
      go_ret
      exact ⟨rfl, bl⟩
set_option maxRecDepth 100000 in
set_option maxHeartbeats 8000000 in
theorem rtx_4l (g : Bool) (G A : ByteArray) (x p : Int) (w : World) (hG : G = if g then ⟨#[45]⟩ else ⟨#[]⟩) (hp : (A.size : Int) + x = p) (hA : A.data.toList ≠ []) (hA2 : A.size ≤ 120) (hx : -400 ≤ x ∧ x ≤ 400) (q : Int) (hq : p - 1 = q) (A1 B1 M B3 IT R : ByteArray) (ha1 : A.extract 0 1 = A1) (hL : 1 < A.size) (A2 B2 : ByteArray) (ha2 : A.extract 1 A.size = A2) (cc12 : G ++ A1 = B1) (uu12 : G.size + A1.size ≤ 9223372036854775807) (cc13 : B1 ++ ⟨#[46]⟩ = B2) (uu13 : B1.size + 1 ≤ 9223372036854775807) (cc14 : B2 ++ A2 = M) (uu14 : B2.size + A2.size ≤ 9223372036854775807) (cc15 : M ++ ⟨#[101]⟩ = B3) (uu15 : M.size + 1 ≤ 9223372036854775807) (cc16 : B3 ++ IT = R) (uu16 : B3.size + IT.size ≤ 9223372036854775807) (HI : Hid (∀ w, Calls Tryd.prog 46 #[.int .i64 q] w fun e w' => e = .returned (.string IT) ∧ Below w.heap.size w w')) (hc : (0 ≤ x ∧ 21 < p) ∨ (x < 0 ∧ 21 < p) ∨ (x < 0 ∧ p < -5)) : Calls Tryd.prog 18 #[.agg #[.bool g, .string A, .int .i64 x]] w fun e w' => e = .returned (.string R) ∧ Below w.heap.size w w' := by
  have wp : IntKind.i64.wrap ((A.size : Int) + x) = p := by rw [hp]; exact IntWalk.i64_in _ (by omega)
  have e1 := isE_f hA
  have e2 := ne_nil hA
  have hA1 := size_pos hA
  have HP : Hid (P1 w (w.alloc (.cells #[.bool g, .string A, .int .i64 x] 23)) g A x) := Lib.hid ⟨DC.new _ _ _ _, (Below.refl _ _).alloc (Nat.le_refl _) _⟩
  have T := HP.out
  have cl := T.all
  obtain ⟨-, x0, x1, x2⟩ := cl
  have wq : IntKind.i64.wrap (p - 1) = q := by rw [hq]; exact IntWalk.i64_in _ (by omega)
  have b0 : (1 : Int) ≤ A.size := by omega
  have b9 : decide ((1 : Int) < (A.size : Int)) = true := decide_eq_true (by omega)
  have vv12 : ¬ 9223372036854775807 < G.size + A1.size := by omega
  have vv13 : ¬ 9223372036854775807 < B1.size + 1 := by omega
  have vv14 : ¬ 9223372036854775807 < B2.size + A2.size := by omega
  have vv15 : ¬ 9223372036854775807 < M.size + 1 := by omega
  have vv16 : ¬ 9223372036854775807 < B3.size + IT.size := by omega
  rcases hc with ⟨h1, h2⟩ | ⟨h1, h2⟩ | ⟨h1, h2⟩
  · have b1 : decide ((0 : Int) ≤ x) = true := decide_eq_true (by omega)
    have b2 : decide (p ≤ 21) = false := decide_eq_false (by omega)
    have b3 : decide (x < 0) = false := decide_eq_false (by omega)
    have b6 : decide ((-5 : Int) ≤ p) = true := decide_eq_true (by omega)
    have b7 : decide (p ≤ 0) = false := decide_eq_false (by omega)
    clear hp hA hA2 hx h1 h2 hq hL hA1
    cases g
    · have hG2 : G = ⟨#[]⟩ := hG
      subst hG2
      clear hG
      go_enter Tryd.func18, Tryd.ntmps18
      go_wp2_with (go_at_call 46; (with_reducible refine (HI.out _).mono ?_); rintro e w1 ⟨rfl, hX⟩; have bl := (P1.step hX T).bel; clear hX)
      go_ret
      exact ⟨rfl, bl⟩
    · have hG2 : G = ⟨#[45]⟩ := hG
      subst hG2
      clear hG
      go_enter Tryd.func18, Tryd.ntmps18
      go_wp2_with (go_at_call 46; (with_reducible refine (HI.out _).mono ?_); rintro e w1 ⟨rfl, hX⟩; have bl := (P1.step hX T).bel; clear hX)
      go_ret
      exact ⟨rfl, bl⟩
  · have b1 : decide ((0 : Int) ≤ x) = false := decide_eq_false (by omega)
    have b3 : decide (x < 0) = true := decide_eq_true (by omega)
    have b4 : decide ((1 : Int) ≤ p) = true := decide_eq_true (by omega)
    have b5 : decide (p ≤ 21) = false := decide_eq_false (by omega)
    have b6 : decide ((-5 : Int) ≤ p) = true := decide_eq_true (by omega)
    have b7 : decide (p ≤ 0) = false := decide_eq_false (by omega)
    clear hp hA hA2 hx h1 h2 hq hL hA1
    cases g
    · have hG2 : G = ⟨#[]⟩ := hG
      subst hG2
      clear hG
      go_enter Tryd.func18, Tryd.ntmps18
      go_wp2_with (go_at_call 46; (with_reducible refine (HI.out _).mono ?_); rintro e w1 ⟨rfl, hX⟩; have bl := (P1.step hX T).bel; clear hX)
      go_ret
      exact ⟨rfl, bl⟩
    · have hG2 : G = ⟨#[45]⟩ := hG
      subst hG2
      clear hG
      go_enter Tryd.func18, Tryd.ntmps18
      go_wp2_with (go_at_call 46; (with_reducible refine (HI.out _).mono ?_); rintro e w1 ⟨rfl, hX⟩; have bl := (P1.step hX T).bel; clear hX)
      go_ret
      exact ⟨rfl, bl⟩
  · have b1 : decide ((0 : Int) ≤ x) = false := decide_eq_false (by omega)
    have b3 : decide (x < 0) = true := decide_eq_true (by omega)
    have b4 : decide ((1 : Int) ≤ p) = false := decide_eq_false (by omega)
    have b6 : decide ((-5 : Int) ≤ p) = false := decide_eq_false (by omega)
    clear hp hA hA2 hx h1 h2 hq hL hA1
    cases g
    · have hG2 : G = ⟨#[]⟩ := hG
      subst hG2
      clear hG
      go_enter Tryd.func18, Tryd.ntmps18
      go_wp2_with (go_at_call 46; (with_reducible refine (HI.out _).mono ?_); rintro e w1 ⟨rfl, hX⟩; have bl := (P1.step hX T).bel; clear hX)
      go_ret
      exact ⟨rfl, bl⟩
    · have hG2 : G = ⟨#[45]⟩ := hG
      subst hG2
      clear hG
      go_enter Tryd.func18, Tryd.ntmps18
      go_wp2_with (go_at_call 46; (with_reducible refine (HI.out _).mono ?_); rintro e w1 ⟨rfl, hX⟩; have bl := (P1.step hX T).bel; clear hX)
      go_ret
      exact ⟨rfl, bl⟩
theorem S_data (n : Nat) : (S n).data.toList = num n := rfl
theorem rtext_any (g : Bool) (n : Nat) (x : Int) (w : World) (h : okD g n x) (hn : 0 < n) : Calls Tryd.prog 18 #[.agg #[.bool g, .string (S n), .int .i64 x]] w fun e w' => e = .returned (.string (textS g n x)) ∧ Below w.heap.size w w' := by
  obtain ⟨hl, hx⟩ : (num n).length ≤ 120 ∧ -400 ≤ x ∧ x ≤ 400 := by
    rcases h with ⟨h1, -⟩ | ⟨-, -, a, b, c⟩
    · omega
    · exact ⟨a, b, c⟩
  have hz : (S n).size = (num n).length := S_size n
  have hA : (S n).data.toList ≠ [] := num_ne hn
  have hl2 : (S n).size ≤ 120 := by omega
  obtain ⟨G, hG⟩ : ∃ G : ByteArray, G = if g then ⟨#[45]⟩ else ⟨#[]⟩ := ⟨_, rfl⟩
  have hGs : G.size ≤ 1 := by rw [hG]; cases g <;> decide
  have hT : textS g n x = ⟨(G.data.toList ++ absL n x).toArray⟩ := by
    unfold textS textL
    rw [if_neg (by omega), hG]
    cases g <;> rfl
  rw [hT]
  by_cases h1 : 0 ≤ x ∧ ((num n).length : Int) + x ≤ 21
  · obtain ⟨k, rfl⟩ := Int.eq_ofNat_of_zero_le h1.1
    have e : G ++ S n ++ noughts k = ⟨(G.data.toList ++ absL n (k : Int)).toArray⟩ := by
      refine of_list ?_
      rw [cat_list, cat_list]
      unfold absL
      rw [if_pos h1, List.append_assoc]; rfl
    exact rtx_1 g G _ _ _ w hG rfl hA hl2 hx h1.1 (by omega) (noughts k) _ _ (Lib.hid fun w => noughts_any k w (by omega)) rfl (by omega) e (by rw [ByteArray.size_append, noughts_size]; omega)
  · by_cases h2 : x < 0 ∧ 1 ≤ ((num n).length : Int) + x ∧ ((num n).length : Int) + x ≤ 21
    · obtain ⟨k, hk⟩ := Int.eq_ofNat_of_zero_le (show 0 ≤ ((num n).length : Int) + x by omega)
      have e : G ++ (S n).extract 0 k ++ ⟨#[46]⟩ ++ (S n).extract k (S n).size = ⟨(G.data.toList ++ absL n x).toArray⟩ := by
        refine of_list ?_
        rw [cat_list, cat_list, cat_list, S_ext0, S_extk]
        unfold absL
        rw [if_neg h1, if_pos h2, show (((num n).length : Int) + x).toNat = k by omega, List.append_assoc, List.append_assoc]; rfl
      have s1 : ((S n).extract 0 k).size ≤ 120 := by rw [ByteArray.size_extract]; omega
      have s2 : ((S n).extract k (S n).size).size ≤ 120 := by rw [ByteArray.size_extract]; omega
      have t1 : (G ++ (S n).extract 0 k).size ≤ 121 := by rw [ByteArray.size_append]; omega
      have t2 : (G ++ (S n).extract 0 k ++ ⟨#[46]⟩ : ByteArray).size ≤ 122 := by rw [ByteArray.size_append]; show _ + 1 ≤ _; omega
      exact rtx_2 g G _ _ _ w hG rfl hA hl2 hx h2.1 k (by omega) (by omega) (by omega) _ _ _ _ _ rfl rfl rfl (by omega) rfl (by omega) e (by omega)
    · by_cases h3 : -5 ≤ ((num n).length : Int) + x ∧ ((num n).length : Int) + x ≤ 0
      · obtain ⟨k, hk⟩ := Int.eq_ofNat_of_zero_le (show 0 ≤ -(((num n).length : Int) + x) by omega)
        have e : G ++ ⟨#[48, 46]⟩ ++ noughts k ++ S n = ⟨(G.data.toList ++ absL n x).toArray⟩ := by
          refine of_list ?_
          rw [cat_list, cat_list, cat_list]
          unfold absL
          rw [if_neg h1, if_neg h2, if_pos h3, show (-(((num n).length : Int) + x)).toNat = k by omega, List.append_assoc, List.append_assoc]; rfl
        have t1 : (G ++ ⟨#[48, 46]⟩ : ByteArray).size ≤ 3 := by rw [ByteArray.size_append]; show _ + 2 ≤ _; omega
        have t2 : (G ++ ⟨#[48, 46]⟩ ++ noughts k : ByteArray).size ≤ 8 := by rw [ByteArray.size_append, noughts_size]; omega
        exact rtx_3 g G _ _ _ w hG rfl hA hl2 hx k (by omega) (by omega) (noughts k) _ _ _ (Lib.hid fun w => noughts_any k w (by omega)) rfl (by omega) rfl (by rw [noughts_size]; omega) e (by omega)
      · obtain ⟨q, hq⟩ : ∃ q : Int, ((num n).length : Int) + x - 1 = q := ⟨_, rfl⟩
        have hq0 : q ≠ 0 := by omega
        have hil := itoa_len q hq0 (by omega)
        have HI := Lib.hid (fun w => number_any q w hq0 (by omega))
        have hits : (⟨(Lib.itoa q).toArray⟩ : ByteArray).size ≤ 5 := by simpa [ByteArray.size] using hil
        have s1 : ((S n).extract 0 1).size ≤ 120 := by rw [ByteArray.size_extract]; omega
        have t1 : (G ++ (S n).extract 0 1).size ≤ 121 := by rw [ByteArray.size_append]; omega
        by_cases hL : 1 < (S n).size
        · have e : G ++ (S n).extract 0 1 ++ ⟨#[46]⟩ ++ (S n).extract 1 (S n).size ++ ⟨#[101]⟩ ++ ⟨(Lib.itoa q).toArray⟩ = ⟨(G.data.toList ++ absL n x).toArray⟩ := by
            refine of_list ?_
            rw [cat_list, cat_list, cat_list, cat_list, cat_list, S_ext0, S_extk]
            unfold absL
            rw [if_neg h1, if_neg h2, if_neg h3, hq, if_pos (by omega), List.append_assoc, List.append_assoc, List.append_assoc, List.append_assoc]; rfl
          have s2 : ((S n).extract 1 (S n).size).size ≤ 120 := by rw [ByteArray.size_extract]; omega
          have t2 : (G ++ (S n).extract 0 1 ++ ⟨#[46]⟩ : ByteArray).size ≤ 122 := by rw [ByteArray.size_append]; show _ + 1 ≤ _; omega
          have t3 : (G ++ (S n).extract 0 1 ++ ⟨#[46]⟩ ++ (S n).extract 1 (S n).size : ByteArray).size ≤ 242 := by rw [ByteArray.size_append]; omega
          have t4 : (G ++ (S n).extract 0 1 ++ ⟨#[46]⟩ ++ (S n).extract 1 (S n).size ++ ⟨#[101]⟩ : ByteArray).size ≤ 243 := by rw [ByteArray.size_append]; show _ + 1 ≤ _; omega
          exact rtx_4l g G _ _ _ w hG rfl hA hl2 hx q (by omega) _ _ _ _ _ _ rfl hL _ _ rfl rfl (by omega) rfl (by omega) rfl (by omega) rfl (by omega) e (by omega) HI (by omega)
        · have e : G ++ (S n).extract 0 1 ++ ⟨#[101]⟩ ++ ⟨(Lib.itoa q).toArray⟩ = ⟨(G.data.toList ++ absL n x).toArray⟩ := by
            refine of_list ?_
            rw [cat_list, cat_list, cat_list, S_ext0]
            unfold absL
            rw [if_neg h1, if_neg h2, if_neg h3, hq, if_neg (by omega), List.append_assoc, List.append_assoc]; rfl
          have t2 : (G ++ (S n).extract 0 1 ++ ⟨#[101]⟩ : ByteArray).size ≤ 122 := by rw [ByteArray.size_append]; show _ + 1 ≤ _; omega
          exact rtx_4s g G _ _ _ w hG rfl hA hl2 hx q (by omega) _ _ _ _ _ _ rfl (by have := size_pos hA; omega) rfl rfl (by omega) rfl (by omega) e (by omega) HI (by omega)
set_option maxRecDepth 100000 in
set_option maxHeartbeats 8000000 in
theorem rtext_zero (x : Int) (g : Bool) (w : World) : Calls Tryd.prog 18 #[.agg #[.bool g, .string (S 0), .int .i64 x]] w fun e w' => e = .returned (.string ⟨#[48]⟩) ∧ Below w.heap.size w w' := by
  have e1 : (S 0).toList.isEmpty = true := by rw [ByteArray.toList_eq]; rfl
  have e2 : (S 0).toList = [] := by rw [ByteArray.toList_eq]; rfl
  obtain ⟨s, hS⟩ : ∃ s, S 0 = s := ⟨_, rfl⟩
  rw [hS] at e1 e2 ⊢
  clear hS
  obtain ⟨x0, x1, x2⟩ := (DC.new w g s x).cells
  have b0 : Below w.heap.size w (w.alloc (.cells #[.bool g, .string s, .int .i64 x] 23)) := (Below.refl _ _).alloc (Nat.le_refl _) _
  go_enter Tryd.func18, Tryd.ntmps18
  go_wp2
  go_ret
  exact ⟨rfl, b0⟩
end Go.Proofs.YtaikmelefllgpaaDoor.Dec
