/-
  Contracts of package decimal and its reference: normal forms.
-/
import Derived.Test.YtjidjcnjgjmeoaaDoorDecA
namespace Go.Proofs.YtjidjcnjgjmeoaaDoor.Dec
open Go.RowKit
set_option linter.unusedVariables false
set_option linter.unusedSimpArgs false
open Go.Proofs.YtjidjcnjgjmeoaaDoor.Dig

/-- The three cells of a decimal. -/
def df (g : Bool) (s : ByteArray) (x : Int) : Nat → Value
  | 0 => .bool g
  | 1 => .string s
  | _ => .int .i64 x
def DC (w : World) (A : Nat) (g : Bool) (s : ByteArray) (x : Int) : Prop := w.rowIs A 23 3 (df g s x)
section
variable {w w' : World} {A : Nat} {g : Bool} {s : ByteArray} {x : Int}
theorem DC.cells (h : DC w A g s x) : w.cell? ⟨A, 0, none⟩ = some (.bool g) ∧ w.cell? ⟨A, 1, none⟩ = some (.string s) ∧ w.cell? ⟨A, 2, none⟩ = some (.int .i64 x) :=
  ⟨World.rowIs.cell h (by decide), World.rowIs.cell h (by decide), World.rowIs.cell h (by decide)⟩
theorem DC.fz (h : DC w A g s x) (i : Nat) : w.frozen? ⟨A, i, none⟩ = false := World.rowIs.frozen h i
theorem DC.lt (h : DC w A g s x) : A < w.heap.size := World.rowIs.lt h
theorem DC.below {n : Nat} (h : DC w A g s x) (hb : Below n w w') (hn : A < n) : DC w' A g s x := World.rowIs.of_block h (hb.block A hn)
theorem DC.new (w : World) (g : Bool) (s : ByteArray) (x : Int) : DC (w.alloc (.cells #[.bool g, .string s, .int .i64 x] 23)) w.heap.size g s x :=
  World.rowIs_alloc w _ 23 (df g s x) (fun i hi => by
    have hi' : i < 3 := hi
    rcases (show i = 0 ∨ i = 1 ∨ i = 2 by omega) with rfl | rfl | rfl <;> rfl)
theorem DC.alloc (h : DC w A g s x) (o : Obj) : DC (w.alloc o) A g s x := World.rowIs.alloc h o
end
theorem S_cut0 {n : Nat} (hn : 0 < n) : (S n).extract 0 ((S n).size - zr n) = S (cut n) := by
  have h := len_cut hn
  have h2 : 0 < (num (cut n)).length := by
    rw [List.length_pos_iff]
    exact fun e => absurd (num_nil.1 e) (by have := cut_pos hn; omega)
  rw [S_cut (by rw [S_size]; omega)]; rfl
theorem cut_size {n : Nat} (hn : 0 < n) : (S (cut n)).size + zr n = (S n).size := by
  rw [S_size, S_size]; exact len_cut hn
theorem retD {g g' : Bool} {n n' : Nat} {x x' e e' : Int} (h : (g, n, x, e) = (g', n', x', e')) : Ending.returned (.tuple #[.agg #[.bool g, .string (S n), .int .i64 x], .int .i64 e]) = .returned (.tuple #[.agg #[.bool g', .string (S n'), .int .i64 x'], .int .i64 e']) := by
  injection h with h1 h2
  injection h2 with h2 h3
  injection h3 with h3 h4
  rw [h1, h2, h3, h4]
/-- The parts of a normal form that is known. -/
theorem nrm_parts {g : Bool} {n : Nat} {x : Int} {r : Bool × Nat × Int × Int} (h : nrm g n x = r) : Ending.returned (.tuple #[.agg #[.bool (nG g n x), .string (S (nN n x)), .int .i64 (nX n x)], .int .i64 (nE n x)]) = .returned (.tuple #[.agg #[.bool r.1, .string (S r.2.1), .int .i64 r.2.2.1], .int .i64 r.2.2.2]) := by
  subst h; rfl
theorem fits_f {n : Nat} {x : Int} (h : 120 < (S (cut n)).size ∨ 400 < x + zr n ∨ x + zr n < -400) : fits n x = false := by
  unfold fits; rw [decide_eq_false_iff_not, ← S_size]; omega
theorem fits_t {n : Nat} {x : Int} (h : (S (cut n)).size ≤ 120) (h1 : x + zr n ≤ 400) (h2 : -400 ≤ x + zr n) : fits n x = true := by
  unfold fits; rw [decide_eq_true_eq, ← S_size]; exact ⟨h, h1, h2⟩
theorem num_ch {s : ByteArray} {n : Nat} (h : Num s n) : ∀ k (hk : k < s.size), 48 ≤ ((s[k]'hk).toNat : Int) ∧ ((s[k]'hk).toNat : Int) ≤ 57 := fun k hk => by
  have := isd_iff.1 (digs_get h.1 (k := k) hk)
  exact ⟨by have := this.1; exact Int.ofNat_le.2 this, by have := this.2; exact Int.ofNat_le.2 this⟩
theorem num_le {s : ByteArray} {n : Nat} (h : Num s n) : (S n).size ≤ s.size := by
  rw [S_size, num_len, ← h.2]; exact val_lt h.1
set_option maxRecDepth 100000 in
set_option maxHeartbeats 2000000 in
theorem make_zero (g : Bool) (s : ByteArray) (n : Nat) (x : Int) (w : World) (h : Num s n) (hs : s.size ≤ 100000) (hx : -9223372036854775808 ≤ x ∧ x ≤ 9223372036854775807) (hn : n = 0) : Calls Tryd.prog 21 #[.bool g, .string s, .int .i64 x] w fun e w' => e = .returned (.tuple #[.agg #[.bool (nG g n x), .string (S (nN n x)), .int .i64 (nX n x)], .int .i64 (nE n x)]) ∧ Below w.heap.size w w' := by
  have HT := Lib.hid (fun w => trimLeft_num s n w h)
  have HD := Lib.hid (num_ch h)
  have hsn := num_le h
  have HR := Lib.hid (nrm_parts (show nrm g n x = (false, 0, 0, 0) by rw [hn]; exact nrm_zero g x))
  have hT : (S n).toList = [] := tl_nil (by rw [hn]; rfl)
  clear hn
  go_enter Tryd.func21, Tryd.ntmps21
  go_wp2
  go_loop [12] (fun i => ∃ k : Nat, k ≤ s.size ∧ i = .int .i64 k) (fun i => s.size - (intOf i).toNat)
  case atStart => exact ⟨0, Nat.zero_le _, rfl⟩
  case round =>
    obtain ⟨k, hk, rfl⟩ := hrel
    by_cases hlt : k < s.size
    · have hd := HD.out k hlt
      obtain ⟨hd1, hd2⟩ := hd
      go_wp2
      go_round
      case rel => exact ⟨k + 1, hlt, by go_num⟩
      case measure => simp [intOf]; omega
    · obtain rfl : k = s.size := by omega
      go_wp2_with (first | (go_at_call 39; (with_reducible refine (HT.out _).mono ?_); rintro e w' ⟨rfl, rfl⟩) | (go_at_call 37; (with_reducible refine (HZ.out _).mono ?_); rintro e w' ⟨rfl, rfl⟩))
      exact bodyPost_ret (v := .tuple #[.agg #[.bool false, .string ⟨#[]⟩, .int .i64 0], .int .i64 0]) (by simp [results, Tryd.results21, go_sem]) rfl ⟨by rw [HR.out] <;> rfl, (by first | exact Below.refl _ _ | exact (Below.refl _ _).alloc (Nat.le_refl _) _ | exact ((Below.refl _ _).alloc (Nat.le_refl _) _).alloc (by simp) _ | exact (((Below.refl _ _).alloc (Nat.le_refl _) _).alloc (by simp) _).alloc (by simp) _)⟩
set_option maxRecDepth 100000 in
set_option maxHeartbeats 2000000 in
theorem make_long (g : Bool) (s : ByteArray) (n : Nat) (x : Int) (w : World) (h : Num s n) (hs : s.size ≤ 100000) (hx : -9223372036854775808 ≤ x ∧ x ≤ 9223372036854775807) (hn : 0 < n) (hc : 120 < (S (cut n)).size) : Calls Tryd.prog 21 #[.bool g, .string s, .int .i64 x] w fun e w' => e = .returned (.tuple #[.agg #[.bool (nG g n x), .string (S (nN n x)), .int .i64 (nX n x)], .int .i64 (nE n x)]) ∧ Below w.heap.size w w' := by
  have HT := Lib.hid (fun w => trimLeft_num s n w h)
  have HD := Lib.hid (num_ch h)
  have hsn := num_le h
  have HR := Lib.hid (nrm_parts (nrm_no (g := g) (x := x) hn (fits_f (.inl hc))))
  have HZ := Lib.hid (fun w => zeros_any n w (by omega))
  have HZR := Lib.hid (zer_is n)
  rw [HZR.out] at HZ
  have h0 := S_pos hn
  have hT := tl_ne h0
  have hT2 := tl_ne' h0
  have HC := Lib.hid (S_cut0 hn)
  have hcs := cut_size hn
  have hnx : (((S n).size : Int) - (zr n : Int)).toNat = (S n).size - zr n := by omega
  go_enter Tryd.func21, Tryd.ntmps21
  go_wp2
  go_loop [12] (fun i => ∃ k : Nat, k ≤ s.size ∧ i = .int .i64 k) (fun i => s.size - (intOf i).toNat)
  case atStart => exact ⟨0, Nat.zero_le _, rfl⟩
  case round =>
    obtain ⟨k, hk, rfl⟩ := hrel
    by_cases hlt : k < s.size
    · have hd := HD.out k hlt
      obtain ⟨hd1, hd2⟩ := hd
      go_wp2
      go_round
      case rel => exact ⟨k + 1, hlt, by go_num⟩
      case measure => simp [intOf]; omega
    · obtain rfl : k = s.size := by omega
      go_wp2_with (first | (go_at_call 39; (with_reducible refine (HT.out _).mono ?_); rintro e w' ⟨rfl, rfl⟩) | (go_at_call 37; (with_reducible refine (HZ.out _).mono ?_); rintro e w' ⟨rfl, rfl⟩))
      exact bodyPost_ret (v := .tuple #[.agg #[.bool false, .string ⟨#[]⟩, .int .i64 0], .int .i64 2]) (by simp [results, Tryd.results21, go_sem]) rfl ⟨by rw [HR.out] <;> rfl, (by first | exact Below.refl _ _ | exact (Below.refl _ _).alloc (Nat.le_refl _) _ | exact ((Below.refl _ _).alloc (Nat.le_refl _) _).alloc (by simp) _ | exact (((Below.refl _ _).alloc (Nat.le_refl _) _).alloc (by simp) _).alloc (by simp) _)⟩
set_option maxRecDepth 100000 in
set_option maxHeartbeats 2000000 in
theorem make_high (g : Bool) (s : ByteArray) (n : Nat) (x : Int) (w : World) (h : Num s n) (hs : s.size ≤ 100000) (hx : -9223372036854775808 ≤ x ∧ x ≤ 9223372036854775807) (hn : 0 < n) (hc1 : (S (cut n)).size ≤ 120) (hc : 400 < x + zr n) : Calls Tryd.prog 21 #[.bool g, .string s, .int .i64 x] w fun e w' => e = .returned (.tuple #[.agg #[.bool (nG g n x), .string (S (nN n x)), .int .i64 (nX n x)], .int .i64 (nE n x)]) ∧ Below w.heap.size w w' := by
  have HT := Lib.hid (fun w => trimLeft_num s n w h)
  have HD := Lib.hid (num_ch h)
  have hsn := num_le h
  have HR := Lib.hid (nrm_parts (nrm_no (g := g) (x := x) hn (fits_f (.inr (.inl hc)))))
  have HZ := Lib.hid (fun w => zeros_any n w (by omega))
  have HZR := Lib.hid (zer_is n)
  rw [HZR.out] at HZ
  have h0 := S_pos hn
  have hT := tl_ne h0
  have hT2 := tl_ne' h0
  have HC := Lib.hid (S_cut0 hn)
  have hcs := cut_size hn
  have hnx : (((S n).size : Int) - (zr n : Int)).toNat = (S n).size - zr n := by omega
  go_enter Tryd.func21, Tryd.ntmps21
  go_wp2
  go_loop [12] (fun i => ∃ k : Nat, k ≤ s.size ∧ i = .int .i64 k) (fun i => s.size - (intOf i).toNat)
  case atStart => exact ⟨0, Nat.zero_le _, rfl⟩
  case round =>
    obtain ⟨k, hk, rfl⟩ := hrel
    by_cases hlt : k < s.size
    · have hd := HD.out k hlt
      obtain ⟨hd1, hd2⟩ := hd
      go_wp2
      go_round
      case rel => exact ⟨k + 1, hlt, by go_num⟩
      case measure => simp [intOf]; omega
    · obtain rfl : k = s.size := by omega
      go_wp2_with (first | (go_at_call 39; (with_reducible refine (HT.out _).mono ?_); rintro e w' ⟨rfl, rfl⟩) | (go_at_call 37; (with_reducible refine (HZ.out _).mono ?_); rintro e w' ⟨rfl, rfl⟩))
      exact bodyPost_ret (v := .tuple #[.agg #[.bool false, .string ⟨#[]⟩, .int .i64 0], .int .i64 2]) (by simp [results, Tryd.results21, go_sem]) rfl ⟨by rw [HR.out] <;> rfl, (by first | exact Below.refl _ _ | exact (Below.refl _ _).alloc (Nat.le_refl _) _ | exact ((Below.refl _ _).alloc (Nat.le_refl _) _).alloc (by simp) _ | exact (((Below.refl _ _).alloc (Nat.le_refl _) _).alloc (by simp) _).alloc (by simp) _)⟩
set_option maxRecDepth 100000 in
set_option maxHeartbeats 2000000 in
theorem make_low (g : Bool) (s : ByteArray) (n : Nat) (x : Int) (w : World) (h : Num s n) (hs : s.size ≤ 100000) (hx : -9223372036854775808 ≤ x ∧ x ≤ 9223372036854775807) (hn : 0 < n) (hc1 : (S (cut n)).size ≤ 120) (hc2 : x + zr n ≤ 400) (hc : x + zr n < -400) : Calls Tryd.prog 21 #[.bool g, .string s, .int .i64 x] w fun e w' => e = .returned (.tuple #[.agg #[.bool (nG g n x), .string (S (nN n x)), .int .i64 (nX n x)], .int .i64 (nE n x)]) ∧ Below w.heap.size w w' := by
  have HT := Lib.hid (fun w => trimLeft_num s n w h)
  have HD := Lib.hid (num_ch h)
  have hsn := num_le h
  have HR := Lib.hid (nrm_parts (nrm_no (g := g) (x := x) hn (fits_f (.inr (.inr hc)))))
  have HZ := Lib.hid (fun w => zeros_any n w (by omega))
  have HZR := Lib.hid (zer_is n)
  rw [HZR.out] at HZ
  have h0 := S_pos hn
  have hT := tl_ne h0
  have hT2 := tl_ne' h0
  have HC := Lib.hid (S_cut0 hn)
  have hcs := cut_size hn
  have hnx : (((S n).size : Int) - (zr n : Int)).toNat = (S n).size - zr n := by omega
  go_enter Tryd.func21, Tryd.ntmps21
  go_wp2
  go_loop [12] (fun i => ∃ k : Nat, k ≤ s.size ∧ i = .int .i64 k) (fun i => s.size - (intOf i).toNat)
  case atStart => exact ⟨0, Nat.zero_le _, rfl⟩
  case round =>
    obtain ⟨k, hk, rfl⟩ := hrel
    by_cases hlt : k < s.size
    · have hd := HD.out k hlt
      obtain ⟨hd1, hd2⟩ := hd
      go_wp2
      go_round
      case rel => exact ⟨k + 1, hlt, by go_num⟩
      case measure => simp [intOf]; omega
    · obtain rfl : k = s.size := by omega
      go_wp2_with (first | (go_at_call 39; (with_reducible refine (HT.out _).mono ?_); rintro e w' ⟨rfl, rfl⟩) | (go_at_call 37; (with_reducible refine (HZ.out _).mono ?_); rintro e w' ⟨rfl, rfl⟩))
      exact bodyPost_ret (v := .tuple #[.agg #[.bool false, .string ⟨#[]⟩, .int .i64 0], .int .i64 2]) (by simp [results, Tryd.results21, go_sem]) rfl ⟨by rw [HR.out] <;> rfl, (by first | exact Below.refl _ _ | exact (Below.refl _ _).alloc (Nat.le_refl _) _ | exact ((Below.refl _ _).alloc (Nat.le_refl _) _).alloc (by simp) _ | exact (((Below.refl _ _).alloc (Nat.le_refl _) _).alloc (by simp) _).alloc (by simp) _)⟩
set_option maxRecDepth 100000 in
set_option maxHeartbeats 2000000 in
theorem make_fits (g : Bool) (s : ByteArray) (n : Nat) (x : Int) (w : World) (h : Num s n) (hs : s.size ≤ 100000) (hx : -9223372036854775808 ≤ x ∧ x ≤ 9223372036854775807) (hn : 0 < n) (hc1 : (S (cut n)).size ≤ 120) (hc2 : x + zr n ≤ 400) (hc3 : -400 ≤ x + zr n) : Calls Tryd.prog 21 #[.bool g, .string s, .int .i64 x] w fun e w' => e = .returned (.tuple #[.agg #[.bool (nG g n x), .string (S (nN n x)), .int .i64 (nX n x)], .int .i64 (nE n x)]) ∧ Below w.heap.size w w' := by
  have HT := Lib.hid (fun w => trimLeft_num s n w h)
  have HD := Lib.hid (num_ch h)
  have hsn := num_le h
  have HR := Lib.hid (nrm_parts (nrm_yes (g := g) (x := x) hn (fits_t hc1 hc2 hc3)))
  have HZ := Lib.hid (fun w => zeros_any n w (by omega))
  have HZR := Lib.hid (zer_is n)
  rw [HZR.out] at HZ
  have h0 := S_pos hn
  have hT := tl_ne h0
  have hT2 := tl_ne' h0
  have HC := Lib.hid (S_cut0 hn)
  have hcs := cut_size hn
  have hnx : (((S n).size : Int) - (zr n : Int)).toNat = (S n).size - zr n := by omega
  go_enter Tryd.func21, Tryd.ntmps21
  go_wp2
  go_loop [12] (fun i => ∃ k : Nat, k ≤ s.size ∧ i = .int .i64 k) (fun i => s.size - (intOf i).toNat)
  case atStart => exact ⟨0, Nat.zero_le _, rfl⟩
  case round =>
    obtain ⟨k, hk, rfl⟩ := hrel
    by_cases hlt : k < s.size
    · have hd := HD.out k hlt
      obtain ⟨hd1, hd2⟩ := hd
      go_wp2
      go_round
      case rel => exact ⟨k + 1, hlt, by go_num⟩
      case measure => simp [intOf]; omega
    · obtain rfl : k = s.size := by omega
      go_wp2_with (first | (go_at_call 39; (with_reducible refine (HT.out _).mono ?_); rintro e w' ⟨rfl, rfl⟩) | (go_at_call 37; (with_reducible refine (HZ.out _).mono ?_); rintro e w' ⟨rfl, rfl⟩))
      exact bodyPost_ret (v := .tuple #[.agg #[.bool g, .string ((S n).extract 0 ((S n).size - zr n)), .int .i64 (x + zr n)], .int .i64 0]) (by simp [results, Tryd.results21, go_sem]) rfl ⟨by rw [HR.out, HC.out], (by first | exact Below.refl _ _ | exact (Below.refl _ _).alloc (Nat.le_refl _) _ | exact ((Below.refl _ _).alloc (Nat.le_refl _) _).alloc (by simp) _ | exact (((Below.refl _ _).alloc (Nat.le_refl _) _).alloc (by simp) _).alloc (by simp) _)⟩
theorem make_any (g : Bool) (s : ByteArray) (n : Nat) (x : Int) (w : World) (h : Num s n) (hs : s.size ≤ 100000) (hx : -9223372036854775808 ≤ x ∧ x ≤ 9223372036854775807) : Calls Tryd.prog 21 #[.bool g, .string s, .int .i64 x] w fun e w' => e = .returned (.tuple #[.agg #[.bool (nG g n x), .string (S (nN n x)), .int .i64 (nX n x)], .int .i64 (nE n x)]) ∧ Below w.heap.size w w' := by
  rcases Nat.eq_zero_or_pos n with hn | hn
  · exact make_zero g s n x w h hs hx hn
  by_cases h1 : 120 < (S (cut n)).size
  · exact make_long g s n x w h hs hx hn h1
  by_cases h2 : 400 < x + zr n
  · exact make_high g s n x w h hs hx hn (by omega) h2
  by_cases h3 : x + zr n < -400
  · exact make_low g s n x w h hs hx hn (by omega) (by omega) h3
  · exact make_fits g s n x w h hs hx hn (by omega) (by omega) (by omega)
set_option maxRecDepth 100000 in
set_option maxHeartbeats 2000000 in
theorem norm_zero (g : Bool) (s : ByteArray) (n : Nat) (x : Int) (w : World) (h : Num s n) (hs : s.size ≤ 100000) (hx : -9223372036854775808 ≤ x ∧ x ≤ 9223372036854775807) (hn : n = 0) : Calls Tryd.prog 27 #[.bool g, .string s, .int .i64 x] w fun e w' => e = .returned (.tuple #[.agg #[.bool (nG g n x), .string (S (nN n x)), .int .i64 (nX n x)], .int .i64 (nE n x)]) ∧ Below w.heap.size w w' := by
  have HT := Lib.hid (fun w => strip_any s n w (by omega) h)
  have hsn := num_le h
  have HR := Lib.hid (nrm_parts (show nrm g n x = (false, 0, 0, 0) by rw [hn]; exact nrm_zero g x))
  have hT : (S n).toList = [] := tl_nil (by rw [hn]; rfl)
  clear hn
  go_enter Tryd.func27, Tryd.ntmps27
  go_wp2_with (first | (go_at_call 22; (with_reducible refine (HT.out _).mono ?_); rintro e w' ⟨rfl, rfl⟩) | (go_at_call 11; (with_reducible refine (HZ.out _).mono ?_); rintro e w' ⟨rfl, rfl⟩))
  exact bodyPost_ret (v := .tuple #[.agg #[.bool false, .string ⟨#[]⟩, .int .i64 0], .int .i64 0]) (by simp [results, Tryd.results27, go_sem]) rfl ⟨by rw [HR.out] <;> rfl, (by first | exact Below.refl _ _ | exact (Below.refl _ _).alloc (Nat.le_refl _) _ | exact ((Below.refl _ _).alloc (Nat.le_refl _) _).alloc (by simp) _ | exact (((Below.refl _ _).alloc (Nat.le_refl _) _).alloc (by simp) _).alloc (by simp) _)⟩
set_option maxRecDepth 100000 in
set_option maxHeartbeats 2000000 in
theorem norm_long (g : Bool) (s : ByteArray) (n : Nat) (x : Int) (w : World) (h : Num s n) (hs : s.size ≤ 100000) (hx : -9223372036854775808 ≤ x ∧ x ≤ 9223372036854775807) (hn : 0 < n) (hc : 120 < (S (cut n)).size) : Calls Tryd.prog 27 #[.bool g, .string s, .int .i64 x] w fun e w' => e = .returned (.tuple #[.agg #[.bool (nG g n x), .string (S (nN n x)), .int .i64 (nX n x)], .int .i64 (nE n x)]) ∧ Below w.heap.size w w' := by
  have HT := Lib.hid (fun w => strip_any s n w (by omega) h)
  have hsn := num_le h
  have HR := Lib.hid (nrm_parts (nrm_no (g := g) (x := x) hn (fits_f (.inl hc))))
  have HZ := Lib.hid (fun w => rzeros_any n w (by omega))
  have HZR := Lib.hid (zer_is n)
  rw [HZR.out] at HZ
  have h0 := S_pos hn
  have hT := tl_ne h0
  have hT2 := tl_ne' h0
  have HC := Lib.hid (S_cut0 hn)
  have hcs := cut_size hn
  have hnx : (((S n).size : Int) - (zr n : Int)).toNat = (S n).size - zr n := by omega
  go_enter Tryd.func27, Tryd.ntmps27
  go_wp2_with (first | (go_at_call 22; (with_reducible refine (HT.out _).mono ?_); rintro e w' ⟨rfl, rfl⟩) | (go_at_call 11; (with_reducible refine (HZ.out _).mono ?_); rintro e w' ⟨rfl, rfl⟩))
  exact bodyPost_ret (v := .tuple #[.agg #[.bool false, .string ⟨#[]⟩, .int .i64 0], .int .i64 2]) (by simp [results, Tryd.results27, go_sem]) rfl ⟨by rw [HR.out] <;> rfl, (by first | exact Below.refl _ _ | exact (Below.refl _ _).alloc (Nat.le_refl _) _ | exact ((Below.refl _ _).alloc (Nat.le_refl _) _).alloc (by simp) _ | exact (((Below.refl _ _).alloc (Nat.le_refl _) _).alloc (by simp) _).alloc (by simp) _)⟩
set_option maxRecDepth 100000 in
set_option maxHeartbeats 2000000 in
theorem norm_far (g : Bool) (s : ByteArray) (n : Nat) (x : Int) (w : World) (h : Num s n) (hs : s.size ≤ 100000) (hx : -9223372036854775808 ≤ x ∧ x ≤ 9223372036854775807) (hn : 0 < n) (hc1 : (S (cut n)).size ≤ 120) (hc : 400 < x) : Calls Tryd.prog 27 #[.bool g, .string s, .int .i64 x] w fun e w' => e = .returned (.tuple #[.agg #[.bool (nG g n x), .string (S (nN n x)), .int .i64 (nX n x)], .int .i64 (nE n x)]) ∧ Below w.heap.size w w' := by
  have HT := Lib.hid (fun w => strip_any s n w (by omega) h)
  have hsn := num_le h
  have HR := Lib.hid (nrm_parts (nrm_no (g := g) (x := x) hn (fits_f (.inr (.inl (by omega))))))
  have HZ := Lib.hid (fun w => rzeros_any n w (by omega))
  have HZR := Lib.hid (zer_is n)
  rw [HZR.out] at HZ
  have h0 := S_pos hn
  have hT := tl_ne h0
  have hT2 := tl_ne' h0
  have HC := Lib.hid (S_cut0 hn)
  have hcs := cut_size hn
  have hnx : (((S n).size : Int) - (zr n : Int)).toNat = (S n).size - zr n := by omega
  go_enter Tryd.func27, Tryd.ntmps27
  go_wp2_with (first | (go_at_call 22; (with_reducible refine (HT.out _).mono ?_); rintro e w' ⟨rfl, rfl⟩) | (go_at_call 11; (with_reducible refine (HZ.out _).mono ?_); rintro e w' ⟨rfl, rfl⟩))
  exact bodyPost_ret (v := .tuple #[.agg #[.bool false, .string ⟨#[]⟩, .int .i64 0], .int .i64 2]) (by simp [results, Tryd.results27, go_sem]) rfl ⟨by rw [HR.out] <;> rfl, (by first | exact Below.refl _ _ | exact (Below.refl _ _).alloc (Nat.le_refl _) _ | exact ((Below.refl _ _).alloc (Nat.le_refl _) _).alloc (by simp) _ | exact (((Below.refl _ _).alloc (Nat.le_refl _) _).alloc (by simp) _).alloc (by simp) _)⟩
set_option maxRecDepth 100000 in
set_option maxHeartbeats 2000000 in
theorem norm_high (g : Bool) (s : ByteArray) (n : Nat) (x : Int) (w : World) (h : Num s n) (hs : s.size ≤ 100000) (hx : -9223372036854775808 ≤ x ∧ x ≤ 9223372036854775807) (hn : 0 < n) (hc1 : (S (cut n)).size ≤ 120) (hc0 : x ≤ 400) (hc : 400 < x + zr n) : Calls Tryd.prog 27 #[.bool g, .string s, .int .i64 x] w fun e w' => e = .returned (.tuple #[.agg #[.bool (nG g n x), .string (S (nN n x)), .int .i64 (nX n x)], .int .i64 (nE n x)]) ∧ Below w.heap.size w w' := by
  have HT := Lib.hid (fun w => strip_any s n w (by omega) h)
  have hsn := num_le h
  have HR := Lib.hid (nrm_parts (nrm_no (g := g) (x := x) hn (fits_f (.inr (.inl hc)))))
  have HZ := Lib.hid (fun w => rzeros_any n w (by omega))
  have HZR := Lib.hid (zer_is n)
  rw [HZR.out] at HZ
  have h0 := S_pos hn
  have hT := tl_ne h0
  have hT2 := tl_ne' h0
  have HC := Lib.hid (S_cut0 hn)
  have hcs := cut_size hn
  have hnx : (((S n).size : Int) - (zr n : Int)).toNat = (S n).size - zr n := by omega
  go_enter Tryd.func27, Tryd.ntmps27
  go_wp2_with (first | (go_at_call 22; (with_reducible refine (HT.out _).mono ?_); rintro e w' ⟨rfl, rfl⟩) | (go_at_call 11; (with_reducible refine (HZ.out _).mono ?_); rintro e w' ⟨rfl, rfl⟩))
  exact bodyPost_ret (v := .tuple #[.agg #[.bool false, .string ⟨#[]⟩, .int .i64 0], .int .i64 2]) (by simp [results, Tryd.results27, go_sem]) rfl ⟨by rw [HR.out] <;> rfl, (by first | exact Below.refl _ _ | exact (Below.refl _ _).alloc (Nat.le_refl _) _ | exact ((Below.refl _ _).alloc (Nat.le_refl _) _).alloc (by simp) _ | exact (((Below.refl _ _).alloc (Nat.le_refl _) _).alloc (by simp) _).alloc (by simp) _)⟩
set_option maxRecDepth 100000 in
set_option maxHeartbeats 2000000 in
theorem norm_low (g : Bool) (s : ByteArray) (n : Nat) (x : Int) (w : World) (h : Num s n) (hs : s.size ≤ 100000) (hx : -9223372036854775808 ≤ x ∧ x ≤ 9223372036854775807) (hn : 0 < n) (hc1 : (S (cut n)).size ≤ 120) (hc0 : x ≤ 400) (hc2 : x + zr n ≤ 400) (hc : x + zr n < -400) : Calls Tryd.prog 27 #[.bool g, .string s, .int .i64 x] w fun e w' => e = .returned (.tuple #[.agg #[.bool (nG g n x), .string (S (nN n x)), .int .i64 (nX n x)], .int .i64 (nE n x)]) ∧ Below w.heap.size w w' := by
  have HT := Lib.hid (fun w => strip_any s n w (by omega) h)
  have hsn := num_le h
  have HR := Lib.hid (nrm_parts (nrm_no (g := g) (x := x) hn (fits_f (.inr (.inr hc)))))
  have HZ := Lib.hid (fun w => rzeros_any n w (by omega))
  have HZR := Lib.hid (zer_is n)
  rw [HZR.out] at HZ
  have h0 := S_pos hn
  have hT := tl_ne h0
  have hT2 := tl_ne' h0
  have HC := Lib.hid (S_cut0 hn)
  have hcs := cut_size hn
  have hnx : (((S n).size : Int) - (zr n : Int)).toNat = (S n).size - zr n := by omega
  go_enter Tryd.func27, Tryd.ntmps27
  go_wp2_with (first | (go_at_call 22; (with_reducible refine (HT.out _).mono ?_); rintro e w' ⟨rfl, rfl⟩) | (go_at_call 11; (with_reducible refine (HZ.out _).mono ?_); rintro e w' ⟨rfl, rfl⟩))
  exact bodyPost_ret (v := .tuple #[.agg #[.bool false, .string ⟨#[]⟩, .int .i64 0], .int .i64 2]) (by simp [results, Tryd.results27, go_sem]) rfl ⟨by rw [HR.out] <;> rfl, (by first | exact Below.refl _ _ | exact (Below.refl _ _).alloc (Nat.le_refl _) _ | exact ((Below.refl _ _).alloc (Nat.le_refl _) _).alloc (by simp) _ | exact (((Below.refl _ _).alloc (Nat.le_refl _) _).alloc (by simp) _).alloc (by simp) _)⟩
set_option maxRecDepth 100000 in
set_option maxHeartbeats 2000000 in
theorem norm_fits (g : Bool) (s : ByteArray) (n : Nat) (x : Int) (w : World) (h : Num s n) (hs : s.size ≤ 100000) (hx : -9223372036854775808 ≤ x ∧ x ≤ 9223372036854775807) (hn : 0 < n) (hc1 : (S (cut n)).size ≤ 120) (hc0 : x ≤ 400) (hc2 : x + zr n ≤ 400) (hc3 : -400 ≤ x + zr n) : Calls Tryd.prog 27 #[.bool g, .string s, .int .i64 x] w fun e w' => e = .returned (.tuple #[.agg #[.bool (nG g n x), .string (S (nN n x)), .int .i64 (nX n x)], .int .i64 (nE n x)]) ∧ Below w.heap.size w w' := by
  have HT := Lib.hid (fun w => strip_any s n w (by omega) h)
  have hsn := num_le h
  have HR := Lib.hid (nrm_parts (nrm_yes (g := g) (x := x) hn (fits_t hc1 hc2 hc3)))
  have HZ := Lib.hid (fun w => rzeros_any n w (by omega))
  have HZR := Lib.hid (zer_is n)
  rw [HZR.out] at HZ
  have h0 := S_pos hn
  have hT := tl_ne h0
  have hT2 := tl_ne' h0
  have HC := Lib.hid (S_cut0 hn)
  have hcs := cut_size hn
  have hnx : (((S n).size : Int) - (zr n : Int)).toNat = (S n).size - zr n := by omega
  go_enter Tryd.func27, Tryd.ntmps27
  go_wp2_with (first | (go_at_call 22; (with_reducible refine (HT.out _).mono ?_); rintro e w' ⟨rfl, rfl⟩) | (go_at_call 11; (with_reducible refine (HZ.out _).mono ?_); rintro e w' ⟨rfl, rfl⟩))
  exact bodyPost_ret (v := .tuple #[.agg #[.bool g, .string ((S n).extract 0 ((S n).size - zr n)), .int .i64 (x + zr n)], .int .i64 0]) (by simp [results, Tryd.results27, go_sem]) rfl ⟨by rw [HR.out, HC.out], (by first | exact Below.refl _ _ | exact (Below.refl _ _).alloc (Nat.le_refl _) _ | exact ((Below.refl _ _).alloc (Nat.le_refl _) _).alloc (by simp) _ | exact (((Below.refl _ _).alloc (Nat.le_refl _) _).alloc (by simp) _).alloc (by simp) _)⟩
theorem norm_any (g : Bool) (s : ByteArray) (n : Nat) (x : Int) (w : World) (h : Num s n) (hs : s.size ≤ 100000) (hx : -9223372036854775808 ≤ x ∧ x ≤ 9223372036854775807) : Calls Tryd.prog 27 #[.bool g, .string s, .int .i64 x] w fun e w' => e = .returned (.tuple #[.agg #[.bool (nG g n x), .string (S (nN n x)), .int .i64 (nX n x)], .int .i64 (nE n x)]) ∧ Below w.heap.size w w' := by
  rcases Nat.eq_zero_or_pos n with hn | hn
  · exact norm_zero g s n x w h hs hx hn
  by_cases h1 : 120 < (S (cut n)).size
  · exact norm_long g s n x w h hs hx hn h1
  by_cases h0 : 400 < x
  · exact norm_far g s n x w h hs hx hn (by omega) h0
  by_cases h2 : 400 < x + zr n
  · exact norm_high g s n x w h hs hx hn (by omega) (by omega) h2
  by_cases h3 : x + zr n < -400
  · exact norm_low g s n x w h hs hx hn (by omega) (by omega) (by omega) h3
  · exact norm_fits g s n x w h hs hx hn (by omega) (by omega) (by omega) (by omega)
end Go.Proofs.YtjidjcnjgjmeoaaDoor.Dec
