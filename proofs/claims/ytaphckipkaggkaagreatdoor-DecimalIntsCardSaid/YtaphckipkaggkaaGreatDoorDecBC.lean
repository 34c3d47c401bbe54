/-
  Package decimal: Parse at any string.
-/
import Derived.Test.YtaphckipkaggkaaGreatDoorDecBB
namespace Go.Proofs.YtaphckipkaggkaaGreatDoor.Dec
open Go.RowKit
set_option linter.unusedVariables false
set_option linter.unusedSimpArgs false
open Go.Proofs.YtaphckipkaggkaaGreatDoor.Dig

set_option maxRecDepth 100000 in
set_option maxHeartbeats 4000000 in
theorem pa_w1 (s t a : ByteArray) (g : Bool) (w : World) (HC : Hid (∀ w, Calls Tryz.prog 49 #[.string s, .string ⟨#[45]⟩] w fun e w' => e = .returned (.tuple #[.string t, .bool g]) ∧ w' = w)) (HW : Hid (∀ w, Calls Tryz.prog 50 #[.string t] w fun e w' => e = .returned (.string a) ∧ w = w')) (ha : a.data.toList = []) : Calls Tryz.prog 27 #[.string s] w fun e w' => e = .returned (.tuple #[.agg #[.bool false, .string ⟨#[]⟩, .int .i64 0], .int .i64 3]) ∧ Below w.heap.size w w' := by
  have HCC := Lib.hid (DC.new w false ⟨#[]⟩ 0)
  have r1 := isE_t ha
  have r2 := eq_nil ha
  clear ha
  obtain ⟨x0, x1, x2⟩ := HCC.out.cells
  have y0 := HCC.out.fz 0
  have y1 := HCC.out.fz 1
  have y2 := HCC.out.fz 2
  have bl : Below w.heap.size w (w.alloc (.cells #[.bool false, .string ⟨#[]⟩, .int .i64 0] 23)) := (Below.refl _ _).alloc (Nat.le_refl _) _
  go_enter Tryz.func27, Tryz.ntmps27
  go_wp2_with (first | (go_at_call 49; first | ((with_reducible refine (HC.out _).mono ?_); rintro e w1 ⟨rfl, rfl⟩)) | (go_at_call 50; first | ((with_reducible refine (HW.out _).mono ?_); rintro e w1 ⟨rfl, rfl⟩)))
  exact bodyPost_ret (v := .tuple #[.agg #[.bool false, .string ⟨#[]⟩, .int .i64 0], .int .i64 3]) (by simp [results, Tryz.results27, go_sem, x0, x1, x2]) rfl ⟨rfl, bl⟩
set_option maxRecDepth 100000 in
set_option maxHeartbeats 4000000 in
theorem pa_w2 (s t a : ByteArray) (g : Bool) (w : World) (HC : Hid (∀ w, Calls Tryz.prog 49 #[.string s, .string ⟨#[45]⟩] w fun e w' => e = .returned (.tuple #[.string t, .bool g]) ∧ w' = w)) (HW : Hid (∀ w, Calls Tryz.prog 50 #[.string t] w fun e w' => e = .returned (.string a) ∧ w = w')) (ha : 1 < a.size) (hz : ∀ hh : 0 < a.size, (a[0]'hh).toNat = 48) : Calls Tryz.prog 27 #[.string s] w fun e w' => e = .returned (.tuple #[.agg #[.bool false, .string ⟨#[]⟩, .int .i64 0], .int .i64 3]) ∧ Below w.heap.size w w' := by
  have HCC := Lib.hid (DC.new w false ⟨#[]⟩ 0)
  have ha2 : a.data.toList ≠ [] := fun e => by
    have : a.data.toList.length = a.size := rfl
    rw [e] at this
    simp at this
    omega
  have r1 := isE_f ha2
  have r2 := ne_nil ha2
  have p0 : 0 < a.size := by omega
  have p1 : (0 : Int) < a.size := by omega
  have k1 : (1 : Int) < a.size := by omega
  have k2 : ((a[0].toNat : Int) == 48) = true := by rw [beq_iff_eq]; have := hz p0; omega
  clear ha ha2 hz
  obtain ⟨x0, x1, x2⟩ := HCC.out.cells
  have y0 := HCC.out.fz 0
  have y1 := HCC.out.fz 1
  have y2 := HCC.out.fz 2
  have bl : Below w.heap.size w (w.alloc (.cells #[.bool false, .string ⟨#[]⟩, .int .i64 0] 23)) := (Below.refl _ _).alloc (Nat.le_refl _) _
  go_enter Tryz.func27, Tryz.ntmps27
  go_wp2_with (first | (go_at_call 49; first | ((with_reducible refine (HC.out _).mono ?_); rintro e w1 ⟨rfl, rfl⟩)) | (go_at_call 50; first | ((with_reducible refine (HW.out _).mono ?_); rintro e w1 ⟨rfl, rfl⟩)))
  exact bodyPost_ret (v := .tuple #[.agg #[.bool false, .string ⟨#[]⟩, .int .i64 0], .int .i64 3]) (by simp [results, Tryz.results27, go_sem, x0, x1, x2]) rfl ⟨rfl, bl⟩
set_option maxRecDepth 100000 in
set_option maxHeartbeats 4000000 in
theorem pa_f0 (s t a : ByteArray) (g : Bool) (w : World) (HC : Hid (∀ w, Calls Tryz.prog 49 #[.string s, .string ⟨#[45]⟩] w fun e w' => e = .returned (.tuple #[.string t, .bool g]) ∧ w' = w)) (HW : Hid (∀ w, Calls Tryz.prog 50 #[.string t] w fun e w' => e = .returned (.string a) ∧ w = w')) (ha : a.data.toList ≠ []) (hw : a.size = 1 ∨ (1 < a.size ∧ ∀ hh : 0 < a.size, (a[0]'hh).toNat ≠ 48)) (r : ByteArray) (hr : t.extract a.size t.size = r) (hat : a.size ≤ t.size) (u f : ByteArray) (HF : Hid (∀ w, Calls Tryz.prog 49 #[.string r, .string ⟨#[46]⟩] w fun e w' => e = .returned (.tuple #[.string u, .bool true]) ∧ w' = w)) (HG : Hid (∀ w, Calls Tryz.prog 50 #[.string u] w fun e w' => e = .returned (.string f) ∧ w = w')) (hf : f.data.toList = []) : Calls Tryz.prog 27 #[.string s] w fun e w' => e = .returned (.tuple #[.agg #[.bool false, .string ⟨#[]⟩, .int .i64 0], .int .i64 3]) ∧ Below w.heap.size w w' := by
  have HCC := Lib.hid (DC.new w false ⟨#[]⟩ 0)
  have r1 := isE_f ha
  have r2 := ne_nil ha
  have p0 := size_pos ha
  have p1 : (0 : Int) < a.size := by omega
  have p2 : (a.size : Int) ≤ t.size := by omega
  have p3 : (0 : Int) ≤ a.size := by omega
  have f1 := isE_t hf
  have f2 := eq_nil hf
  clear hf
  have HW2 := Lib.hid hw
  clear ha hw
  rcases HW2.out with hk | ⟨hk, hz⟩
  · have k1 : ¬ (1 : Int) < a.size := by omega
    clear hk HW2
    obtain ⟨x0, x1, x2⟩ := HCC.out.cells
    have y0 := HCC.out.fz 0
    have y1 := HCC.out.fz 1
    have y2 := HCC.out.fz 2
    have bl : Below w.heap.size w (w.alloc (.cells #[.bool false, .string ⟨#[]⟩, .int .i64 0] 23)) := (Below.refl _ _).alloc (Nat.le_refl _) _
    go_enter Tryz.func27, Tryz.ntmps27
    go_wp2_with (first | (go_at_call 49; first | ((with_reducible refine (HC.out _).mono ?_); rintro e w1 ⟨rfl, rfl⟩) | ((with_reducible refine (HF.out _).mono ?_); rintro e w1 ⟨rfl, rfl⟩)) | (go_at_call 50; first | ((with_reducible refine (HW.out _).mono ?_); rintro e w1 ⟨rfl, rfl⟩) | ((with_reducible refine (HG.out _).mono ?_); rintro e w1 ⟨rfl, rfl⟩)))
    exact bodyPost_ret (v := .tuple #[.agg #[.bool false, .string ⟨#[]⟩, .int .i64 0], .int .i64 3]) (by simp [results, Tryz.results27, go_sem, x0, x1, x2]) rfl ⟨rfl, bl⟩
  · have k1 : (1 : Int) < a.size := by omega
    have k2 : ((a[0].toNat : Int) == 48) = false := by rw [beq_eq_false_iff_ne]; have := hz p0; omega
    clear hk hz HW2
    obtain ⟨x0, x1, x2⟩ := HCC.out.cells
    have y0 := HCC.out.fz 0
    have y1 := HCC.out.fz 1
    have y2 := HCC.out.fz 2
    have bl : Below w.heap.size w (w.alloc (.cells #[.bool false, .string ⟨#[]⟩, .int .i64 0] 23)) := (Below.refl _ _).alloc (Nat.le_refl _) _
    go_enter Tryz.func27, Tryz.ntmps27
    go_wp2_with (first | (go_at_call 49; first | ((with_reducible refine (HC.out _).mono ?_); rintro e w1 ⟨rfl, rfl⟩) | ((with_reducible refine (HF.out _).mono ?_); rintro e w1 ⟨rfl, rfl⟩)) | (go_at_call 50; first | ((with_reducible refine (HW.out _).mono ?_); rintro e w1 ⟨rfl, rfl⟩) | ((with_reducible refine (HG.out _).mono ?_); rintro e w1 ⟨rfl, rfl⟩)))
    exact bodyPost_ret (v := .tuple #[.agg #[.bool false, .string ⟨#[]⟩, .int .i64 0], .int .i64 3]) (by simp [results, Tryz.results27, go_sem, x0, x1, x2]) rfl ⟨rfl, bl⟩
set_option maxRecDepth 100000 in
set_option maxHeartbeats 4000000 in
theorem pa_x0 (s t a : ByteArray) (g : Bool) (w : World) (HC : Hid (∀ w, Calls Tryz.prog 49 #[.string s, .string ⟨#[45]⟩] w fun e w' => e = .returned (.tuple #[.string t, .bool g]) ∧ w' = w)) (HW : Hid (∀ w, Calls Tryz.prog 50 #[.string t] w fun e w' => e = .returned (.string a) ∧ w = w')) (ha : a.data.toList ≠ []) (hw : a.size = 1 ∨ (1 < a.size ∧ ∀ hh : 0 < a.size, (a[0]'hh).toNat ≠ 48)) (r : ByteArray) (hr : t.extract a.size t.size = r) (hat : a.size ≤ t.size) (r2 : ByteArray) (HF : Hid (∀ w, Calls Tryz.prog 49 #[.string r, .string ⟨#[46]⟩] w fun e w' => e = .returned (.tuple #[.string r2, .bool false]) ∧ w' = w)) (HX : Hid (∀ w, Calls Tryz.prog 51 #[.string r] w fun e w' => e = .returned (.tuple #[.int .i64 0, .bool false]) ∧ w' = w)) : Calls Tryz.prog 27 #[.string s] w fun e w' => e = .returned (.tuple #[.agg #[.bool false, .string ⟨#[]⟩, .int .i64 0], .int .i64 3]) ∧ Below w.heap.size w w' := by
  have HCC := Lib.hid (DC.new w false ⟨#[]⟩ 0)
  have r1 := isE_f ha
  have r2 := ne_nil ha
  have p0 := size_pos ha
  have p1 : (0 : Int) < a.size := by omega
  have p2 : (a.size : Int) ≤ t.size := by omega
  have p3 : (0 : Int) ≤ a.size := by omega
  have HW2 := Lib.hid hw
  clear ha hw
  rcases HW2.out with hk | ⟨hk, hz⟩
  · have k1 : ¬ (1 : Int) < a.size := by omega
    clear hk HW2
    obtain ⟨x0, x1, x2⟩ := HCC.out.cells
    have y0 := HCC.out.fz 0
    have y1 := HCC.out.fz 1
    have y2 := HCC.out.fz 2
    have bl : Below w.heap.size w (w.alloc (.cells #[.bool false, .string ⟨#[]⟩, .int .i64 0] 23)) := (Below.refl _ _).alloc (Nat.le_refl _) _
    go_enter Tryz.func27, Tryz.ntmps27
    go_wp2_with (first | (go_at_call 49; first | ((with_reducible refine (HC.out _).mono ?_); rintro e w1 ⟨rfl, rfl⟩) | ((with_reducible refine (HF.out _).mono ?_); rintro e w1 ⟨rfl, rfl⟩)) | (go_at_call 50; first | ((with_reducible refine (HW.out _).mono ?_); rintro e w1 ⟨rfl, rfl⟩)) | (go_at_call 51; ((with_reducible refine (HX.out _).mono ?_); rintro e w1 ⟨rfl, rfl⟩)))
    exact bodyPost_ret (v := .tuple #[.agg #[.bool false, .string ⟨#[]⟩, .int .i64 0], .int .i64 3]) (by simp [results, Tryz.results27, go_sem, x0, x1, x2]) rfl ⟨rfl, bl⟩
  · have k1 : (1 : Int) < a.size := by omega
    have k2 : ((a[0].toNat : Int) == 48) = false := by rw [beq_eq_false_iff_ne]; have := hz p0; omega
    clear hk hz HW2
    obtain ⟨x0, x1, x2⟩ := HCC.out.cells
    have y0 := HCC.out.fz 0
    have y1 := HCC.out.fz 1
    have y2 := HCC.out.fz 2
    have bl : Below w.heap.size w (w.alloc (.cells #[.bool false, .string ⟨#[]⟩, .int .i64 0] 23)) := (Below.refl _ _).alloc (Nat.le_refl _) _
    go_enter Tryz.func27, Tryz.ntmps27
    go_wp2_with (first | (go_at_call 49; first | ((with_reducible refine (HC.out _).mono ?_); rintro e w1 ⟨rfl, rfl⟩) | ((with_reducible refine (HF.out _).mono ?_); rintro e w1 ⟨rfl, rfl⟩)) | (go_at_call 50; first | ((with_reducible refine (HW.out _).mono ?_); rintro e w1 ⟨rfl, rfl⟩)) | (go_at_call 51; ((with_reducible refine (HX.out _).mono ?_); rintro e w1 ⟨rfl, rfl⟩)))
    exact bodyPost_ret (v := .tuple #[.agg #[.bool false, .string ⟨#[]⟩, .int .i64 0], .int .i64 3]) (by simp [results, Tryz.results27, go_sem, x0, x1, x2]) rfl ⟨rfl, bl⟩
set_option maxRecDepth 100000 in
set_option maxHeartbeats 4000000 in
theorem pa_x1 (s t a : ByteArray) (g : Bool) (w : World) (HC : Hid (∀ w, Calls Tryz.prog 49 #[.string s, .string ⟨#[45]⟩] w fun e w' => e = .returned (.tuple #[.string t, .bool g]) ∧ w' = w)) (HW : Hid (∀ w, Calls Tryz.prog 50 #[.string t] w fun e w' => e = .returned (.string a) ∧ w = w')) (ha : a.data.toList ≠ []) (hw : a.size = 1 ∨ (1 < a.size ∧ ∀ hh : 0 < a.size, (a[0]'hh).toNat ≠ 48)) (r : ByteArray) (hr : t.extract a.size t.size = r) (hat : a.size ≤ t.size) (u f : ByteArray) (HF : Hid (∀ w, Calls Tryz.prog 49 #[.string r, .string ⟨#[46]⟩] w fun e w' => e = .returned (.tuple #[.string u, .bool true]) ∧ w' = w)) (HG : Hid (∀ w, Calls Tryz.prog 50 #[.string u] w fun e w' => e = .returned (.string f) ∧ w = w')) (hf : f.data.toList ≠ []) (hfu : f.size ≤ u.size) (v : ByteArray) (hv : u.extract f.size u.size = v) (HX : Hid (∀ w, Calls Tryz.prog 51 #[.string v] w fun e w' => e = .returned (.tuple #[.int .i64 0, .bool false]) ∧ w' = w)) : Calls Tryz.prog 27 #[.string s] w fun e w' => e = .returned (.tuple #[.agg #[.bool false, .string ⟨#[]⟩, .int .i64 0], .int .i64 3]) ∧ Below w.heap.size w w' := by
  have HCC := Lib.hid (DC.new w false ⟨#[]⟩ 0)
  have r1 := isE_f ha
  have r2 := ne_nil ha
  have p0 := size_pos ha
  have p1 : (0 : Int) < a.size := by omega
  have p2 : (a.size : Int) ≤ t.size := by omega
  have p3 : (0 : Int) ≤ a.size := by omega
  have f1 := isE_f hf
  have f2 := ne_nil hf
  have f3 : (f.size : Int) ≤ u.size := by omega
  have f4 : (0 : Int) ≤ f.size := by omega
  clear hf
  have HW2 := Lib.hid hw
  clear ha hw
  rcases HW2.out with hk | ⟨hk, hz⟩
  · have k1 : ¬ (1 : Int) < a.size := by omega
    clear hk HW2
    obtain ⟨x0, x1, x2⟩ := HCC.out.cells
    have y0 := HCC.out.fz 0
    have y1 := HCC.out.fz 1
    have y2 := HCC.out.fz 2
    have bl : Below w.heap.size w (w.alloc (.cells #[.bool false, .string ⟨#[]⟩, .int .i64 0] 23)) := (Below.refl _ _).alloc (Nat.le_refl _) _
    go_enter Tryz.func27, Tryz.ntmps27
    go_wp2_with (first | (go_at_call 49; first | ((with_reducible refine (HC.out _).mono ?_); rintro e w1 ⟨rfl, rfl⟩) | ((with_reducible refine (HF.out _).mono ?_); rintro e w1 ⟨rfl, rfl⟩)) | (go_at_call 50; first | ((with_reducible refine (HW.out _).mono ?_); rintro e w1 ⟨rfl, rfl⟩) | ((with_reducible refine (HG.out _).mono ?_); rintro e w1 ⟨rfl, rfl⟩)) | (go_at_call 51; ((with_reducible refine (HX.out _).mono ?_); rintro e w1 ⟨rfl, rfl⟩)))
    exact bodyPost_ret (v := .tuple #[.agg #[.bool false, .string ⟨#[]⟩, .int .i64 0], .int .i64 3]) (by simp [results, Tryz.results27, go_sem, x0, x1, x2]) rfl ⟨rfl, bl⟩
  · have k1 : (1 : Int) < a.size := by omega
    have k2 : ((a[0].toNat : Int) == 48) = false := by rw [beq_eq_false_iff_ne]; have := hz p0; omega
    clear hk hz HW2
    obtain ⟨x0, x1, x2⟩ := HCC.out.cells
    have y0 := HCC.out.fz 0
    have y1 := HCC.out.fz 1
    have y2 := HCC.out.fz 2
    have bl : Below w.heap.size w (w.alloc (.cells #[.bool false, .string ⟨#[]⟩, .int .i64 0] 23)) := (Below.refl _ _).alloc (Nat.le_refl _) _
    go_enter Tryz.func27, Tryz.ntmps27
    go_wp2_with (first | (go_at_call 49; first | ((with_reducible refine (HC.out _).mono ?_); rintro e w1 ⟨rfl, rfl⟩) | ((with_reducible refine (HF.out _).mono ?_); rintro e w1 ⟨rfl, rfl⟩)) | (go_at_call 50; first | ((with_reducible refine (HW.out _).mono ?_); rintro e w1 ⟨rfl, rfl⟩) | ((with_reducible refine (HG.out _).mono ?_); rintro e w1 ⟨rfl, rfl⟩)) | (go_at_call 51; ((with_reducible refine (HX.out _).mono ?_); rintro e w1 ⟨rfl, rfl⟩)))
    exact bodyPost_ret (v := .tuple #[.agg #[.bool false, .string ⟨#[]⟩, .int .i64 0], .int .i64 3]) (by simp [results, Tryz.results27, go_sem, x0, x1, x2]) rfl ⟨rfl, bl⟩
set_option maxRecDepth 100000 in
set_option maxHeartbeats 4000000 in
theorem pa_k0 (s t a : ByteArray) (g : Bool) (w : World) (HC : Hid (∀ w, Calls Tryz.prog 49 #[.string s, .string ⟨#[45]⟩] w fun e w' => e = .returned (.tuple #[.string t, .bool g]) ∧ w' = w)) (HW : Hid (∀ w, Calls Tryz.prog 50 #[.string t] w fun e w' => e = .returned (.string a) ∧ w = w')) (ha : a.data.toList ≠ []) (hw : a.size = 1 ∨ (1 < a.size ∧ ∀ hh : 0 < a.size, (a[0]'hh).toNat ≠ 48)) (r : ByteArray) (hr : t.extract a.size t.size = r) (hat : a.size ≤ t.size) (r2 : ByteArray) (R1 : Bool) (R2 : ByteArray) (R3 R4 : Int) (x : Int) (HF : Hid (∀ w, Calls Tryz.prog 49 #[.string r, .string ⟨#[46]⟩] w fun e w' => e = .returned (.tuple #[.string r2, .bool false]) ∧ w' = w)) (HX : Hid (∀ w, Calls Tryz.prog 51 #[.string r] w fun e w' => e = .returned (.tuple #[.int .i64 x, .bool true]) ∧ w' = w)) (HM : Hid (∀ w, Calls Tryz.prog 16 #[.bool g, .string (a ++ ⟨#[]⟩), .int .i64 x] w fun e w' => e = .returned (.tuple #[.agg #[.bool R1, .string R2, .int .i64 R3], .int .i64 R4]) ∧ Below w.heap.size w w')) (hx0 : IntKind.i64.wrap x = x) (hsm : a.size ≤ 100000) : Calls Tryz.prog 27 #[.string s] w fun e w' => e = .returned (.tuple #[.agg #[.bool R1, .string R2, .int .i64 R3], .int .i64 R4]) ∧ Below w.heap.size w w' := by
  have HCC := Lib.hid (DC.new w false ⟨#[]⟩ 0)
  have r1 := isE_f ha
  have r2 := ne_nil ha
  have p0 := size_pos ha
  have p1 : (0 : Int) < a.size := by omega
  have p2 : (a.size : Int) ≤ t.size := by omega
  have p3 : (0 : Int) ≤ a.size := by omega
  have sm2 : ¬ (9223372036854775807 : Nat) < a.size := by omega
  have sm1 : a.size ≤ 9223372036854775807 := by omega
  have HW2 := Lib.hid hw
  clear ha hw
  rcases HW2.out with hk | ⟨hk, hz⟩
  · have k1 : ¬ (1 : Int) < a.size := by omega
    clear hk HW2
    go_enter Tryz.func27, Tryz.ntmps27
    go_wp2_with (first | (go_at_call 49; first | ((with_reducible refine (HC.out _).mono ?_); rintro e w1 ⟨rfl, rfl⟩) | ((with_reducible refine (HF.out _).mono ?_); rintro e w1 ⟨rfl, rfl⟩)) | (go_at_call 50; first | ((with_reducible refine (HW.out _).mono ?_); rintro e w1 ⟨rfl, rfl⟩)) | (go_at_call 51; ((with_reducible refine (HX.out _).mono ?_); rintro e w1 ⟨rfl, rfl⟩)) | (go_at_call 16; go_loud (with_reducible refine (HM.out _).mono ?_); rintro e w1 ⟨rfl, hb⟩; have X := HCC.out.below hb HCC.out.lt; obtain ⟨x0, x1, x2⟩ := X.cells; have y0 := X.fz 0; have y1 := X.fz 1; have y2 := X.fz 2; have bl : Below w.heap.size w w1 := ((Below.refl _ _).alloc (Nat.le_refl _) _).trans (hb.mono (by simp)); clear hb))
    exact bodyPost_ret (v := .tuple #[.agg #[.bool R1, .string R2, .int .i64 R3], .int .i64 R4]) (by simp [results, Tryz.results27, go_sem, x0, x1, x2]) rfl ⟨rfl, ((bl.setCell (by simp) _).setCell (by simp) _).setCell (by simp) _⟩
  · have k1 : (1 : Int) < a.size := by omega
    have k2 : ((a[0].toNat : Int) == 48) = false := by rw [beq_eq_false_iff_ne]; have := hz p0; omega
    clear hk hz HW2
    go_enter Tryz.func27, Tryz.ntmps27
    go_wp2_with (first | (go_at_call 49; first | ((with_reducible refine (HC.out _).mono ?_); rintro e w1 ⟨rfl, rfl⟩) | ((with_reducible refine (HF.out _).mono ?_); rintro e w1 ⟨rfl, rfl⟩)) | (go_at_call 50; first | ((with_reducible refine (HW.out _).mono ?_); rintro e w1 ⟨rfl, rfl⟩)) | (go_at_call 51; ((with_reducible refine (HX.out _).mono ?_); rintro e w1 ⟨rfl, rfl⟩)) | (go_at_call 16; go_loud (with_reducible refine (HM.out _).mono ?_); rintro e w1 ⟨rfl, hb⟩; have X := HCC.out.below hb HCC.out.lt; obtain ⟨x0, x1, x2⟩ := X.cells; have y0 := X.fz 0; have y1 := X.fz 1; have y2 := X.fz 2; have bl : Below w.heap.size w w1 := ((Below.refl _ _).alloc (Nat.le_refl _) _).trans (hb.mono (by simp)); clear hb))
    exact bodyPost_ret (v := .tuple #[.agg #[.bool R1, .string R2, .int .i64 R3], .int .i64 R4]) (by simp [results, Tryz.results27, go_sem, x0, x1, x2]) rfl ⟨rfl, ((bl.setCell (by simp) _).setCell (by simp) _).setCell (by simp) _⟩
set_option maxRecDepth 100000 in
set_option maxHeartbeats 4000000 in
theorem pa_k1 (s t a : ByteArray) (g : Bool) (w : World) (HC : Hid (∀ w, Calls Tryz.prog 49 #[.string s, .string ⟨#[45]⟩] w fun e w' => e = .returned (.tuple #[.string t, .bool g]) ∧ w' = w)) (HW : Hid (∀ w, Calls Tryz.prog 50 #[.string t] w fun e w' => e = .returned (.string a) ∧ w = w')) (ha : a.data.toList ≠ []) (hw : a.size = 1 ∨ (1 < a.size ∧ ∀ hh : 0 < a.size, (a[0]'hh).toNat ≠ 48)) (r : ByteArray) (hr : t.extract a.size t.size = r) (hat : a.size ≤ t.size) (u f : ByteArray) (R1 : Bool) (R2 : ByteArray) (R3 R4 : Int) (x : Int) (HF : Hid (∀ w, Calls Tryz.prog 49 #[.string r, .string ⟨#[46]⟩] w fun e w' => e = .returned (.tuple #[.string u, .bool true]) ∧ w' = w)) (HG : Hid (∀ w, Calls Tryz.prog 50 #[.string u] w fun e w' => e = .returned (.string f) ∧ w = w')) (hf : f.data.toList ≠ []) (hfu : f.size ≤ u.size) (v : ByteArray) (hv : u.extract f.size u.size = v) (HX : Hid (∀ w, Calls Tryz.prog 51 #[.string v] w fun e w' => e = .returned (.tuple #[.int .i64 x, .bool true]) ∧ w' = w)) (HM : Hid (∀ w, Calls Tryz.prog 16 #[.bool g, .string (a ++ f), .int .i64 (x - (f.size : Int))] w fun e w' => e = .returned (.tuple #[.agg #[.bool R1, .string R2, .int .i64 R3], .int .i64 R4]) ∧ Below w.heap.size w w')) (hx0 : IntKind.i64.wrap (x - (f.size : Int)) = x - (f.size : Int)) (hsm : a.size + f.size ≤ 100000) : Calls Tryz.prog 27 #[.string s] w fun e w' => e = .returned (.tuple #[.agg #[.bool R1, .string R2, .int .i64 R3], .int .i64 R4]) ∧ Below w.heap.size w w' := by
  have HCC := Lib.hid (DC.new w false ⟨#[]⟩ 0)
  have r1 := isE_f ha
  have r2 := ne_nil ha
  have p0 := size_pos ha
  have p1 : (0 : Int) < a.size := by omega
  have p2 : (a.size : Int) ≤ t.size := by omega
  have p3 : (0 : Int) ≤ a.size := by omega
  have f1 := isE_f hf
  have f2 := ne_nil hf
  have f3 : (f.size : Int) ≤ u.size := by omega
  have f4 : (0 : Int) ≤ f.size := by omega
  clear hf
  have sm2 : ¬ (9223372036854775807 : Nat) < a.size + f.size := by omega
  have sm1 : a.size + f.size ≤ 9223372036854775807 := by omega
  have HW2 := Lib.hid hw
  clear ha hw
  rcases HW2.out with hk | ⟨hk, hz⟩
  · have k1 : ¬ (1 : Int) < a.size := by omega
    clear hk HW2
    go_enter Tryz.func27, Tryz.ntmps27
    go_wp2_with (first | (go_at_call 49; first | ((with_reducible refine (HC.out _).mono ?_); rintro e w1 ⟨rfl, rfl⟩) | ((with_reducible refine (HF.out _).mono ?_); rintro e w1 ⟨rfl, rfl⟩)) | (go_at_call 50; first | ((with_reducible refine (HW.out _).mono ?_); rintro e w1 ⟨rfl, rfl⟩) | ((with_reducible refine (HG.out _).mono ?_); rintro e w1 ⟨rfl, rfl⟩)) | (go_at_call 51; ((with_reducible refine (HX.out _).mono ?_); rintro e w1 ⟨rfl, rfl⟩)) | (go_at_call 16; go_loud (with_reducible refine (HM.out _).mono ?_); rintro e w1 ⟨rfl, hb⟩; have X := HCC.out.below hb HCC.out.lt; obtain ⟨x0, x1, x2⟩ := X.cells; have y0 := X.fz 0; have y1 := X.fz 1; have y2 := X.fz 2; have bl : Below w.heap.size w w1 := ((Below.refl _ _).alloc (Nat.le_refl _) _).trans (hb.mono (by simp)); clear hb))
    exact bodyPost_ret (v := .tuple #[.agg #[.bool R1, .string R2, .int .i64 R3], .int .i64 R4]) (by simp [results, Tryz.results27, go_sem, x0, x1, x2]) rfl ⟨rfl, ((bl.setCell (by simp) _).setCell (by simp) _).setCell (by simp) _⟩
  · have k1 : (1 : Int) < a.size := by omega
    have k2 : ((a[0].toNat : Int) == 48) = false := by rw [beq_eq_false_iff_ne]; have := hz p0; omega
    clear hk hz HW2
    go_enter Tryz.func27, Tryz.ntmps27
    go_wp2_with (first | (go_at_call 49; first | ((with_reducible refine (HC.out _).mono ?_); rintro e w1 ⟨rfl, rfl⟩) | ((with_reducible refine (HF.out _).mono ?_); rintro e w1 ⟨rfl, rfl⟩)) | (go_at_call 50; first | ((with_reducible refine (HW.out _).mono ?_); rintro e w1 ⟨rfl, rfl⟩) | ((with_reducible refine (HG.out _).mono ?_); rintro e w1 ⟨rfl, rfl⟩)) | (go_at_call 51; ((with_reducible refine (HX.out _).mono ?_); rintro e w1 ⟨rfl, rfl⟩)) | (go_at_call 16; go_loud (with_reducible refine (HM.out _).mono ?_); rintro e w1 ⟨rfl, hb⟩; have X := HCC.out.below hb HCC.out.lt; obtain ⟨x0, x1, x2⟩ := X.cells; have y0 := X.fz 0; have y1 := X.fz 1; have y2 := X.fz 2; have bl : Below w.heap.size w w1 := ((Below.refl _ _).alloc (Nat.le_refl _) _).trans (hb.mono (by simp)); clear hb))
    exact bodyPost_ret (v := .tuple #[.agg #[.bool R1, .string R2, .int .i64 R3], .int .i64 R4]) (by simp [results, Tryz.results27, go_sem, x0, x1, x2]) rfl ⟨rfl, ((bl.setCell (by simp) _).setCell (by simp) _).setCell (by simp) _⟩
end Go.Proofs.YtaphckipkaggkaaGreatDoor.Dec
