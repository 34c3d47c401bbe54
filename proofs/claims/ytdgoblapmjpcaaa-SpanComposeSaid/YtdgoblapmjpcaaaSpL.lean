/-
  Package span: the statement's walk, SpanChecks.
-/
import Derived.Test.YtdgoblapmjpcaaaSpK
namespace Go.Proofs.Ytdgoblapmjpcaaa.Sp
open Go.RowKit
set_option linter.unusedVariables false
set_option linter.unusedSimpArgs false
open RO

theorem keepS {w w' w'' : World} {k : Nat} (h : Below w.heap.size w w') (hk : w.heap.size + k ≤ w'.heap.size) (h2 : Below w'.heap.size w' w'') : Below w.heap.size w w'' ∧ w.heap.size + k ≤ w''.heap.size ∧ ∀ b j v, b < w.heap.size + k → w'.cell? ⟨b, j, none⟩ = some v → w''.cell? ⟨b, j, none⟩ = some v := by
  have h2' := h2.size
  refine ⟨h.trans (h2.mono (by omega)), by omega, fun b j v hb hc => ?_⟩
  rw [h2.cell (p := ⟨b, j, none⟩) (by show b < _; omega)]
  exact hc
def CutPost (src : ByteArray) (f t : Int) (w : World) (e : Ending) (w' : World) : Prop := ∃ (T : ByteArray) (E : Int), T = (if vld f t src.size then src.extract f.toNat t.toNat else ⟨#[]⟩) ∧ E = (if vld f t src.size then 0 else 2) ∧ e = .returned (.tuple #[.string T, .int .i64 E]) ∧ Below w.heap.size w w'
theorem cut_any (src : ByteArray) (f t : Int) (w : World) (hf : I64 f) (ht : I64 t) (hs : src.size ≤ 9223372036854775807) : Calls Try.prog 11 #[.string src, .agg #[.int .i64 f, .int .i64 t]] w fun e w' => e = .returned (.tuple #[.string (if vld f t src.size then src.extract f.toNat t.toNat else ⟨#[]⟩), .int .i64 (if vld f t src.size then 0 else 2)]) ∧ Below w.heap.size w w' := by
  by_cases hv : vld f t src.size = true
  · obtain ⟨h1, h2, h3⟩ := vld_iff.1 hv
    rw [if_pos hv, if_pos hv]
    have := cut_yes src f.toNat t.toNat w hs (by omega) (by omega)
    rwa [show ((f.toNat : Nat) : Int) = f by omega, show ((t.toNat : Nat) : Int) = t by omega] at this
  · rw [if_neg hv, if_neg hv]
    exact cut_no src f t w hf ht hs (by simpa using hv)
theorem rcut_any (src : ByteArray) (f t : Int) (w : World) (hf : I64 f) (ht : I64 t) (hs : src.size ≤ 9223372036854775807) : Calls Try.prog 12 #[.string src, .agg #[.int .i64 f, .int .i64 t]] w fun e w' => e = .returned (.tuple #[.string (if vld f t src.size then src.extract f.toNat t.toNat else ⟨#[]⟩), .int .i64 (if vld f t src.size then 0 else 2)]) ∧ Below w.heap.size w w' := by
  by_cases hv : vld f t src.size = true
  · obtain ⟨h1, h2, h3⟩ := vld_iff.1 hv
    rw [if_pos hv, if_pos hv]
    have := rcut_yes src f.toNat t.toNat w hs (by omega) (by omega)
    rwa [show ((f.toNat : Nat) : Int) = f by omega, show ((t.toNat : Nat) : Int) = t by omega] at this
  · rw [if_neg hv, if_neg hv]
    exact rcut_no src f t w hf ht hs (by simpa using hv)
theorem bx1 {w w1 : World} {a b : Value} {T : TypeId} (h : Below (w.alloc (.cells #[a, b] T)).heap.size (w.alloc (.cells #[a, b] T)) w1) : Below w.heap.size w w1 ∧ w.heap.size + 1 ≤ w1.heap.size ∧ w1.cell? ⟨w.heap.size, 0, none⟩ = some a ∧ w1.cell? ⟨w.heap.size, 1, none⟩ = some b := by
  have hz := h.size
  rw [World.size_alloc] at hz
  refine ⟨((Below.refl w.heap.size w).alloc (Nat.le_refl _) _).trans (h.mono (by rw [World.size_alloc]; omega)), hz, ?_, ?_⟩
  · rw [h.cell (p := ⟨w.heap.size, 0, none⟩) (by rw [World.size_alloc]; show w.heap.size < _; omega)]
    exact rowc w #[a, b] T (j := 0) rfl
  · rw [h.cell (p := ⟨w.heap.size, 1, none⟩) (by rw [World.size_alloc]; show w.heap.size < _; omega)]
    exact rowc w #[a, b] T (j := 1) rfl
set_option maxRecDepth 100000 in
set_option maxHeartbeats 8000000 in
theorem checks_walk (src : ByteArray) {v : Value} {L : List Ed} {n : Nat} (f t : Int) (w : World) (hs : src.size ≤ 9223372036854775807) (hf : I64 f) (ht : I64 t) (hr : L.length = n ∧ Es w w.heap.size v L ∧ ∀ d ∈ L, d.ok) : Calls Try.prog 3 #[.string src, v, .agg #[.int .i64 f, .int .i64 t]] w fun e w' => e = .returned (.bool true) ∧ Below w.heap.size w w' := by
  obtain ⟨hn, hv, hL⟩ := hr
  have hln := Rd.run_len Try.underlying22 hv hn
  have hs64 : I64 src.size := ⟨by omega, by omega⟩
  have HC := Lib.hid (fun (w' : World) (h : Below w.heap.size w w') => check_any v L src.size w' (Rd.next hv h) hL hs64)
  have HR := Lib.hid (fun (w' : World) (h : Below w.heap.size w w') => rcheck_any v L src.size w' (Rd.next hv h) hL hs64)
  have HV := Lib.hid (fun (w' : World) => valid_any f t src.size w' hf ht hs64)
  have HW := Lib.hid (fun (w' : World) => rvalid_any f t src.size w' hf ht hs64)
  have HX := Lib.hid (fun (w' : World) => cut_any src f t w' hf ht hs)
  have HY := Lib.hid (fun (w' : World) => rcut_any src f t w' hf ht hs)
  obtain ⟨X, hX⟩ : ∃ X, (if vld f t src.size then src.extract f.toNat t.toNat else ⟨#[]⟩) = X := ⟨_, rfl⟩
  obtain ⟨E, hE⟩ : ∃ E : Int, (if vld f t src.size then 0 else 2) = E := ⟨_, rfl⟩
  obtain ⟨C, hC⟩ : ∃ C, chk L src.size = C := ⟨_, rfl⟩
  obtain ⟨V, hV⟩ : ∃ V, vld f t src.size = V := ⟨_, rfl⟩
  rw [hX, hE] at HX HY
  rw [hC] at HC HR
  rw [hV] at HV HW
  clear hX hE hC hV hv hL hs64
  by_cases h1 : 2000 < src.size
  · go_enter Try.func3, Try.ntmps3
    go_wp2_with (go_at_call 10; (with_reducible refine (lives_any _).mono ?_); rintro e w4 ⟨rfl, hb4⟩; have hbb : Below w.heap.size w w4 := ((Below.refl w.heap.size w).alloc (Nat.le_refl _) _).trans (hb4.mono (by simp)))
    go_ret
    exact ⟨rfl, hbb⟩
  by_cases h2 : 5000 < n
  · go_enter Try.func3, Try.ntmps3
    go_wp2_with (go_at_call 10; (with_reducible refine (lives_any _).mono ?_); rintro e w4 ⟨rfl, hb4⟩; have hbb : Below w.heap.size w w4 := ((Below.refl w.heap.size w).alloc (Nat.le_refl _) _).trans (hb4.mono (by simp)))
    go_ret
    exact ⟨rfl, hbb⟩
  go_enter Try.func3, Try.ntmps3
  go_wp2_with (first | (go_at_call 11; (with_reducible refine (HX.out _).mono ?_); rintro e w1 ⟨rfl, hb1⟩; obtain ⟨q1, z1, c1, d1⟩ := bx1 hb1) | (go_at_call 12; (with_reducible refine (HY.out _).mono ?_); rintro e w2 ⟨rfl, hb2⟩; obtain ⟨q2, z2, kk⟩ := keepS (k := 1) q1 z1 hb2; have c2 := kk _ _ _ (by omega) c1; have d2 := kk _ _ _ (by omega) d1; clear kk))
  clear hb1 hb2 q1 z1 c1 d1
  go_region_held3 (fun (W : World) => Below w.heap.size w W ∧ w.heap.size + 1 ≤ W.heap.size ∧ W.cell? ⟨w.heap.size, 0, none⟩ = some (.int .i64 f) ∧ W.cell? ⟨w.heap.size, 1, none⟩ = some (.int .i64 t))
    (first | (go_split_ands; have kk := keepS (k := 1) (by assumption) (by assumption) hb9; exact ⟨kk.1, kk.2.1, kk.2.2 _ _ _ (by omega) (by assumption), kk.2.2 _ _ _ (by omega) (by assumption)⟩) | (go_split_ands; exact ⟨by first | assumption | exact Below.drew (by assumption), by first | assumption | (simp; assumption), by first | assumption | (simp; assumption), by first | assumption | (simp; assumption)⟩) | (refine ⟨?_, ?_, ?_, ?_⟩ <;> go_simp))
    (first | (go_at_call 13; (with_reducible refine (HV.out _).mono ?_); rintro e w9 ⟨rfl, hb9⟩) | (go_at_call 14; (with_reducible refine (HW.out _).mono ?_); rintro e w9 ⟨rfl, hb9⟩) | (go_split_ands; go_at_call 15; (with_reducible refine (HC.out _ (by assumption)).mono ?_); rintro e w9 ⟨rfl, hb9⟩) | (go_split_ands; go_at_call 16; (with_reducible refine (HR.out _ (by assumption)).mono ?_); rintro e w9 ⟨rfl, hb9⟩) | (go_at_call 10; (with_reducible refine (lives_any _).mono ?_); rintro e w9 ⟨rfl, hb9⟩))
  all_goals go_wp2
  all_goals go_ret
  all_goals go_split_ands
  all_goals exact ⟨rfl, by assumption⟩
end Go.Proofs.Ytdgoblapmjpcaaa.Sp
