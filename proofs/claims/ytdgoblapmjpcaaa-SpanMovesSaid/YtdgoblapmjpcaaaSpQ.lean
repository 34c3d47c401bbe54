/-
  Package span: where edits move an offset, the reference's.
-/
import Derived.Test.YtdgoblapmjpcaaaSpP
namespace Go.Proofs.Ytdgoblapmjpcaaa.Sp
open Go.RowKit
set_option linter.unusedVariables false
set_option linter.unusedSimpArgs false
open RO

set_option maxRecDepth 100000 in
set_option maxHeartbeats 8000000 in
theorem rmove_any (v : Value) (L : List Ed) (x : Int) (w : World) (hv : Es w w.heap.size v L) (hS : Sml L) (hx : -9223372036854775808 ≤ x ∧ x ≤ 1000000) : Calls Try.prog 26 #[v, .int .i64 x] w fun e w' => e = .returned (.tuple #[.int .i64 (mv L x).1, .bool (mv L x).2]) ∧ Below w.heap.size w w' := by
  obtain ⟨n, hn⟩ : ∃ n, L.length = n := ⟨_, rfl⟩
  have hln := Rd.run_len Try.underlying22 hv hn
  have hn60 : n ≤ 60 := by have := hS.1; omega
  obtain ⟨R, hR⟩ : ∃ R, mv L x = R := ⟨_, rfl⟩
  rw [hR]
  have HN := Lib.hid hn
  have HSM := Lib.hid hS.2
  have HC : Hid (∀ wr, Below w.heap.size w wr → ∀ k, k < n → ∃ (g o cap : Nat) (d : Ed), v = .slice (some ⟨g, o, none⟩) n cap ∧ n ≤ cap ∧ L[k]? = some d ∧ g < w.heap.size ∧ wr.cell? ⟨g, o + k * 3, none⟩ = some (.int .i64 d.f) ∧ wr.cell? ⟨g, o + k * 3 + 1, none⟩ = some (.int .i64 d.t) ∧ wr.cell? ⟨g, o + k * 3 + 2, none⟩ = some (.string d.x)) := Lib.hid (by
    intro wr hb k hk
    obtain ⟨g, o, cap, hvv, hg, hc, _, hcell⟩ := hv.at_ hn (by omega)
    obtain ⟨d, hd⟩ := get_in hn hk
    obtain ⟨e0, e1, e2⟩ := hcell k d hd
    exact ⟨g, o, cap, d, hvv, hc, hd, hg, (hb.cell (p := ⟨g, o + k * 3, none⟩) hg).trans e0, (hb.cell (p := ⟨g, o + k * 3 + 1, none⟩) hg).trans e1, (hb.cell (p := ⟨g, o + k * 3 + 2, none⟩) hg).trans e2⟩)
  clear hv hS
  by_cases hneg : x < 0
  · have hr : R = (0, false) := by rw [← hR]; exact if_pos hneg
    subst hr
    clear hR
    go_enter Try.func26, Try.ntmps26
    go_wp2
    go_ret2
    exact ⟨rfl, Below.refl _ _⟩
  have HX : Hid (R = mvL x 0 (L.drop 0)) := Lib.hid (by rw [← hR]; exact if_neg hneg)
  clear hR hn
  go_enter Try.func26, Try.ntmps26
  go_wp2
  go_loopw [6, 7] (fun b i wr => ∃ (k : Nat) (y : Int), k ≤ n ∧ i = .int .i64 k ∧ b = .int .i64 y ∧ -600 * (k : Int) ≤ y ∧ y ≤ 600 * (k : Int) ∧ Below w.heap.size w wr ∧ w.heap.size ≤ wr.heap.size ∧ Hid (R = mvL x y (L.drop k))) (fun _ i _ => n - (intOf i).toNat)
  case atStart => exact ⟨0, 0, by omega, rfl, rfl, by omega, by omega, Below.refl _ _, Nat.le_refl _, HX⟩
  case round =>
    obtain ⟨k, y, hk, rfl, rfl, hy1, hy2, hb, hbs, HX⟩ := hrel
    by_cases hlt : k < n
    · obtain ⟨g, o, cap, d, rfl, hcap, hd, hg, c0, c1, c2⟩ := HC.out wr hb k hlt
      obtain ⟨s1, s2, s3, s4, s5⟩ := HSM.out k d hd
      have hstep := HX.out
      rw [mv_at hd] at hstep
      obtain ⟨f, t, tx⟩ := d
      simp only at s1 s2 s3 s4 s5 c0 c1 c2 hstep
      obtain ⟨z, hz⟩ : ∃ z : Nat, tx.size = z := ⟨_, rfl⟩
      rw [hz] at s5 hstep
      by_cases h1 : x < f
      · rw [if_pos h1] at hstep
        have HR := Lib.hid hstep
        have hle : decide (f ≤ x) = false := by simp; omega
        clear hstep hd
        go_wp2
        go_ret2
        exact ⟨by rw [HR.out]; rfl, hb⟩
      · rw [if_neg h1] at hstep
        have hle : f ≤ x := by omega
        by_cases h2 : x < t
        · rw [if_pos h2] at hstep
          have HR := Lib.hid hstep
          clear hstep hd
          go_wp2
          go_ret2
          exact ⟨by rw [HR.out]; rfl, hb⟩
        · rw [if_neg h2] at hstep
          have HR := Lib.hid hstep
          clear hstep hd
          go_wp2
          go_quiet (fail)
          go_wp2
          exact ⟨⟨k + 1, y + ((z : Int) - (t - f)), by omega, by go_num, by go_num, by omega, by omega, below_N hb _, by simp; omega, HR⟩, by simp [intOf]; omega⟩
    · have hstep := HX.out
      rw [mv_end (by rw [HN.out]; omega)] at hstep
      have HR := Lib.hid hstep
      clear hstep
      go_wp2
      go_ret2
      exact ⟨by rw [HR.out]; rfl, hb⟩
end Go.Proofs.Ytdgoblapmjpcaaa.Sp
