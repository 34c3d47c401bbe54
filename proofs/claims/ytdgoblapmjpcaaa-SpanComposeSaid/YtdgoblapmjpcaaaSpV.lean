/-
  Package span: the reference's Same.
-/
import Derived.Test.YtdgoblapmjpcaaaSpU
namespace Go.Proofs.Ytdgoblapmjpcaaa.Sp
open Go.RowKit
set_option linter.unusedVariables false
set_option linter.unusedSimpArgs false
open RO

set_option maxRecDepth 100000 in
set_option maxHeartbeats 8000000 in
theorem rsame_any (u v : Value) (L : List Ed) (w : World) (hu : Es w w.heap.size u L) (hv : Es w w.heap.size v L) : Calls Try.prog 22 #[u, v] w fun e w' => e = .returned (.bool true) ∧ Below w.heap.size w w' := by
  obtain ⟨n, hn⟩ : ∃ n, L.length = n := ⟨_, rfl⟩
  have hl1 := Rd.run_len Try.underlying22 hu hn
  have hl2 := Rd.run_len Try.underlying22 hv hn
  have HC : Hid (∀ x, Es w w.heap.size x L → ∀ wr, Below w.heap.size w wr → ∀ k, k < n → ∃ (g o cap : Nat), x = .slice (some ⟨g, o, none⟩) n cap ∧ n ≤ cap ∧ n ≤ 9223372036854775807 ∧ g < w.heap.size ∧ ∀ d, L[k]? = some d → wr.cell? ⟨g, o + k * 3, none⟩ = some (.int .i64 d.f) ∧ wr.cell? ⟨g, o + k * 3 + 1, none⟩ = some (.int .i64 d.t) ∧ wr.cell? ⟨g, o + k * 3 + 2, none⟩ = some (.string d.x)) := Lib.hid (by
    intro x hx wr hb k hk
    obtain ⟨g, o, cap, hvv, hg, hc, hm, hcell⟩ := hx.at_ hn (by omega)
    refine ⟨g, o, cap, hvv, hc, by omega, hg, fun d hd => ?_⟩
    obtain ⟨e0, e1, e2⟩ := hcell k d hd
    exact ⟨(hb.cell (p := ⟨g, o + k * 3, none⟩) hg).trans e0, (hb.cell (p := ⟨g, o + k * 3 + 1, none⟩) hg).trans e1, (hb.cell (p := ⟨g, o + k * 3 + 2, none⟩) hg).trans e2⟩)
  have HN := Lib.hid hn
  have HU := Lib.hid hu
  have HV := Lib.hid hv
  clear hu hv hn
  go_enter Try.func22, Try.ntmps22
  go_wp2
  go_loopw [5] (fun i wr => ∃ k m : Nat, k ≤ n ∧ i = .int .i64 k ∧ wr = w.drewN m) (fun i _ => n - (intOf i).toNat)
  case atStart => exact ⟨0, 0, by omega, rfl, rfl⟩
  case round =>
    obtain ⟨k, m, hk, rfl, rfl⟩ := hrel
    by_cases hlt : k < n
    · obtain ⟨d, hd⟩ := get_in HN.out hlt
      obtain ⟨g, o, cap, rfl, hcap, hmax, hg, hcell⟩ := HC.out u HU.out w (Below.refl _ _) k hlt
      obtain ⟨g2, o2, cap2, rfl, hcap2, _, hg2, hcell2⟩ := HC.out v HV.out w (Below.refl _ _) k hlt
      obtain ⟨c0, c1, c2⟩ := hcell d hd
      obtain ⟨e0, e1, e2⟩ := hcell2 d hd
      obtain ⟨df, dt, dx⟩ := d
      simp only at c0 c1 c2 e0 e1 e2
      clear hcell hcell2 hd
      go_wp2
      go_quiet (fail)
      go_wp2
      exact ⟨⟨k + 1, _, by omega, by go_num, rfl⟩, by simp [intOf] <;> omega⟩
    · go_wp2
      go_ret
      exact ⟨rfl, below_N (Below.refl _ _) m⟩
end Go.Proofs.Ytdgoblapmjpcaaa.Sp
