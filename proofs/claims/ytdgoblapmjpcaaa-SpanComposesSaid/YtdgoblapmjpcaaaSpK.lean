/-
  Package span: the statements' own liveness, and what edits make.
-/
import Derived.Test.YtdgoblapmjpcaaaSpJ
namespace Go.Proofs.Ytdgoblapmjpcaaa.Sp
open Go.RowKit
set_option linter.unusedVariables false
set_option linter.unusedSimpArgs false
open RO

def lv : Ed := ⟨1, 2, ⟨#[120, 121]⟩⟩
def abc : ByteArray := ⟨#[97, 98, 99]⟩
theorem lit_es (w : World) (d : Ed) : Es (w.alloc (.cells (ec d).toArray 50)) (w.heap.size + 1) (.slice (some ⟨w.heap.size, 0, none⟩) 1 1) [d] := by
  refine .inr ⟨w.heap.size, 0, 1, rfl, by omega, by simp, by decide, ?_⟩
  intro i x j u h1 h2
  have hi := (List.getElem?_eq_some_iff.1 h1).1
  simp at hi
  subst hi
  simp at h1
  subst h1
  have := new_row w (ec d) 50 j u h2
  have ea : (⟨w.heap.size, 0, none⟩ : Addr).add j = ⟨w.heap.size, 0 + 0 * 3 + j, none⟩ := by unfold Addr.add; by_cases hj : j = 0 <;> simp [hj]
  rw [← ea]; exact this
theorem lv_app : appR abc.data.toList [lv] = ⟨#[97, 120, 121, 99]⟩ ∧ appE abc.data.toList [lv] = 0 := by
  constructor <;> kernel_rfl
theorem lv_inv : invL abc [lv] = [⟨1, 3, ⟨#[98]⟩⟩] := by kernel_rfl
theorem lv_ok : ∀ d ∈ [lv], d.ok := by
  intro d hd
  simp at hd
  subst hd
  refine ⟨⟨by decide, by decide⟩, ⟨by decide, by decide⟩, by decide⟩
theorem lv_short : Short [lv] := by
  intro d hd
  simp at hd
  subst hd
  decide
theorem eds_at {w : World} {base : Nat} {v : Value} {L : List Ed} {n : Nat} (h : Ow ec 3 50 w base v L) (hn : L.length = n) (h0 : 0 < n) : ∃ g cap, v = .slice (some ⟨g, 0, none⟩) n cap ∧ base ≤ g ∧ g < w.heap.size ∧ n ≤ cap := by
  subst hn
  obtain ⟨g, cap, hv, _, _⟩ := World.ownsRow.form h h0
  subst hv
  have := World.ownsRow.lt h g rfl
  rcases h.2 with ⟨h', _⟩ | ⟨g', cap', cur, h', hb, hg, hnc, _⟩
  · simp at h'
  · injection h' with h1 h2 h3
    subst h3
    exact ⟨g, cap, rfl, this.1, this.2, hnc⟩
theorem eds_cells {w : World} {base g n cap : Nat} {L : List Ed} (h : Ow ec 3 50 w base (.slice (some ⟨g, 0, none⟩) n cap) L) (hn : L.length = n) {i : Nat} {r : Ed} (hi : L[i]? = some r) : w.cell? ⟨g, i * 3, none⟩ = some (.int .i64 r.f) ∧ w.cell? ⟨g, i * 3 + 1, none⟩ = some (.int .i64 r.t) ∧ w.cell? ⟨g, i * 3 + 2, none⟩ = some (.string r.x) := by
  unfold Ow at h
  rw [hn] at h
  have hl := (List.getElem?_eq_some_iff.1 hi).1
  have hc : ∀ j, j < 3 → w.cell? ⟨g, i * 3 + j, none⟩ = (ec r)[j]? := fun j hj => by
    rw [World.ownsRow.cellAt h _ (by omega)]
    exact flat_get ec_len hi hj
  exact ⟨hc 0 (by omega), hc 1 (by omega), hc 2 (by omega)⟩
set_option maxRecDepth 100000 in
set_option maxHeartbeats 8000000 in
theorem lives_any (w : World) : Calls Try.prog 10 #[] w fun e w' => e = .returned (.bool true) ∧ Below w.heap.size w w' := by
  have hes := lit_es w lv
  have hb0 : Below w.heap.size w (w.alloc (.cells (ec lv).toArray 50)) := (Below.refl _ _).alloc (Nat.le_refl _) _
  have hsz : (w.alloc (.cells (ec lv).toArray 50)).heap.size = w.heap.size + 1 := by simp
  have HA := Lib.hid (fun (w' : World) (h : Below (w.heap.size + 1) (w.alloc (.cells (ec lv).toArray 50)) w') => apply_any abc (.slice (some ⟨w.heap.size, 0, none⟩) 1 1) [lv] w' (by rw [← hsz] at h; exact Rd.next (by rw [hsz]; exact hes) h) lv_ok (by decide) lv_short)
  have HI := Lib.hid (fun (w' : World) (h : Below (w.heap.size + 1) (w.alloc (.cells (ec lv).toArray 50)) w') => invert_any abc (.slice (some ⟨w.heap.size, 0, none⟩) 1 1) [lv] w' (by rw [← hsz] at h; exact Rd.next (by rw [hsz]; exact hes) h) lv_ok (by decide) lv_short)
  rw [lv_app.1, lv_app.2] at HA
  unfold InvPost at HI
  rw [lv_app.2, lv_inv] at HI
  have HW : Hid (w.alloc (.cells (ec lv).toArray 50) = w.alloc (.cells #[.int .i64 1, .int .i64 2, .string ⟨#[120, 121]⟩] 50)) := Lib.hid rfl
  have HB := Lib.hid (Below.refl (w.heap.size + 1) (w.alloc (.cells (ec lv).toArray 50)))
  rw [HW.out] at HA HI HB hb0 hsz
  have HAA : Hid (abc = ⟨#[97, 98, 99]⟩) := Lib.hid rfl
  rw [HAA.out] at HA HI
  clear hes HW HAA
  go_enter Try.func10, Try.ntmps10
  go_wp2_with (first | (go_at_call 18; (with_reducible refine (HA.out _ HB.out).mono ?_); rintro e w1 ⟨rfl, hb1⟩; have HB1 := Lib.hid (HB.out.trans (hb1.mono (by rw [hsz]; exact Nat.le_refl _)))) | (go_at_call 20; (with_reducible refine (HI.out _ HB1.out).mono ?_); rintro e w2 ⟨u, rfl, hb2, hO⟩; obtain ⟨g, cap, rfl, hg1, hg2, hcap⟩ := eds_at (n := 1) hO rfl (by omega); obtain ⟨c0, c1, c2⟩ := eds_cells (n := 1) (i := 0) hO rfl rfl; simp only [Nat.zero_mul, Nat.zero_add] at c0 c1 c2; clear hO))
  go_ret
  exact ⟨rfl, hb0.trans (((hb1.mono (by rw [hsz]; omega)).trans (hb2.mono (by have := hb1.size; omega))))⟩
set_option maxRecDepth 100000 in
set_option maxHeartbeats 8000000 in
theorem applies_walk (src : ByteArray) {v : Value} {L : List Ed} {n : Nat} (w : World) (hs : src.size ≤ 9223372036854775807) (hr : L.length = n ∧ Es w w.heap.size v L ∧ ∀ d ∈ L, d.ok) : Calls Try.prog 4 #[.string src, v] w fun e w' => e = .returned (.bool true) ∧ Below w.heap.size w w' := by
  obtain ⟨_, hv, hL⟩ := hr
  have HF := Lib.hid (few_any src v L w hv hL hs)
  have HAP := Lib.hid (fun (h : src.size ≤ 300 ∧ L.length ≤ 60 ∧ ∀ d ∈ L, d.x.size ≤ 300) => apply_any src v L w hv hL (by omega) (fun d hd => by have := h.2.2 d hd; omega))
  have HRA := Lib.hid (fun (h : src.size ≤ 300 ∧ L.length ≤ 60 ∧ ∀ d ∈ L, d.x.size ≤ 300) (w' : World) (hb : Below w.heap.size w w') => rapply_any src v L w' (Rd.next hv hb) hL (by omega) (fun d hd => by have := h.2.2 d hd; omega))
  obtain ⟨T, hT⟩ : ∃ T, appR src.data.toList L = T := ⟨_, rfl⟩
  obtain ⟨E, hE⟩ : ∃ E, appE src.data.toList L = E := ⟨_, rfl⟩
  rw [hT, hE] at HAP HRA
  clear hv hL hT hE
  go_enter Try.func4, Try.ntmps4
  go_wp2_with (first | (go_at_call 17; (with_reducible refine HF.out.mono ?_); rintro e w1 ⟨b, rfl, rfl, hfw⟩; have HFW := Lib.hid hfw; clear hfw; cases b) | (go_at_call 18; go_loud ((with_reducible refine (HAP.out (HFW.out trivial)).mono ?_); rintro e w2 ⟨rfl, hb2⟩)) | (go_at_call 19; (with_reducible refine (HRA.out (HFW.out trivial) _ hb2).mono ?_); rintro e w3 ⟨rfl, hb3⟩; have hsz2 := hb2.size; have hsz3 := hb3.size) | (go_at_call 10; (with_reducible refine (lives_any _).mono ?_); rintro e w4 ⟨rfl, hb4⟩))
  · go_ret
    exact ⟨rfl, hb4⟩
  · go_ret
    exact ⟨rfl, (hb2.trans (hb3.mono hsz2)).trans (hb4.mono (by omega))⟩
end Go.Proofs.Ytdgoblapmjpcaaa.Sp
