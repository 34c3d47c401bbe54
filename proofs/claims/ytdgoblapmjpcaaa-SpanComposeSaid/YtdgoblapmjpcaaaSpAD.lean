/-
  Package span: the statements' walks, SpanInverts, SpanComposes, SpanCompose.
-/
import Derived.Test.YtdgoblapmjpcaaaSpAC
import Derived.Test.YtdgoblapmjpcaaaSpL
namespace Go.Proofs.Ytdgoblapmjpcaaa.Sp
open Go.RowKit
set_option linter.unusedVariables false
set_option linter.unusedSimpArgs false
open RO

theorem es_of {w : World} {base : Nat} {v : Value} {L : List Ed} (h : Ow ec 3 50 w base v L) : Es w w.heap.size v L := Ow.rd ec_len h
theorem es_next {w w' : World} {v : Value} {L : List Ed} (h : Es w w.heap.size v L) (hb : Below w.heap.size w w') : Es w' w'.heap.size v L := Rd.next h hb
set_option maxRecDepth 100000 in
set_option maxHeartbeats 8000000 in
theorem inverts_walk (s : ByteArray) {v : Value} {L : List Ed} {n : Nat} (w : World) (hs : s.size ≤ 9223372036854775807) (hr : L.length = n ∧ Es w w.heap.size v L ∧ ∀ d ∈ L, d.ok) : Calls Try.prog 5 #[.string s, v] w fun e w' => e = .returned (.bool true) ∧ Below w.heap.size w w' := by
  obtain ⟨_, hv, hL⟩ := hr
  have HF := Lib.hid (few_any s v L w hv hL hs)
  have HI := Lib.hid (fun (h : s.size ≤ 300 ∧ L.length ≤ 60 ∧ ∀ d ∈ L, d.x.size ≤ 300) => invert_any s v L w hv hL (by omega) (fun d hd => by have := h.2.2 d hd; omega))
  have HRI := Lib.hid (fun (h : s.size ≤ 300 ∧ L.length ≤ 60 ∧ ∀ d ∈ L, d.x.size ≤ 300) (w' : World) (hb : Below w.heap.size w w') => rinvert_any s v L w' (Rd.next hv hb) hL h.1 h.2.1 h.2.2)
  have HRA := Lib.hid (fun (h : s.size ≤ 300 ∧ L.length ≤ 60 ∧ ∀ d ∈ L, d.x.size ≤ 300) (w' : World) (hb : Below w.heap.size w w') => rapply_any s v L w' (Rd.next hv hb) hL (by omega) (fun d hd => by have := h.2.2 d hd; omega))
  obtain ⟨T, hT⟩ : ∃ T, appR s.data.toList L = T := ⟨_, rfl⟩
  have HM : Hid (appE s.data.toList L = 0 → (s.size ≤ 300 ∧ L.length ≤ 60 ∧ ∀ d ∈ L, d.x.size ≤ 300) → T.size ≤ 100000 ∧ appE T.data.toList (invL s L) = 0 ∧ appR T.data.toList (invL s L) = s ∧ (∀ d ∈ invL s L, d.ok) ∧ Short (invL s L)) := Lib.hid (fun hE h => by
    have hsm := app_small hE h.2.1 h.2.2
    obtain ⟨g1, g2, g3, g4, _⟩ := inv_makes hE (fun d hd => by have := h.2.2 d hd; omega) h.2.1 (by omega) (by omega)
    rw [hT] at hsm g1 g2
    exact ⟨by omega, g1, g2, g3, g4⟩)
  have HB0 : Hid (Below w.heap.size w w) := Lib.hid (Below.refl _ _)
  unfold InvPost at HI HRI
  rw [hT] at HRA
  obtain ⟨IL, hIL⟩ : ∃ IL, invL s L = IL := ⟨_, rfl⟩
  rw [hIL] at HI HRI HM
  obtain ⟨E, hE⟩ : ∃ E, appE s.data.toList L = E := ⟨_, rfl⟩
  rw [hE] at HI HRI HRA HM
  have HSM := Lib.hid (fun (x y : Value) (w' : World) (h1 : Es w' w'.heap.size x IL) (h2 : Es w' w'.heap.size y IL) => rsame_any x y IL w' h1 h2)
  clear hv hL hT hIL hE
  by_cases hz : E = 0
  · subst hz
    have HAP := Lib.hid (fun (h : s.size ≤ 300 ∧ L.length ≤ 60 ∧ ∀ d ∈ L, d.x.size ≤ 300) (x : Value) (w' : World) (hx : Es w' w'.heap.size x IL) => by
      have g := HM.out rfl h
      have a := apply_any T x IL w' hx g.2.2.2.1 g.1 g.2.2.2.2
      rw [g.2.1, g.2.2.1] at a
      exact a)
    clear HM
    go_enter Try.func5, Try.ntmps5
    go_wp2_with (first | (go_at_call 17; (with_reducible refine HF.out.mono ?_); rintro e w1 ⟨b, rfl, rfl, hfw⟩; have HFW := Lib.hid hfw; clear hfw; cases b) | (go_at_call 20; (with_reducible refine (HI.out (HFW.out trivial)).mono ?_); rintro e w2 ⟨x, rfl, hb2, hO2⟩; have HBx := Lib.hid (HB0.out.trans (hb2.mono HB0.out.size)); clear HB0; have HB0 := HBx; clear HBx; have HX := Lib.hid (es_of hO2); clear hO2 hb2) | (go_at_call 21; (with_reducible refine (HRI.out (HFW.out trivial) _ HB0.out).mono ?_); rintro e w3 ⟨y, rfl, hb3, hO3⟩; have HBx := Lib.hid (HB0.out.trans (hb3.mono HB0.out.size)); clear HB0; have HB0 := HBx; clear HBx; have HXx := Lib.hid (es_next HX.out hb3); clear HX; have HX := HXx; clear HXx; have HY := Lib.hid (es_of hO3); clear hO3 hb3) | (go_at_call 22; (with_reducible refine (HSM.out _ _ _ HX.out HY.out).mono ?_); rintro e w4 ⟨rfl, hb4⟩; have HBx := Lib.hid (HB0.out.trans (hb4.mono HB0.out.size)); clear HB0; have HB0 := HBx; clear HBx; have HXx := Lib.hid (es_next HX.out hb4); clear HX; have HX := HXx; clear HXx; clear hb4) | (go_at_call 19; (with_reducible refine (HRA.out (HFW.out trivial) _ HB0.out).mono ?_); rintro e w5 ⟨rfl, hb5⟩; have HBx := Lib.hid (HB0.out.trans (hb5.mono HB0.out.size)); clear HB0; have HB0 := HBx; clear HBx; have HXx := Lib.hid (es_next HX.out hb5); clear HX; have HX := HXx; clear HXx; clear hb5) | (go_at_call 18; (with_reducible refine (HAP.out (HFW.out trivial) _ _ HX.out).mono ?_); rintro e w6 ⟨rfl, hb6⟩; have HBx := Lib.hid (HB0.out.trans (hb6.mono HB0.out.size)); clear HB0; have HB0 := HBx; clear HBx; clear hb6) | (go_at_call 10; (with_reducible refine (lives_any _).mono ?_); rintro e w9 ⟨rfl, hb9⟩; have HBx := Lib.hid (HB0.out.trans (hb9.mono HB0.out.size)); clear HB0; have HB0 := HBx; clear HBx))
    · go_ret
      exact ⟨rfl, HB0.out⟩
    · go_ret
      exact ⟨rfl, HB0.out⟩
  · have hne : (E == 0) = false := by rw [beq_eq_false_iff_ne]; exact hz
    clear HM hz
    go_enter Try.func5, Try.ntmps5
    go_wp2_with (first | (go_at_call 17; (with_reducible refine HF.out.mono ?_); rintro e w1 ⟨b, rfl, rfl, hfw⟩; have HFW := Lib.hid hfw; clear hfw; cases b) | (go_at_call 20; (with_reducible refine (HI.out (HFW.out trivial)).mono ?_); rintro e w2 ⟨x, rfl, hb2, hO2⟩; have HBx := Lib.hid (HB0.out.trans (hb2.mono HB0.out.size)); clear HB0; have HB0 := HBx; clear HBx; have HX := Lib.hid (es_of hO2); clear hO2 hb2) | (go_at_call 21; (with_reducible refine (HRI.out (HFW.out trivial) _ HB0.out).mono ?_); rintro e w3 ⟨y, rfl, hb3, hO3⟩; have HBx := Lib.hid (HB0.out.trans (hb3.mono HB0.out.size)); clear HB0; have HB0 := HBx; clear HBx; have HXx := Lib.hid (es_next HX.out hb3); clear HX; have HX := HXx; clear HXx; have HY := Lib.hid (es_of hO3); clear hO3 hb3) | (go_at_call 22; (with_reducible refine (HSM.out _ _ _ HX.out HY.out).mono ?_); rintro e w4 ⟨rfl, hb4⟩; have HBx := Lib.hid (HB0.out.trans (hb4.mono HB0.out.size)); clear HB0; have HB0 := HBx; clear HBx; have HXx := Lib.hid (es_next HX.out hb4); clear HX; have HX := HXx; clear HXx; clear hb4) | (go_at_call 10; (with_reducible refine (lives_any _).mono ?_); rintro e w9 ⟨rfl, hb9⟩; have HBx := Lib.hid (HB0.out.trans (hb9.mono HB0.out.size)); clear HB0; have HB0 := HBx; clear HBx))
    · go_ret
      exact ⟨rfl, HB0.out⟩
    · go_ret
      exact ⟨rfl, HB0.out⟩
end Go.Proofs.Ytdgoblapmjpcaaa.Sp
