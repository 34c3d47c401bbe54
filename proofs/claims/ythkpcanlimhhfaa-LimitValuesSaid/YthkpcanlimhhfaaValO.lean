/-
  A value that came in, opened: its reading is a tree.
-/
import Derived.Test.YthkpcanlimhhfaaValR
namespace Go.Proofs.Ythkpcanlimhhfaa.VL
open Go.RowKit
set_option linter.unusedVariables false
set_option linter.unusedSimpArgs false
open Go.ChangeShapes Go.WideShapes Go.Deep

theorem VR.more {w : World} {B : Nat} : ∀ (f : Nat) (cs : List Value) (t : VT), VR w B f cs t → VR w B (f + 1) cs t := by
  intro f
  induction f with
  | zero => intro cs t h; exact h.elim
  | succ f ih =>
    intro cs t h
    cases t with
    | mk k m l fs =>
      obtain ⟨h1, h2, bv, lv, fv, h3, hb, h4, h5⟩ := h
      exact ⟨h1, h2, bv, lv, fv, h3, hb, h4.imp (fun c t hc => ih c t hc), h5.imp (fun c p hc => by obtain ⟨r, e, hs, hr⟩ := hc; exact ⟨r, e, hs, ih r p.2 hr⟩)⟩
theorem VR.upto {w : World} {B f g : Nat} {cs : List Value} {t : VT} (h : VR w B f cs t) (hf : f ≤ g) : VR w B g cs t := by
  obtain ⟨d, rfl⟩ := Nat.exists_eq_add_of_le hf
  induction d with
  | zero => exact h
  | succ d ih => exact VR.more _ _ _ (ih (Nat.le_add_right f d))
section
variable {H : Type} {enc : TypeId × Value → H} {w : World} {base : Nat} {spare : Nat → Bool} {held : Bool}
set_option maxRecDepth 100000 in
theorem open_val : ∀ (fuel : Nat) (cs : List Value) (x : DataW H × List MemPlace), DataW.trod enc Try.prog w base spare held fuel 30 cs = some x → ∃ t, VR w w.heap.size fuel cs t := by
  intro fuel
  induction fuel using Nat.strongRecOn with
  | ind fuel ih =>
    intro cs x h
    obtain ⟨xs, n, hf, _, hlen, hxl, hall⟩ := DataW.trod_struct Try.underlying30 h
    have hc : Try.prog.cellsOf 30 = 13 := by kernel_rfl
    have kF : Try.prog.cellsOf 36 = 14 := by kernel_rfl
    have kB : Try.prog.cellsOf 5 = 1 := by kernel_rfl
    have k_int : Try.prog.cellsOf 3 = 1 := by kernel_rfl
    have k_bool : Try.prog.cellsOf 4 = 1 := by kernel_rfl
    have k_api_Decimal : Try.prog.cellsOf 23 = 3 := by kernel_rfl
    have k_api_Time : Try.prog.cellsOf 25 = 4 := by kernel_rfl
    have k_string : Try.prog.cellsOf 9 = 1 := by kernel_rfl
    have k_suint8 : Try.prog.cellsOf 26 = 1 := by kernel_rfl
    have k_sapi_Value : Try.prog.cellsOf 27 = 1 := by kernel_rfl
    have k_sapi_Field : Try.prog.cellsOf 28 = 1 := by kernel_rfl
    rw [hc] at hlen
    have hx8 : xs.length = 8 := hxl
    have h0 : DataW.trod enc Try.prog w base spare held n 3 (List.take (Try.prog.cellsOf 3) (List.drop 0 cs)) = xs[0]? := hall 0 _ rfl
    have h1 : DataW.trod enc Try.prog w base spare held n 4 (List.take (Try.prog.cellsOf 4) (List.drop 1 cs)) = xs[1]? := hall 1 _ rfl
    have h2 : DataW.trod enc Try.prog w base spare held n 23 (List.take (Try.prog.cellsOf 23) (List.drop 2 cs)) = xs[2]? := hall 2 _ rfl
    have h3 : DataW.trod enc Try.prog w base spare held n 25 (List.take (Try.prog.cellsOf 25) (List.drop 5 cs)) = xs[3]? := hall 3 _ rfl
    have h4 : DataW.trod enc Try.prog w base spare held n 9 (List.take (Try.prog.cellsOf 9) (List.drop 9 cs)) = xs[4]? := hall 4 _ rfl
    have h5 : DataW.trod enc Try.prog w base spare held n 26 (List.take (Try.prog.cellsOf 26) (List.drop 10 cs)) = xs[5]? := hall 5 _ rfl
    have h6 : DataW.trod enc Try.prog w base spare held n 27 (List.take (Try.prog.cellsOf 27) (List.drop 11 cs)) = xs[6]? := hall 6 _ rfl
    have h7 : DataW.trod enc Try.prog w base spare held n 28 (List.take (Try.prog.cellsOf 28) (List.drop 12 cs)) = xs[7]? := hall 7 _ rfl
    rw [List.getElem?_eq_getElem (by omega)] at h0 h1 h2 h3 h4 h5 h6 h7
    rw [k_int] at h0
    rw [k_bool] at h1
    rw [k_api_Decimal] at h2
    rw [k_api_Time] at h3
    rw [k_string] at h4
    rw [k_suint8] at h5
    rw [k_sapi_Value] at h6
    rw [k_sapi_Field] at h7
    match cs, hlen with
    | [c0, c1, c2, c3, c4, c5, c6, c7, c8, c9, c10, c11, c12], _ =>
      have h0 : DataW.trod enc Try.prog w base spare held n 3 [c0] = some (xs[0]'(by omega)) := h0
      have h1 : DataW.trod enc Try.prog w base spare held n 4 [c1] = some (xs[1]'(by omega)) := h1
      have h2 : DataW.trod enc Try.prog w base spare held n 23 [c2, c3, c4] = some (xs[2]'(by omega)) := h2
      have h3 : DataW.trod enc Try.prog w base spare held n 25 [c5, c6, c7, c8] = some (xs[3]'(by omega)) := h3
      have h4 : DataW.trod enc Try.prog w base spare held n 9 [c9] = some (xs[4]'(by omega)) := h4
      have h5 : DataW.trod enc Try.prog w base spare held n 26 [c10] = some (xs[5]'(by omega)) := h5
      have h6 : DataW.trod enc Try.prog w base spare held n 27 [c11] = some (xs[6]'(by omega)) := h6
      have h7 : DataW.trod enc Try.prog w base spare held n 28 [c12] = some (xs[7]'(by omega)) := h7
      obtain ⟨k, q0, _, wk⟩ := DataW.trod_int Try.underlying3 h0
      simp at q0
      subst q0
      obtain ⟨vb, q1, _⟩ := DataW.trod_bool Try.underlying4 h1
      simp at q1
      subst q1
      obtain ⟨y0, y1, y2, n2, _, _, d0, d1, d2⟩ := trod_struct3 Try.underlying23 h2
      have d0 : DataW.trod enc Try.prog w base spare held n2 4 (List.take (Try.prog.cellsOf 4) (List.drop 0 [c2, c3, c4])) = some y0 := d0
      have d1 : DataW.trod enc Try.prog w base spare held n2 9 (List.take (Try.prog.cellsOf 9) (List.drop 1 [c2, c3, c4])) = some y1 := d1
      have d2 : DataW.trod enc Try.prog w base spare held n2 3 (List.take (Try.prog.cellsOf 3) (List.drop 2 [c2, c3, c4])) = some y2 := d2
      rw [k_bool] at d0
      rw [k_string] at d1
      rw [k_int] at d2
      obtain ⟨ng, q2, _⟩ := DataW.trod_bool Try.underlying4 d0
      simp at q2
      subst q2
      obtain ⟨dg, q3, _, wdg⟩ := DataW.trod_string Try.underlying9 d1
      simp at q3
      subst q3
      obtain ⟨ex, q4, _, wex⟩ := DataW.trod_int Try.underlying3 d2
      simp at q4
      subst q4
      obtain ⟨z0, z1, z2, z3, n3, _, _, e0, e1, e2, e3⟩ := Go.Joins.trod_struct4 Try.underlying25 h3
      have e0 : DataW.trod enc Try.prog w base spare held n3 3 (List.take (Try.prog.cellsOf 3) (List.drop 0 [c5, c6, c7, c8])) = some z0 := e0
      rw [k_int] at e0
      have e1 : DataW.trod enc Try.prog w base spare held n3 3 (List.take (Try.prog.cellsOf 3) (List.drop 1 [c5, c6, c7, c8])) = some z1 := e1
      rw [k_int] at e1
      have e2 : DataW.trod enc Try.prog w base spare held n3 3 (List.take (Try.prog.cellsOf 3) (List.drop 2 [c5, c6, c7, c8])) = some z2 := e2
      rw [k_int] at e2
      have e3 : DataW.trod enc Try.prog w base spare held n3 3 (List.take (Try.prog.cellsOf 3) (List.drop 3 [c5, c6, c7, c8])) = some z3 := e3
      rw [k_int] at e3
      obtain ⟨tk, r0, _, wtk⟩ := DataW.trod_int Try.underlying3 e0
      simp at r0
      subst r0
      obtain ⟨td, r1, _, wtd⟩ := DataW.trod_int Try.underlying3 e1
      simp at r1
      subst r1
      obtain ⟨tn, r2, _, wtn⟩ := DataW.trod_int Try.underlying3 e2
      simp at r2
      subst r2
      obtain ⟨tz, r3, _, wtz⟩ := DataW.trod_int Try.underlying3 e3
      simp at r3
      subst r3
      obtain ⟨tx, q9, _, wtx⟩ := DataW.trod_string Try.underlying9 h4
      simp at q9
      subst q9
      obtain ⟨Y, hY⟩ := open_slr (α := Int) Try.underlying26 kB (by decide) h5 (fun _ c x => c = [.int .u8 x] ∧ 0 ≤ x ∧ x ≤ 255) (fun n' c y hn' _ hy => by
        obtain ⟨v, q, _, wv⟩ := DataW.trod_int Try.underlying5 hy
        exact ⟨v, q, bnd_u8 wv⟩) (fun c x => c = [.int .u8 x] ∧ 0 ≤ x ∧ x ≤ 255) (fun _ _ _ _ h => h)
      obtain ⟨L, hL⟩ := open_slr (α := VT) Try.underlying27 hc (by decide) h6 (fun n' c t => VR w w.heap.size n' c t) (fun n' c y hn' _ hy => ih n' (by omega) c y hy) (fun c t => VR w w.heap.size n c t) (fun n' c t hn' ht => ht.upto (by omega))
      obtain ⟨F, hF⟩ := open_slr (α := ByteArray × VT) Try.underlying28 kF (by decide) h7 (fun n' c p => ∃ r, c = .string p.1 :: r ∧ p.1.size ≤ maxLen ∧ VR w w.heap.size n' r p.2) (fun n' c y hn' hcl hy => by
        obtain ⟨ys, n2, hf2, _, _, hyl, hally⟩ := DataW.trod_struct Try.underlying36 hy
        have hy2 : ys.length = 2 := hyl
        have g0 : DataW.trod enc Try.prog w base spare held n2 9 (List.take (Try.prog.cellsOf 9) (List.drop 0 c)) = ys[0]? := hally 0 _ rfl
        have g1 : DataW.trod enc Try.prog w base spare held n2 30 (List.take (Try.prog.cellsOf 30) (List.drop 1 c)) = ys[1]? := hally 1 _ rfl
        rw [List.getElem?_eq_getElem (by omega)] at g0 g1
        rw [k_string] at g0
        rw [hc] at g1
        match c, hcl with
        | a :: r, hcl =>
          have hr : r.length = 13 := by simpa using hcl
          have g0 : DataW.trod enc Try.prog w base spare held n2 9 [a] = some (ys[0]'(by omega)) := g0
          have g1 : DataW.trod enc Try.prog w base spare held n2 30 (List.take 13 r) = some (ys[1]'(by omega)) := g1
          rw [List.take_of_length_le (by omega)] at g1
          obtain ⟨s, q1, _, ws⟩ := DataW.trod_string Try.underlying9 g0
          simp at q1
          subst q1
          obtain ⟨t, ht⟩ := ih n2 (by omega) r _ g1
          exact ⟨(s, t), r, rfl, ws, ht.upto (by omega)⟩) (fun c p => ∃ r, c = .string p.1 :: r ∧ p.1.size ≤ maxLen ∧ VR w w.heap.size n r p.2) (fun n' c p hn' hp => by
        obtain ⟨r, e, hs, hr⟩ := hp
        exact ⟨r, e, hs, hr.upto (by omega)⟩)
      subst hf
      exact ⟨.mk k ⟨vb, ng, dg, ex, tk, td, tn, tz, tx, Y⟩ L F, bnd_i64 wk, ⟨bnd_i64 wex, bnd_i64 wtk, bnd_i64 wtd, bnd_i64 wtn, bnd_i64 wtz, wdg, wtx⟩, c10, c11, c12, rfl, hY, hL, hF⟩
/-- A parameter that is a value. -/
theorem open_value {r : Reach} {b0 : Nat} {v : Value} {d : DataW H} {p : List MemPlace} (hv : Value.okWide Try.prog w r b0 30 v) (h : DataW.Trod enc Try.prog w base spare held 30 v d p) : ∃ (cs : List Value) (f : Nat) (t : VT), v = .agg cs.toArray ∧ VR w w.heap.size f cs t := by
  obtain ⟨cs, rfl, hsz⟩ := okWide_struct Try.underlying30 hv
  obtain ⟨fuel, hf⟩ := h
  obtain ⟨t, ht⟩ := open_val fuel _ _ hf
  exact ⟨cs.toList, fuel, t, by simp, by simpa [Value.cells] using ht⟩
end
end Go.Proofs.Ythkpcanlimhhfaa.VL
