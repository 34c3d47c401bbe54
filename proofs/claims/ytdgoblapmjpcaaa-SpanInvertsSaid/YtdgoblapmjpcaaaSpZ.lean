/-
  Package span: Compose, walked.
-/
import Derived.Test.YtdgoblapmjpcaaaSpY
namespace Go.Proofs.Ytdgoblapmjpcaaa.Sp
open Go.RowKit
set_option linter.unusedVariables false
set_option linter.unusedSimpArgs false
open RO

theorem cov_app {s : ByteArray} {L : List Ed} (hE : appE s.data.toList L = 0) (hS : Short L) : Cov (kk s.size L) s.size (appR s.data.toList L).size (rg s.size true 0 0 L) ∧ (appR s.data.toList L).data.toList = app s.data.toList L ∧ Good L s.size ∧ (appR s.data.toList L).size ≤ 1048576 := by
  have hck : chk L s.size = 0 := chk_of_app hE
  have hG : Good L s.size := good_of hck
  have hb : ¬ 1048576 < (app s.data.toList L).length := fun hb => by
    have := (appE_big hck hb).1; rw [hE] at this; exact absurd this (by decide)
  have hR := (appE_ok hck hb).2
  have hl : (appR s.data.toList L).data.toList = app s.data.toList L := by rw [hR]
  have hz : (appR s.data.toList L).size = (app s.data.toList L).length := by rw [← hl]; rfl
  refine ⟨cov_kk (fit_of hG hS) ?_, hl, hG, by omega⟩
  rw [hz, app_len (s := s.data.toList) hG hS]
  rfl
def cmpE (s : ByteArray) (A B : List Ed) : Int := if appE s.data.toList A = 0 then appE (appR s.data.toList A).data.toList B else appE s.data.toList A
def bth (s : ByteArray) (A B : List Ed) : List Ru := bo ((rg s.size true 0 0 A).length + (rg (appR s.data.toList A).size true 0 0 B).length) (rg s.size true 0 0 A) (rg (appR s.data.toList A).size true 0 0 B)
def cmpL (s : ByteArray) (A B : List Ed) : List Ed := if cmpE s A B = 0 then nm (appR (appR s.data.toList A).data.toList B) s.size 0 0 (bth s A B) else []
def kk2 (s : ByteArray) (A B : List Ed) (i : Nat) : Int := if kk s.size A i < 0 then kk s.size A i else kk (appR s.data.toList A).size B (kk s.size A i).toNat
theorem cov_both {s : ByteArray} {A B : List Ed} (h1 : appE s.data.toList A = 0) (h2 : appE (appR s.data.toList A).data.toList B = 0) (hA : Short A) (hB : Short B) : Cov (kk2 s A B) s.size (appR (appR s.data.toList A).data.toList B).size (bth s A B) :=
  Cov.both (cov_app h1 hA).1 (cov_app (s := appR s.data.toList A) h2 hB).1 (Nat.le_refl _) (fun _ _ => rfl)
theorem Cov.sm {κ : Nat → Int} {n D : Nat} {R : List Ru} (h : Cov κ n D R) (hn : n ≤ 1000000000) (hD : D ≤ 1000000000) : ∀ r ∈ R, SmR r := by
  intro r hr
  have := h.nn r hr
  unfold SmR
  omega
def CmpPost (s : ByteArray) (A B : List Ed) (w : World) (e : Ending) (w' : World) : Prop := ∃ v, e = .returned (.tuple #[v, .int .i64 (cmpE s A B)]) ∧ Below w.heap.size w w' ∧ Ow ec 3 50 w' w.heap.size v (cmpL s A B)
set_option maxRecDepth 100000 in
set_option maxHeartbeats 8000000 in
theorem compose_any (s : ByteArray) (u v : Value) (A B : List Ed) (w : World) (hu : Es w w.heap.size u A) (hv : Es w w.heap.size v B) (hA : ∀ d ∈ A, d.ok) (hB : ∀ d ∈ B, d.ok) (hs : s.size ≤ 100000) (hSA : Short A) (hSB : Short B) (hm : appE s.data.toList A = 0 → (appR s.data.toList A).size ≤ 100000) : Calls Try.prog 23 #[.string s, u, v] w (CmpPost s A B w) := by
  have HA := Lib.hid (apply_any s u A w hu hA hs hSA)
  by_cases hE : appE s.data.toList A = 0
  · have HB := Lib.hid (fun (w' : World) (h : Below w.heap.size w w') => apply_any (appR s.data.toList A) v B w' (Rd.next hv h) hB (hm hE) hSB)
    obtain ⟨T, hT⟩ : ∃ T, appR s.data.toList A = T := ⟨_, rfl⟩
    by_cases hF : appE T.data.toList B = 0
    · have hF' : appE (appR s.data.toList A).data.toList B = 0 := by rw [hT]; exact hF
      have hce : cmpE s A B = 0 := by unfold cmpE; rw [if_pos hE, hT, hF]
      have hcl : cmpL s A B = nm (appR T.data.toList B) s.size 0 0 (bth s A B) := by unfold cmpL; rw [if_pos hce, hT]
      obtain ⟨cA, _, gA, zA⟩ := cov_app hE hSA
      obtain ⟨cB, _, gB, zB⟩ := cov_app (s := T) hF hSB
      have cC := cov_both hE hF' hSA hSB
      rw [hT] at cA cC zA
      have hm' := hm hE
      rw [hT] at hm'
      have HRA := Lib.hid (fun (w' : World) (h : Below w.heap.size w w') => runs_any u A s.size w' (Rd.next hu h) hA gA hs hSA)
      have HRB := Lib.hid (fun (w' : World) (h : Below w.heap.size w w') => runs_any v B T.size w' (Rd.next hv h) hB gB hm' hSB)
      obtain ⟨D, hD⟩ : ∃ D, appR T.data.toList B = D := ⟨_, rfl⟩
      rw [hD] at hcl cB zB cC
      have nA := rg_count s.size A true 0 0
      have nB := rg_count T.size B true 0 0
      obtain ⟨RA, hRA⟩ : ∃ RA, rg s.size true 0 0 A = RA := ⟨_, rfl⟩
      obtain ⟨RB, hRB⟩ : ∃ RB, rg T.size true 0 0 B = RB := ⟨_, rfl⟩
      have hbt : bth s A B = bo (RA.length + RB.length) RA RB := by unfold bth; rw [hT, hRA, hRB]
      rw [hRA] at nA cA HRA
      rw [hRB] at nB cB HRB
      rw [hbt] at cC hcl
      have l1 := gA.1
      have l2 := gB.1
      have HBO := Lib.hid (fun (x y : Value) (w' : World) (h1 : Rd rc 3 w' w'.heap.size x RA) (h2 : Rd rc 3 w' w'.heap.size y RB) => both_any x y RA RB w' h1 h2 (cA.sm (by omega) (by omega)) (cB.sm (by omega) (by omega)) (by omega))
      have hbc := bo_count (RA.length + RB.length) RA RB
      obtain ⟨RC, hRC⟩ : ∃ RC, bo (RA.length + RB.length) RA RB = RC := ⟨_, rfl⟩
      rw [hRC] at hcl cC HBO hbc
      have HNO := Lib.hid (fun (x : Value) (w' : World) (h : Rd rc 3 w' w'.heap.size x RC) => normal_any s.size D x RC w' h (cC.wf rfl (by omega) (by omega)) ⟨by omega, by omega⟩ (by omega) (by omega))
      have HE := Lib.hid hE
      have HF := Lib.hid hF
      have HD := Lib.hid hD
      have HT := Lib.hid hT
      rw [HT.out] at HA HB
      rw [HD.out, HF.out] at HB
      rw [HE.out] at HA
      unfold CmpPost
      rw [hce, hcl]
      have HB0 : Hid (Below w.heap.size w w) := Lib.hid (Below.refl _ _)
      clear hE hF hF' hce hcl cA cB cC gA gB zA zB hm' nA nB hRA hRB hbt hRC hbc hu hv hA hB hSA hSB hm hT hD
      go_enter Try.func23, Try.ntmps23
      go_wp2_with (first | (go_at_call 18; (with_reducible refine HA.out.mono ?_); rintro e w1 ⟨rfl, hb1⟩; have HBx := Lib.hid (HB0.out.trans (hb1.mono HB0.out.size)); clear HB0; have HB0 := HBx; clear HBx; clear HA) | (go_at_call 18; (with_reducible refine (HB.out _ HB0.out).mono ?_); rintro e w2 ⟨rfl, hb2⟩; have HBx := Lib.hid (HB0.out.trans (hb2.mono HB0.out.size)); clear HB0; have HB0 := HBx; clear HBx; clear HB) | (go_at_call 32; (with_reducible refine (HRA.out _ HB0.out).mono ?_); rintro e w3 ⟨x3, rfl, hb3, hO3⟩; have HBx := Lib.hid (HB0.out.trans (hb3.mono HB0.out.size)); clear HB0; have HB0 := HBx; clear HBx; have HR1 := Lib.hid (Ow.rd rc_len hO3); clear HRA hO3) | (go_at_call 32; (with_reducible refine (HRB.out _ HB0.out).mono ?_); rintro e w4 ⟨x4, rfl, hb4, hO4⟩; have HBx := Lib.hid (HB0.out.trans (hb4.mono HB0.out.size)); clear HB0; have HB0 := HBx; clear HBx; have HR1x := Lib.hid (Rd.next HR1.out hb4); clear HR1; have HR1 := HR1x; clear HR1x; have HR2 := Lib.hid (Ow.rd rc_len hO4); clear HRB hO4) | (go_at_call 36; (with_reducible refine (HBO.out _ _ _ HR1.out HR2.out).mono ?_); rintro e w5 ⟨x5, rfl, hb5, hO5⟩; have HBx := Lib.hid (HB0.out.trans (hb5.mono HB0.out.size)); clear HB0; have HB0 := HBx; clear HBx; have HR3 := Lib.hid (Ow.rd rc_len hO5); clear hO5) | (go_at_call 33; (with_reducible refine (HNO.out _ _ HR3.out).mono ?_); rintro e w6 ⟨x6, rfl, hb6, hO6⟩; have HO6 := Lib.hid (ow_le hO6 (HB0.out.size)); have HBx := Lib.hid (HB0.out.trans (hb6.mono HB0.out.size)); clear HB0; have HB0 := HBx; clear HBx; clear hO6))
      go_ret2
      exact ⟨_, rfl, HB0.out, HO6.out⟩
    · obtain ⟨E, hE'⟩ : ∃ E, appE T.data.toList B = E := ⟨_, rfl⟩
      have hce : cmpE s A B = E := by unfold cmpE; rw [if_pos hE, hT, hE']
      rw [hE'] at hF
      have hcl : cmpL s A B = [] := by unfold cmpL; rw [if_neg (by rw [hce]; exact hF)]
      have HE := Lib.hid hE
      have HE' := Lib.hid hE'
      have HT := Lib.hid hT
      rw [HT.out] at HA HB
      rw [HE'.out] at HB
      rw [HE.out] at HA
      unfold CmpPost
      rw [hce, hcl]
      have hne : (E == 0) = false := by rw [beq_eq_false_iff_ne]; exact hF
      have HB0 : Hid (Below w.heap.size w w) := Lib.hid (Below.refl _ _)
      clear hE hF hE' hce hcl hu hv hA hB hSA hSB hm hT
      go_enter Try.func23, Try.ntmps23
      go_wp2_with (first | (go_at_call 18; (with_reducible refine HA.out.mono ?_); rintro e w1 ⟨rfl, hb1⟩; have HBx := Lib.hid (HB0.out.trans (hb1.mono HB0.out.size)); clear HB0; have HB0 := HBx; clear HBx; clear HA) | (go_at_call 18; (with_reducible refine (HB.out _ HB0.out).mono ?_); rintro e w2 ⟨rfl, hb2⟩; have HBx := Lib.hid (HB0.out.trans (hb2.mono HB0.out.size)); clear HB0; have HB0 := HBx; clear HBx; clear HB))
      go_ret2
      exact ⟨_, rfl, HB0.out, Ow.nil _ _⟩
  · obtain ⟨E, hE'⟩ : ∃ E, appE s.data.toList A = E := ⟨_, rfl⟩
    rw [hE'] at hE
    have hce : cmpE s A B = E := by unfold cmpE; rw [if_neg (by rw [hE']; exact hE), hE']
    have hcl : cmpL s A B = [] := by unfold cmpL; rw [if_neg (by rw [hce]; exact hE)]
    have HE' := Lib.hid hE'
    rw [HE'.out] at HA
    unfold CmpPost
    rw [hce, hcl]
    have hne : (E == 0) = false := by rw [beq_eq_false_iff_ne]; exact hE
    have HB0 : Hid (Below w.heap.size w w) := Lib.hid (Below.refl _ _)
    clear hE hE' hce hcl hu hv hA hB hSA hSB hm
    go_enter Try.func23, Try.ntmps23
    go_wp2_with (go_at_call 18; (with_reducible refine HA.out.mono ?_); rintro e w1 ⟨rfl, hb1⟩; have HBx := Lib.hid (HB0.out.trans (hb1.mono HB0.out.size)); clear HB0; have HB0 := HBx; clear HBx; clear HA)
    go_ret2
    exact ⟨_, rfl, HB0.out, Ow.nil _ _⟩
end Go.Proofs.Ytdgoblapmjpcaaa.Sp
