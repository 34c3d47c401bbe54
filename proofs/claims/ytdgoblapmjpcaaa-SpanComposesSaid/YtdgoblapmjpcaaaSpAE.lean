/-
  Package span: the statements' walks, SpanComposes, SpanCompose.
-/
import Derived.Test.YtdgoblapmjpcaaaSpAD
namespace Go.Proofs.Ytdgoblapmjpcaaa.Sp
open Go.RowKit
set_option linter.unusedVariables false
set_option linter.unusedSimpArgs false
open RO

set_option maxRecDepth 100000 in
set_option maxHeartbeats 8000000 in
theorem composes_walk (s : ByteArray) {u v : Value} {A B : List Ed} {n m : Nat} (w : World) (hs : s.size ≤ 9223372036854775807) (hr : A.length = n ∧ Es w w.heap.size u A ∧ ∀ d ∈ A, d.ok) (hq : B.length = m ∧ Es w w.heap.size v B ∧ ∀ d ∈ B, d.ok) : Calls Try.prog 6 #[.string s, u, v] w fun e w' => e = .returned (.bool true) ∧ Below w.heap.size w w' := by
  obtain ⟨_, hu, hA⟩ := hr
  obtain ⟨_, hv, hB⟩ := hq
  have HFA := Lib.hid (few_any s u A w hu hA hs)
  have HFB := Lib.hid (few_any s v B w hv hB hs)
  have HC := Lib.hid (fun (f : s.size ≤ 300 ∧ A.length ≤ 60 ∧ ∀ d ∈ A, d.x.size ≤ 300) (g : s.size ≤ 300 ∧ B.length ≤ 60 ∧ ∀ d ∈ B, d.x.size ≤ 300) => compose_any s u v A B w hu hv hA hB (by omega) (fun d hd => by have := f.2.2 d hd; omega) (fun d hd => by have := g.2.2 d hd; omega) (fun hE => by have := app_small hE f.2.1 f.2.2; omega))
  have HR := Lib.hid (fun (f : s.size ≤ 300 ∧ A.length ≤ 60 ∧ ∀ d ∈ A, d.x.size ≤ 300) (g : s.size ≤ 300 ∧ B.length ≤ 60 ∧ ∀ d ∈ B, d.x.size ≤ 300) (w' : World) (hb : Below w.heap.size w w') => rcompose_any s u v A B w' (Rd.next hu hb) (Rd.next hv hb) hA hB f.1 f.2.1 g.2.1 f.2.2 g.2.2 (fun hE => by have := app_small hE f.2.1 f.2.2; omega))
  have HB0 : Hid (Below w.heap.size w w) := Lib.hid (Below.refl _ _)
  unfold CmpPost at HC HR
  obtain ⟨CL, hCL⟩ : ∃ L, cmpL s A B = L := ⟨_, rfl⟩
  obtain ⟨E, hE⟩ : ∃ E, cmpE s A B = E := ⟨_, rfl⟩
  rw [hCL, hE] at HC HR
  have HSM := Lib.hid (fun (x y : Value) (w' : World) (h1 : Es w' w'.heap.size x CL) (h2 : Es w' w'.heap.size y CL) => rsame_any x y CL w' h1 h2)
  clear hu hv hA hB hCL hE
  go_enter Try.func6, Try.ntmps6
  go_wp2_with (first | (go_at_call 17; (with_reducible refine HFA.out.mono ?_); rintro e w1 ⟨b, rfl, rfl, hfw⟩; have HFU := Lib.hid hfw; clear hfw; cases b) | (go_at_call 17; (with_reducible refine HFB.out.mono ?_); rintro e w1 ⟨b, rfl, rfl, hfw⟩; have HFV := Lib.hid hfw; clear hfw; cases b) | (go_at_call 23; (with_reducible refine (HC.out (HFU.out trivial) (HFV.out trivial)).mono ?_); rintro e w2 ⟨x, rfl, hb2, hO2⟩; have HBx := Lib.hid (HB0.out.trans (hb2.mono HB0.out.size)); clear HB0; have HB0 := HBx; clear HBx; have HX := Lib.hid (es_of hO2); clear hO2 hb2) | (go_at_call 24; (with_reducible refine (HR.out (HFU.out trivial) (HFV.out trivial) _ HB0.out).mono ?_); rintro e w3 ⟨y, rfl, hb3, hO3⟩; have HBx := Lib.hid (HB0.out.trans (hb3.mono HB0.out.size)); clear HB0; have HB0 := HBx; clear HBx; have HXx := Lib.hid (es_next HX.out hb3); clear HX; have HX := HXx; clear HXx; have HY := Lib.hid (es_of hO3); clear hO3 hb3) | (go_at_call 22; (with_reducible refine (HSM.out _ _ _ HX.out HY.out).mono ?_); rintro e w4 ⟨rfl, hb4⟩; have HBx := Lib.hid (HB0.out.trans (hb4.mono HB0.out.size)); clear HB0; have HB0 := HBx; clear HBx; clear hb4) | (go_at_call 10; (with_reducible refine (lives_any _).mono ?_); rintro e w9 ⟨rfl, hb9⟩; have HBx := Lib.hid (HB0.out.trans (hb9.mono HB0.out.size)); clear HB0; have HB0 := HBx; clear HBx))
  all_goals (go_ret; exact ⟨rfl, HB0.out⟩)
theorem all_facts {s : ByteArray} {A : List Ed} (hE : appE s.data.toList A = 0) (f : s.size ≤ 300 ∧ A.length ≤ 60 ∧ ∀ d ∈ A, d.x.size ≤ 300) : (appR s.data.toList A).size ≤ 18300 ∧ ((∀ d ∈ invL s A, d.ok) ∧ Short (invL s A)) ∧ cmpE s A (invL s A) = 0 ∧ appE s.data.toList (cmpL s A (invL s A)) = 0 ∧ appR s.data.toList (cmpL s A (invL s A)) = s ∧ (∀ d ∈ cmpL s A (invL s A), d.ok) ∧ Short (cmpL s A (invL s A)) := by
  have hSA : Short A := fun d hd => by have := f.2.2 d hd; omega
  have hz := app_small hE f.2.1 f.2.2
  obtain ⟨g1, g2, g3, g4, g5⟩ := inv_makes hE hSA f.2.1 (by omega) (by omega)
  obtain ⟨k1, k2, k3, k4⟩ := cmp_makes hE g1 hSA g4 f.2.1 g5 (by omega) (by rw [g2]; omega)
  rw [g2] at k2
  exact ⟨by omega, ⟨g3, g4⟩, by unfold cmpE; rw [if_pos hE, g1], k1, k2, k3, k4⟩
theorem two_facts {s : ByteArray} {A B : List Ed} (hE : appE s.data.toList A = 0) (hF : appE (appR s.data.toList A).data.toList B = 0) (f : s.size ≤ 300 ∧ A.length ≤ 60 ∧ ∀ d ∈ A, d.x.size ≤ 300) (g : s.size ≤ 300 ∧ B.length ≤ 60 ∧ ∀ d ∈ B, d.x.size ≤ 300) : cmpE s A B = 0 ∧ appE s.data.toList (cmpL s A B) = 0 ∧ appR s.data.toList (cmpL s A B) = appR (appR s.data.toList A).data.toList B ∧ (∀ d ∈ cmpL s A B, d.ok) ∧ Short (cmpL s A B) := by
  have hSA : Short A := fun d hd => by have := f.2.2 d hd; omega
  have hSB : Short B := fun d hd => by have := g.2.2 d hd; omega
  have hz := app_small hE f.2.1 f.2.2
  have hy := app_small hF g.2.1 g.2.2
  exact ⟨by unfold cmpE; rw [if_pos hE, hF], cmp_makes hE hF hSA hSB f.2.1 (by omega) (by omega) (by omega)⟩
set_option maxRecDepth 100000 in
set_option maxHeartbeats 8000000 in
theorem compose_walk (s : ByteArray) {u v : Value} {A B : List Ed} {n m : Nat} (w : World) (hs : s.size ≤ 9223372036854775807) (hr : A.length = n ∧ Es w w.heap.size u A ∧ ∀ d ∈ A, d.ok) (hq : B.length = m ∧ Es w w.heap.size v B ∧ ∀ d ∈ B, d.ok) : Calls Try.prog 7 #[.string s, u, v] w fun e w' => e = .returned (.bool true) ∧ Below w.heap.size w w' := by
  obtain ⟨_, hu, hA⟩ := hr
  obtain ⟨_, hv, hB⟩ := hq
  have HFA := Lib.hid (few_any s u A w hu hA hs)
  have HFB := Lib.hid (few_any s v B w hv hB hs)
  have HA := Lib.hid (fun (f : s.size ≤ 300 ∧ A.length ≤ 60 ∧ ∀ d ∈ A, d.x.size ≤ 300) => apply_any s u A w hu hA (by omega) (fun d hd => by have := f.2.2 d hd; omega))
  have HB0 : Hid (Below w.heap.size w w) := Lib.hid (Below.refl _ _)
  obtain ⟨T, hT⟩ : ∃ T, appR s.data.toList A = T := ⟨_, rfl⟩
  by_cases hE : appE s.data.toList A = 0
  · have HI := Lib.hid (fun (f : s.size ≤ 300 ∧ A.length ≤ 60 ∧ ∀ d ∈ A, d.x.size ≤ 300) (w' : World) (hb : Below w.heap.size w w') => invert_any s u A w' (Rd.next hu hb) hA (by omega) (fun d hd => by have := f.2.2 d hd; omega))
    unfold InvPost at HI
    rw [hT, hE] at HA
    rw [hE] at HI
    have HC1 := Lib.hid (fun (f : s.size ≤ 300 ∧ A.length ≤ 60 ∧ ∀ d ∈ A, d.x.size ≤ 300) (x : Value) (w' : World) (hb : Below w.heap.size w w') (hx : Es w' w'.heap.size x (invL s A)) => by
      have a := all_facts hE f
      have b := compose_any s u x A (invL s A) w' (Rd.next hu hb) hx hA a.2.1.1 (by omega) (fun d hd => by have := f.2.2 d hd; omega) a.2.1.2 (fun _ => by omega)
      unfold CmpPost at b
      rw [a.2.2.1] at b
      exact b)
    have HP1 := Lib.hid (fun (f : s.size ≤ 300 ∧ A.length ≤ 60 ∧ ∀ d ∈ A, d.x.size ≤ 300) (y : Value) (w' : World) (hy : Es w' w'.heap.size y (cmpL s A (invL s A))) => by
      have a := all_facts hE f
      have b := apply_any s y _ w' hy a.2.2.2.2.2.1 (by omega) a.2.2.2.2.2.2
      rw [a.2.2.2.1, a.2.2.2.2.1] at b
      exact b)
    have HAB := Lib.hid (fun (f : s.size ≤ 300 ∧ A.length ≤ 60 ∧ ∀ d ∈ A, d.x.size ≤ 300) (g : s.size ≤ 300 ∧ B.length ≤ 60 ∧ ∀ d ∈ B, d.x.size ≤ 300) (w' : World) (hb : Below w.heap.size w w') => apply_any T v B w' (Rd.next hv hb) hB (by have a := (all_facts hE f).1; rw [hT] at a; omega) (fun d hd => by have := g.2.2 d hd; omega))
    obtain ⟨D, hD⟩ : ∃ D, appR T.data.toList B = D := ⟨_, rfl⟩
    rw [hD] at HAB
    by_cases hF : appE T.data.toList B = 0
    · have hF' : appE (appR s.data.toList A).data.toList B = 0 := by rw [hT]; exact hF
      have HC2 := Lib.hid (fun (f : s.size ≤ 300 ∧ A.length ≤ 60 ∧ ∀ d ∈ A, d.x.size ≤ 300) (g : s.size ≤ 300 ∧ B.length ≤ 60 ∧ ∀ d ∈ B, d.x.size ≤ 300) (w' : World) (hb : Below w.heap.size w w') => by
        have a := two_facts hE hF' f g
        have b := compose_any s u v A B w' (Rd.next hu hb) (Rd.next hv hb) hA hB (by omega) (fun d hd => by have := f.2.2 d hd; omega) (fun d hd => by have := g.2.2 d hd; omega) (fun _ => by have a := (all_facts hE f).1; omega)
        unfold CmpPost at b
        rw [a.1] at b
        exact b)
      have HP2 := Lib.hid (fun (f : s.size ≤ 300 ∧ A.length ≤ 60 ∧ ∀ d ∈ A, d.x.size ≤ 300) (g : s.size ≤ 300 ∧ B.length ≤ 60 ∧ ∀ d ∈ B, d.x.size ≤ 300) (y : Value) (w' : World) (hy : Es w' w'.heap.size y (cmpL s A B)) => by
        have a := two_facts hE hF' f g
        have b := apply_any s y _ w' hy a.2.2.2.1 (by omega) a.2.2.2.2
        rw [a.2.1, a.2.2.1, hT, hD] at b
        exact b)
      rw [hF] at HAB
      obtain ⟨IL, hIL⟩ : ∃ L, invL s A = L := ⟨_, rfl⟩
      rw [hIL] at HI HC1 HP1
      obtain ⟨C1, hC1⟩ : ∃ L, cmpL s A IL = L := ⟨_, rfl⟩
      obtain ⟨C2, hC2⟩ : ∃ L, cmpL s A B = L := ⟨_, rfl⟩
      rw [hC1] at HC1 HP1
      rw [hC2] at HC2 HP2
      clear hu hv hA hB hT hE hD hF hF' hIL hC1 hC2
      go_enter Try.func7, Try.ntmps7
      go_wp2_with (first | (go_at_call 17; (with_reducible refine HFA.out.mono ?_); rintro e w1 ⟨b, rfl, rfl, hfw⟩; have HFU := Lib.hid hfw; clear hfw; cases b) | (go_at_call 17; (with_reducible refine HFB.out.mono ?_); rintro e w1 ⟨b, rfl, rfl, hfw⟩; have HFV := Lib.hid hfw; clear hfw; cases b) | (go_at_call 18; (with_reducible refine (HA.out (HFU.out trivial)).mono ?_); rintro e w2 ⟨rfl, hb2⟩; have HBx := Lib.hid (HB0.out.trans (hb2.mono HB0.out.size)); clear HB0; have HB0 := HBx; clear HBx; clear hb2 HA) | (go_at_call 20; (with_reducible refine (HI.out (HFU.out trivial) _ HB0.out).mono ?_); rintro e w3 ⟨x, rfl, hb3, hO3⟩; have HBx := Lib.hid (HB0.out.trans (hb3.mono HB0.out.size)); clear HB0; have HB0 := HBx; clear HBx; have HX := Lib.hid (es_of hO3); clear hO3 hb3) | (go_at_call 23; (with_reducible refine (HC1.out (HFU.out trivial) _ _ HB0.out HX.out).mono ?_); rintro e w4 ⟨y, rfl, hb4, hO4⟩; have HBx := Lib.hid (HB0.out.trans (hb4.mono HB0.out.size)); clear HB0; have HB0 := HBx; clear HBx; have HY := Lib.hid (es_of hO4); clear hO4 hb4 HX) | (go_at_call 18; (with_reducible refine (HP1.out (HFU.out trivial) _ _ HY.out).mono ?_); rintro e w5 ⟨rfl, hb5⟩; have HBx := Lib.hid (HB0.out.trans (hb5.mono HB0.out.size)); clear HB0; have HB0 := HBx; clear HBx; clear hb5 HY) | (go_at_call 18; (with_reducible refine (HAB.out (HFU.out trivial) (HFV.out trivial) _ HB0.out).mono ?_); rintro e w6 ⟨rfl, hb6⟩; have HBx := Lib.hid (HB0.out.trans (hb6.mono HB0.out.size)); clear HB0; have HB0 := HBx; clear HBx; clear hb6 HAB) | (go_at_call 23; (with_reducible refine (HC2.out (HFU.out trivial) (HFV.out trivial) _ HB0.out).mono ?_); rintro e w7 ⟨z, rfl, hb7, hO7⟩; have HBx := Lib.hid (HB0.out.trans (hb7.mono HB0.out.size)); clear HB0; have HB0 := HBx; clear HBx; have HZ := Lib.hid (es_of hO7); clear hO7 hb7) | (go_at_call 18; (with_reducible refine (HP2.out (HFU.out trivial) (HFV.out trivial) _ _ HZ.out).mono ?_); rintro e w8 ⟨rfl, hb8⟩; have HBx := Lib.hid (HB0.out.trans (hb8.mono HB0.out.size)); clear HB0; have HB0 := HBx; clear HBx; clear hb8 HZ) | (go_at_call 10; (with_reducible refine (lives_any _).mono ?_); rintro e w9 ⟨rfl, hb9⟩; have HBx := Lib.hid (HB0.out.trans (hb9.mono HB0.out.size)); clear HB0; have HB0 := HBx; clear HBx))
      all_goals (go_ret; exact ⟨rfl, HB0.out⟩)
    · obtain ⟨E, hE'⟩ : ∃ E, appE T.data.toList B = E := ⟨_, rfl⟩
      rw [hE'] at HAB hF
      have hne : (E == 0) = false := by rw [beq_eq_false_iff_ne]; exact hF
      obtain ⟨IL, hIL⟩ : ∃ L, invL s A = L := ⟨_, rfl⟩
      rw [hIL] at HI HC1 HP1
      obtain ⟨C1, hC1⟩ : ∃ L, cmpL s A IL = L := ⟨_, rfl⟩
      rw [hC1] at HC1 HP1
      clear hu hv hA hB hT hE hD hF hE' hIL hC1
      go_enter Try.func7, Try.ntmps7
      go_wp2_with (first | (go_at_call 17; (with_reducible refine HFA.out.mono ?_); rintro e w1 ⟨b, rfl, rfl, hfw⟩; have HFU := Lib.hid hfw; clear hfw; cases b) | (go_at_call 17; (with_reducible refine HFB.out.mono ?_); rintro e w1 ⟨b, rfl, rfl, hfw⟩; have HFV := Lib.hid hfw; clear hfw; cases b) | (go_at_call 18; (with_reducible refine (HA.out (HFU.out trivial)).mono ?_); rintro e w2 ⟨rfl, hb2⟩; have HBx := Lib.hid (HB0.out.trans (hb2.mono HB0.out.size)); clear HB0; have HB0 := HBx; clear HBx; clear hb2 HA) | (go_at_call 20; (with_reducible refine (HI.out (HFU.out trivial) _ HB0.out).mono ?_); rintro e w3 ⟨x, rfl, hb3, hO3⟩; have HBx := Lib.hid (HB0.out.trans (hb3.mono HB0.out.size)); clear HB0; have HB0 := HBx; clear HBx; have HX := Lib.hid (es_of hO3); clear hO3 hb3) | (go_at_call 23; (with_reducible refine (HC1.out (HFU.out trivial) _ _ HB0.out HX.out).mono ?_); rintro e w4 ⟨y, rfl, hb4, hO4⟩; have HBx := Lib.hid (HB0.out.trans (hb4.mono HB0.out.size)); clear HB0; have HB0 := HBx; clear HBx; have HY := Lib.hid (es_of hO4); clear hO4 hb4 HX) | (go_at_call 18; (with_reducible refine (HP1.out (HFU.out trivial) _ _ HY.out).mono ?_); rintro e w5 ⟨rfl, hb5⟩; have HBx := Lib.hid (HB0.out.trans (hb5.mono HB0.out.size)); clear HB0; have HB0 := HBx; clear HBx; clear hb5 HY) | (go_at_call 18; (with_reducible refine (HAB.out (HFU.out trivial) (HFV.out trivial) _ HB0.out).mono ?_); rintro e w6 ⟨rfl, hb6⟩; have HBx := Lib.hid (HB0.out.trans (hb6.mono HB0.out.size)); clear HB0; have HB0 := HBx; clear HBx; clear hb6 HAB) | (go_at_call 10; (with_reducible refine (lives_any _).mono ?_); rintro e w9 ⟨rfl, hb9⟩; have HBx := Lib.hid (HB0.out.trans (hb9.mono HB0.out.size)); clear HB0; have HB0 := HBx; clear HBx))
      all_goals (go_ret; exact ⟨rfl, HB0.out⟩)
  · obtain ⟨E, hE'⟩ : ∃ E, appE s.data.toList A = E := ⟨_, rfl⟩
    rw [hT, hE'] at HA
    rw [hE'] at hE
    have hne : (E == 0) = false := by rw [beq_eq_false_iff_ne]; exact hE
    clear hu hv hA hB hT hE hE'
    go_enter Try.func7, Try.ntmps7
    go_wp2_with (first | (go_at_call 17; (with_reducible refine HFA.out.mono ?_); rintro e w1 ⟨b, rfl, rfl, hfw⟩; have HFU := Lib.hid hfw; clear hfw; cases b) | (go_at_call 17; (with_reducible refine HFB.out.mono ?_); rintro e w1 ⟨b, rfl, rfl, hfw⟩; have HFV := Lib.hid hfw; clear hfw; cases b) | (go_at_call 18; (with_reducible refine (HA.out (HFU.out trivial)).mono ?_); rintro e w2 ⟨rfl, hb2⟩; have HBx := Lib.hid (HB0.out.trans (hb2.mono HB0.out.size)); clear HB0; have HB0 := HBx; clear HBx; clear hb2 HA) | (go_at_call 10; (with_reducible refine (lives_any _).mono ?_); rintro e w9 ⟨rfl, hb9⟩; have HBx := Lib.hid (HB0.out.trans (hb9.mono HB0.out.size)); clear HB0; have HB0 := HBx; clear HBx))
    all_goals (go_ret; exact ⟨rfl, HB0.out⟩)
end Go.Proofs.Ytdgoblapmjpcaaa.Sp
