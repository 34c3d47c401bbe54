/-
  Package span: the reference's Compose, walked.
-/
import Derived.Test.YtdgoblapmjpcaaaSpAA
namespace Go.Proofs.Ytdgoblapmjpcaaa.Sp
open Go.RowKit
set_option linter.unusedVariables false
set_option linter.unusedSimpArgs false
open RO

def kl (κ : Nat → Int) (n : Nat) : List Int := (List.range n).map κ
theorem kl_len (κ : Nat → Int) (n : Nat) : (kl κ n).length = n := by unfold kl; simp
theorem kl_succ (κ : Nat → Int) (n : Nat) : kl κ (n + 1) = kl κ n ++ [κ n] := by unfold kl; rw [List.range_succ, List.map_append]; rfl
theorem kl_get {κ : Nat → Int} {n j : Nat} {x : Int} (h : (kl κ n)[j]? = some x) : κ j = x := by
  have hj := (List.getElem?_eq_some_iff.1 h).1
  rw [kl_len] at hj
  unfold kl at h
  rw [List.getElem?_map, List.getElem?_range hj] at h
  simpa using h
theorem Cov.top {κ : Nat → Int} {n D : Nat} {R : List Ru} (h : Cov κ n D R) : ∀ i, i < n → κ i < D := fun i hi => by
  by_cases h0 : 0 ≤ κ i
  · exact h.lt hi h0
  · omega
theorem kp_lo {S : Nat} : ∀ (L : List Ed) (a : Nat) (y : Int), 0 ≤ (a : Int) + y → Fit S a L → ∀ v ∈ kpL S y a L, -1 ≤ v := by
  intro L
  induction L with
  | nil =>
    intro a y h0 _ v hv
    have hv : v ∈ run y a (S - a) := hv
    unfold run at hv
    obtain ⟨j, _, rfl⟩ := List.mem_map.1 hv
    omega
  | cons d L ih =>
    intro a y h0 hF v hv
    obtain ⟨h1, h2, h3, _, h5⟩ := hF
    have hle := Fit.le h5
    have hx : (0 : Int) ≤ d.x.size := Int.natCast_nonneg _
    unfold kpL at hv
    rcases List.mem_append.1 hv with hv | hv
    · unfold run at hv
      obtain ⟨j, _, rfl⟩ := List.mem_map.1 hv
      omega
    · rcases List.mem_append.1 hv with hv | hv
      · rw [(List.mem_replicate.1 hv).2]; omega
      · exact ih d.t.toNat _ (by omega) (by rw [show ((d.t.toNat : Nat) : Int) = d.t by omega]; exact h5) v hv
theorem kk_lo {S : Nat} {L : List Ed} (hF : Fit S 0 L) (j : Nat) : -1 ≤ kk S L j := by
  by_cases h : j < S
  · exact kp_lo L 0 0 (by omega) hF _ (List.mem_of_getElem? (kk_some hF h))
  · have hl := kp_len L 0 0 hF
    unfold kk
    rw [List.getD_eq_getElem?_getD, List.getElem?_eq_none (by omega)]
    decide
set_option maxRecDepth 100000 in
set_option maxHeartbeats 8000000 in
theorem rcompose_any (s : ByteArray) (u v : Value) (A B : List Ed) (w : World) (hu : Es w w.heap.size u A) (hv : Es w w.heap.size v B) (hA : ∀ d ∈ A, d.ok) (hB : ∀ d ∈ B, d.ok) (hs : s.size ≤ 300) (lA : A.length ≤ 60) (lB : B.length ≤ 60) (xA : ∀ d ∈ A, d.x.size ≤ 300) (xB : ∀ d ∈ B, d.x.size ≤ 300) (hm : appE s.data.toList A = 0 → (appR s.data.toList A).size ≤ 20000) : Calls Try.prog 24 #[.string s, u, v] w (CmpPost s A B w) := by
  have hSA : Short A := fun d hd => by have := xA d hd; omega
  have hSB : Short B := fun d hd => by have := xB d hd; omega
  have HA := Lib.hid (rapply_any s u A w hu hA (by omega) hSA)
  by_cases hE : appE s.data.toList A = 0
  · have HB := Lib.hid (fun (w' : World) (h : Below w.heap.size w w') => rapply_any (appR s.data.toList A) v B w' (Rd.next hv h) hB (by have := hm hE; omega) hSB)
    obtain ⟨T, hT⟩ : ∃ T, appR s.data.toList A = T := ⟨_, rfl⟩
    by_cases hF : appE T.data.toList B = 0
    · have hF' : appE (appR s.data.toList A).data.toList B = 0 := by rw [hT]; exact hF
      have hce : cmpE s A B = 0 := by unfold cmpE; rw [if_pos hE, hT, hF]
      obtain ⟨cA, _, gA, zA⟩ := cov_app hE hSA
      obtain ⟨cB, _, gB, zB⟩ := cov_app (s := T) hF hSB
      have cC := cov_both hE hF' hSA hSB
      obtain ⟨D, hD⟩ : ∃ D, appR T.data.toList B = D := ⟨_, rfl⟩
      have hcl : cmpL s A B = nm D s.size 0 0 (bth s A B) := by unfold cmpL; rw [if_pos hce, hT, hD]
      rw [hT] at cA cC zA
      rw [hD] at cB cC zB
      have hm' := hm hE
      rw [hT] at hm'
      have fA := fit_of gA hSA
      have fB := fit_of gB hSB
      have HKA := Lib.hid (fun (w' : World) (h : Below w.heap.size w w') => rkept_any u A s.size w' (Rd.next hu h) gA (sml2_of lA xA gA (by omega)) (by omega))
      have HKB := Lib.hid (fun (w' : World) (h : Below w.heap.size w w') => rkept_any v B T.size w' (Rd.next hv h) gB (sml2_of lB xB gB hm') hm')
      have lKA := kp_len A 0 0 fA
      have lKB := kp_len B 0 0 fB
      have gKA : ∀ j, j < s.size → (kpL s.size 0 0 A)[j]? = some (kk s.size A j) := fun j hj => kk_some fA hj
      have gKB : ∀ j, j < T.size → (kpL T.size 0 0 B)[j]? = some (kk T.size B j) := fun j hj => kk_some fB hj
      have tA := cA.top
      have tB := cB.top
      have oA := kk_lo fA
      have oB := kk_lo fB
      have hk2 : ∀ j, kk2 s A B j = if kk s.size A j < 0 then kk s.size A j else kk T.size B (kk s.size A j).toNat := fun j => by unfold kk2; rw [hT]
      have HBT := Lib.hid (fun (x : Value) (w' : World) (h : Rd ic 1 w' w'.heap.size x (kl (kk2 s A B) s.size)) => rbetween_any s D x _ w' h (kl_len _ _) (by omega) zB (kk2 s A B) (fun j x hx => kl_get hx) cC.top (fun j _ => by rw [hk2]; split; exact oA j; exact oB _) (fun i j hij hj h1 h2 => cC.rise hij hj h1 h2))
      have hbt := bt_nm (tx := D) _ 0 0 0 cC.kr
      rw [Nat.sub_zero] at hbt
      rw [hbt, ← hcl] at HBT
      obtain ⟨KA, hKA⟩ : ∃ K, kpL s.size 0 0 A = K := ⟨_, rfl⟩
      obtain ⟨KB, hKB⟩ : ∃ K, kpL T.size 0 0 B = K := ⟨_, rfl⟩
      rw [hKA] at HKA lKA gKA
      rw [hKB] at HKB lKB gKB
      obtain ⟨κ₁, hκ1⟩ : ∃ κ, kk s.size A = κ := ⟨_, rfl⟩
      obtain ⟨κ₂, hκ2⟩ : ∃ κ, kk T.size B = κ := ⟨_, rfl⟩
      obtain ⟨κ, hκ⟩ : ∃ κ, kk2 s A B = κ := ⟨_, rfl⟩
      rw [hκ1] at gKA tA oA hk2
      rw [hκ2] at gKB tB oB hk2
      rw [hκ] at HBT hk2
      obtain ⟨n, hn⟩ : ∃ n, s.size = n := ⟨_, rfl⟩
      obtain ⟨m, hmm⟩ : ∃ m, T.size = m := ⟨_, rfl⟩
      rw [hn] at hs HKA HBT gKA tA lKA
      rw [hmm] at zA HKB gKB tA tB lKB hm'
      have HTA := Lib.hid tA
      have HGA := Lib.hid gKA
      have HGB := Lib.hid gKB
      have HLA := Lib.hid (show KA.length = n by omega)
      have HLB := Lib.hid (show KB.length = m by omega)
      have HK2 := Lib.hid hk2
      have HE := Lib.hid hE
      have HF := Lib.hid hF
      have HD := Lib.hid hD
      have HT := Lib.hid hT
      rw [HT.out] at HA HB
      rw [HD.out, HF.out] at HB
      rw [HE.out] at HA
      have hO1 := Lib.hid oA
      have hO2 := Lib.hid oB
      obtain ⟨tb, htb⟩ : ∃ tb, D.size = tb := ⟨_, rfl⟩
      rw [htb] at tB
      have HTB := Lib.hid tB
      unfold CmpPost
      rw [hce]
      obtain ⟨CL, hCL⟩ : ∃ L, cmpL s A B = L := ⟨_, rfl⟩
      rw [hCL] at HBT ⊢
      have HB0 : Hid (Below w.heap.size w w) := Lib.hid (Below.refl _ _)
      clear hE hF hF' hce hcl cA cB cC gA gB hKA hKB hu hv hA hB hSA hSB hm hT hD fA fB lKA lKB gKA gKB tA tB oA oB hk2 hbt hκ1 hκ2 hκ hCL xA xB
      go_enter Try.func24, Try.ntmps24
      go_wp2_with (first | (go_at_call 19; (with_reducible refine HA.out.mono ?_); rintro e w1 ⟨rfl, hb1⟩; have HBx := Lib.hid (HB0.out.trans (hb1.mono HB0.out.size)); clear HB0 hb1; have HB0 := HBx; clear HBx; clear HA) | (go_at_call 19; (with_reducible refine (HB.out _ HB0.out).mono ?_); rintro e w2 ⟨rfl, hb2⟩; have HBx := Lib.hid (HB0.out.trans (hb2.mono HB0.out.size)); clear HB0 hb2; have HB0 := HBx; clear HBx; clear HB) | (go_at_call 34; (with_reducible refine (HKA.out _ HB0.out).mono ?_); rintro e w3 ⟨x3, rfl, hb3, hO3⟩; have HBx := Lib.hid (HB0.out.trans (hb3.mono HB0.out.size)); clear HB0 hb3; have HB0 := HBx; clear HBx; have HR1 := Lib.hid (Ow.rd ic_len hO3); clear HKA hO3) | (go_at_call 34; (with_reducible refine (HKB.out _ HB0.out).mono ?_); rintro e w4 ⟨x4, rfl, hb4, hO4⟩; have HBx := Lib.hid (HB0.out.trans (hb4.mono HB0.out.size)); clear HB0; have HB0 := HBx; clear HBx; have HR1x := Lib.hid (Rd.next HR1.out hb4); clear HR1 hb4; have HR1 := HR1x; clear HR1x; have HR2 := Lib.hid (Ow.rd ic_len hO4); clear HKB hO4))
      have mk : ∀ (x : Value) (K : List Int) (q : Nat) (k : Nat → Int), K.length = q → (∀ j, j < q → K[j]? = some (k j)) → Rd ic 1 w4 w4.heap.size x K → ∀ wq, Below w4.heap.size w4 wq → ∀ j, j < q → ∃ (g o cap : Nat), x = .slice (some ⟨g, o, none⟩) q cap ∧ q ≤ cap ∧ g < w4.heap.size ∧ wq.cell? ⟨g, o + j, none⟩ = some (.int .i64 (k j)) := by
        intro x K q k hK hk hR wq hb j hj
        obtain ⟨g, o, cap, hvv, hg, hc, _, hcell⟩ := Rd.at_ hR (by omega)
        rw [hK] at hvv hc
        have hcc := hcell j _ 0 _ (hk j hj) rfl
        rw [Nat.mul_one, Nat.add_zero] at hcc
        exact ⟨g, o, cap, hvv, hc, hg, (hb.cell (p := ⟨g, o + j, none⟩) hg).trans hcc⟩
      have HC1 := Lib.hid (mk x3 KA n κ₁ HLA.out HGA.out HR1.out)
      have HC2 := Lib.hid (mk x4 KB m κ₂ HLB.out HGB.out HR2.out)
      clear mk HLA HGA HLB HGB HR1 HR2
      go_loopw [14, 15] (fun kv iv wr => ∃ i : Nat, i ≤ n ∧ iv = .int .i64 i ∧ Hid (Ow ic 1 3 wr w4.heap.size kv (kl κ i)) ∧ Hid (Below w4.heap.size w4 wr) ∧ w4.heap.size ≤ wr.heap.size) (fun _ iv _ => n - (intOf iv).toNat)
      case atStart => exact ⟨0, by omega, rfl, Lib.hid (Ow.nil _ _), Lib.hid (Below.refl _ _), Nat.le_refl _⟩
      case round =>
        obtain ⟨i, hi, rfl, HO, HBr, hbs⟩ := hrel
        have HAL : Hid ((kl κ i).length + 1 ≤ 100000000) := Lib.hid (by rw [kl_len]; omega)
        by_cases hlt : i < n
        · obtain ⟨g, o, cap, rfl, hcap, hg, c0⟩ := HC1.out _ HBr.out i hlt
          have hO1i := hO1.out i
          by_cases hneg : κ₁ i < 0
          · have HKI : Hid (kl κ (i + 1) = kl κ i ++ [κ₁ i]) := Lib.hid (by rw [kl_succ, HK2.out, if_pos hneg])
            go_wp2_with (at_builtin; go_loud (refine sp_api (by rfl) (.tmp 59) (.tmp 61) (by rfl) (by rfl) HO.out HBr.out hbs (κ₁ i) (by rfl) (by rfl) HAL.out ?_); intro v2 w5 hO3 hb3 hbs3; have HO3 := Lib.hid hO3; have HB3 := Lib.hid hb3; clear hO3 hb3)
            exact ⟨⟨i + 1, by omega, by go_num, Lib.hid (by rw [HKI.out]; exact HO3.out), HB3, hbs3⟩, by simp [intOf] <;> omega⟩
          · obtain ⟨z, hz⟩ : ∃ z : Nat, κ₁ i = z := ⟨(κ₁ i).toNat, by omega⟩
            have hzm := HTA.out i hlt
            have HKI : Hid (kl κ (i + 1) = kl κ i ++ [κ₂ z]) := Lib.hid (by rw [kl_succ, HK2.out, if_neg hneg, hz]; rfl)
            rw [hz] at c0 hzm
            obtain ⟨g2, o2, cap2, rfl, hcap2, hg2, d0⟩ := HC2.out _ HBr.out z (by omega)
            clear hz hneg hO1i
            go_wp2_with (at_builtin; go_loud (refine sp_api (by rfl) (.tmp 59) (.tmp 61) (by rfl) (by rfl) HO.out HBr.out hbs (κ₂ z) (by rfl) (by rfl) HAL.out ?_); intro v2 w5 hO3 hb3 hbs3; have HO3 := Lib.hid hO3; have HB3 := Lib.hid hb3; clear hO3 hb3)
            exact ⟨⟨i + 1, by omega, by go_num, Lib.hid (by rw [HKI.out]; exact HO3.out), HB3, hbs3⟩, by simp [intOf] <;> omega⟩
        · obtain rfl : i = n := by omega
          have HRD := Lib.hid (Ow.rd ic_len HO.out)
          go_wp2_with (go_at_call 35; (with_reducible refine (HBT.out _ _ HRD.out).mono ?_); rintro e w6 ⟨v6, rfl, hb6, hO6⟩; have HO6 := Lib.hid hO6; clear hO6)
          go_ret2
          exact ⟨_, rfl, HB0.out.trans ((HBr.out.mono HB0.out.size).trans (hb6.mono (Nat.le_trans HB0.out.size hbs))), ow_le HO6.out (Nat.le_trans HB0.out.size hbs)⟩
    · obtain ⟨E, hE'⟩ : ∃ E, appE T.data.toList B = E := ⟨_, rfl⟩
      have hce : cmpE s A B = E := by unfold cmpE; rw [if_pos hE, hT, hE']
      rw [hE'] at hF
      have hcl : cmpL s A B = [] := by unfold cmpL; rw [if_neg (by rw [hce]; exact hF)]
      have HE := Lib.hid hE
      have HE' := Lib.hid hE'
      have HT := Lib.hid hT
      rw [HT.out] at HA HB
      rw [HE'.out] at HB
      rw [HE.out] at HA
      unfold CmpPost
      rw [hce, hcl]
      have hne : (E == 0) = false := by rw [beq_eq_false_iff_ne]; exact hF
      have HB0 : Hid (Below w.heap.size w w) := Lib.hid (Below.refl _ _)
      clear hE hF hE' hce hcl hu hv hA hB hSA hSB hm hT
      go_enter Try.func24, Try.ntmps24
      go_wp2_with (first | (go_at_call 19; (with_reducible refine HA.out.mono ?_); rintro e w1 ⟨rfl, hb1⟩; have HBx := Lib.hid (HB0.out.trans (hb1.mono HB0.out.size)); clear HB0; have HB0 := HBx; clear HBx; clear HA) | (go_at_call 19; (with_reducible refine (HB.out _ HB0.out).mono ?_); rintro e w2 ⟨rfl, hb2⟩; have HBx := Lib.hid (HB0.out.trans (hb2.mono HB0.out.size)); clear HB0; have HB0 := HBx; clear HBx; clear HB))
      go_ret2
      exact ⟨_, rfl, HB0.out, Ow.nil _ _⟩
  · obtain ⟨E, hE'⟩ : ∃ E, appE s.data.toList A = E := ⟨_, rfl⟩
    rw [hE'] at hE
    have hce : cmpE s A B = E := by unfold cmpE; rw [if_neg (by rw [hE']; exact hE), hE']
    have hcl : cmpL s A B = [] := by unfold cmpL; rw [if_neg (by rw [hce]; exact hE)]
    have HE' := Lib.hid hE'
    rw [HE'.out] at HA
    unfold CmpPost
    rw [hce, hcl]
    have hne : (E == 0) = false := by rw [beq_eq_false_iff_ne]; exact hE
    have HB0 : Hid (Below w.heap.size w w) := Lib.hid (Below.refl _ _)
    clear hE hE' hce hcl hu hv hA hB hSA hSB hm
    go_enter Try.func24, Try.ntmps24
    go_wp2_with (go_at_call 19; (with_reducible refine HA.out.mono ?_); rintro e w1 ⟨rfl, hb1⟩; have HBx := Lib.hid (HB0.out.trans (hb1.mono HB0.out.size)); clear HB0; have HB0 := HBx; clear HBx; clear HA)
    go_ret2
    exact ⟨_, rfl, HB0.out, Ow.nil _ _⟩
end Go.Proofs.Ytdgoblapmjpcaaa.Sp
