/-
  Contracts of package span's reference: texts edited; few.
-/
import Derived.Test.YtdgoblapmjpcaaaSpD
namespace Go.Proofs.Ytdgoblapmjpcaaa.Sp
open Go.RowKit
set_option linter.unusedVariables false
set_option linter.unusedSimpArgs false
open RO

theorem below_N {B : Nat} {a w : World} (h : Below B a w) (n : Nat) : Below B a (w.drewN n) := h.trans ⟨rfl, rfl, rfl, Nat.le_refl _, fun _ _ => rfl⟩
set_option maxRecDepth 100000 in
set_option maxHeartbeats 4000000 in
theorem rapply_any (src : ByteArray) (v : Value) (L : List Ed) (w : World) (hv : Es w w.heap.size v L) (hL : ∀ d ∈ L, d.ok) (hs : src.size ≤ 100000) (hS : Short L) : Calls Try.prog 19 #[.string src, v] w fun e w' => e = .returned (.tuple #[.string (appR src.data.toList L), .int .i64 (appE src.data.toList L)]) ∧ Below w.heap.size w w' := by
  have CC := Lib.hid (fun w (h : Es w w.heap.size v L) => rcheck_any v L src.size w h hL ⟨by omega, by omega⟩)
  obtain ⟨C, hC⟩ : ∃ C, chk L src.size = C := ⟨_, rfl⟩
  have hCi := chk_is L src.size
  rw [hC] at CC hCi
  by_cases h0 : C = 0
  case neg =>
    obtain ⟨E1, E2⟩ := appE_bad (s := src.data.toList) (L := L) (by rw [size_list, hC]; exact h0)
    rw [size_list, hC] at E1
    have HE1 := Lib.hid E1
    have HE2 := Lib.hid E2
    have hne : (C != 0) = true := by rw [bne_iff_ne]; exact h0
    have HV := Lib.hid hv
    clear hv E1 E2 hC hL hCi
    go_enter Try.func19, Try.ntmps19
    go_wp2_with (go_at_call 16; (with_reducible refine (CC.out _ HV.out).mono ?_); rintro e w1 ⟨rfl, hb1⟩)
    go_ret2
    exact ⟨by rw [HE1.out, HE2.out]; rfl, hb1⟩
  subst h0
  have hG : Good L src.data.toList.length := good_of (by rw [size_list]; exact hC)
  obtain ⟨n, hn⟩ : ∃ n, L.length = n := ⟨_, rfl⟩
  have hn4 : n ≤ 4096 := by have := hG.1; omega
  obtain ⟨a, cap, rfl, hn9⟩ := Rd.slice hv hn
  have hAP : (app src.data.toList L).length = (pre src.data.toList L n).length + (src.size - atk L n) := by
    unfold app
    rw [List.length_append, List.length_drop, size_list, hn]
  have hAP2 : app src.data.toList L = pre src.data.toList L n ++ src.data.toList.drop (atk L n) := by unfold app; rw [hn]
  have hAN := atk_le hG (k := n) (by omega)
  rw [size_list] at hAN
  have HAP := Lib.hid hAP
  have HAP2 := Lib.hid hAP2
  have HBIG := Lib.hid (fun h => appE_big (s := src.data.toList) (L := L) (by rw [size_list]; exact hC) h)
  have HOKE := Lib.hid (fun h => appE_ok (s := src.data.toList) (L := L) (by rw [size_list]; exact hC) h)
  have HV := Lib.hid hv
  have HN := Lib.hid hn
  have HG := Lib.hid hG
  have HSh := Lib.hid hS
  have HPLe := Lib.hid (fun k (h : k ≤ n) => pre_le hG hS (k := k) (by omega))
  have HCELL : Hid (∀ (w' : World), Below w.heap.size w w' → ∀ k, k < n → ∃ g o d, a = some ⟨g, o, none⟩ ∧ L[k]? = some d ∧ w'.cell? ⟨g, o + k * 3, none⟩ = some (.int .i64 d.f) ∧ w'.cell? ⟨g, o + k * 3 + 1, none⟩ = some (.int .i64 d.t) ∧ w'.cell? ⟨g, o + k * 3 + 2, none⟩ = some (.string d.x) ∧ g < w.heap.size) := Lib.hid fun w' hb k hk => by
    obtain ⟨g, o, cap', hvv, hg, _, _, hcell⟩ := Es.at_ hv hn (by omega)
    injection hvv with h1 h2 h3
    obtain ⟨d, hd⟩ := get_in hn hk
    obtain ⟨e0, e1, e2⟩ := hcell k d hd
    exact ⟨g, o, d, h1, hd, (hb.cell (p := ⟨g, o + k * 3, none⟩) hg).trans e0, (hb.cell (p := ⟨g, o + k * 3 + 1, none⟩) hg).trans e1, (hb.cell (p := ⟨g, o + k * 3 + 2, none⟩) hg).trans e2, hg⟩
  clear hv hn hG hL hS hC hCi hAP hAP2
  go_enter Try.func19, Try.ntmps19
  go_wp2_with (go_at_call 16; (with_reducible refine (CC.out _ HV.out).mono ?_); rintro e w1 ⟨rfl, hb1⟩)
  go_loopw [7, 8, 9] (fun x z i wr => ∃ k : Nat, k ≤ n ∧ i = .int .i64 k ∧ z = .int .i64 (atk L k : Nat) ∧ x = .string ⟨(pre src.data.toList L k).toArray⟩ ∧ Hid ((pre src.data.toList L k).length ≤ 1048576) ∧ Hid (Below w.heap.size w wr)) (fun _ _ i _ => n - (intOf i).toNat)
  case atStart => exact ⟨0, by omega, rfl, rfl, rfl, Lib.hid (by simp [pre]), Lib.hid hb1⟩
  case round =>
    obtain ⟨k, hk, rfl, rfl, rfl, HM, HB⟩ := hrel
    by_cases hlt : k < n
    · obtain ⟨g, o, d, rfl, hd, e0, e1, e2, hg⟩ := HCELL.out _ HB.out k hlt
      obtain ⟨hp1, hp2⟩ := pre_len HG.out HSh.out hd
      obtain ⟨F, T, hF, hT, q1, q2, q3⟩ := good_nat HG.out hd
      have hat := atk_succ hd
      have hps := pre_succ (s := src.data.toList) hd
      obtain ⟨df, dt, dx⟩ := d
      simp only at hF hT hp1 hp2 e0 e1 e2 hat hps
      subst hF hT
      rw [Int.toNat_natCast] at hat hps hp1
      rw [size_list] at q3
      obtain ⟨A, hA⟩ : ∃ A, Hid (atk L k = A) := ⟨_, Lib.hid rfl⟩
      rw [hA.out] at q1 hps hp1 ⊢
      obtain ⟨X, hX⟩ : ∃ X : ByteArray, X = ⟨(pre src.data.toList L k).toArray⟩ := ⟨_, rfl⟩
      obtain ⟨Y, hY⟩ : ∃ Y : ByteArray, Y = ⟨(pre src.data.toList L (k + 1)).toArray⟩ := ⟨_, rfl⟩
      have hXs : X.size = (pre src.data.toList L k).length := by rw [hX]; rfl
      have hYs : Y.size = (pre src.data.toList L (k + 1)).length := by rw [hY]; rfl
      have hXm : X.size ≤ 1048576 := by rw [hXs]; exact HM.out
      have hXY : X ++ src.extract A F ++ dx = Y := ba_ext (by
        rw [hY, hX, ByteArray.data_append, Array.toList_append, ByteArray.data_append, Array.toList_append, ext_list, hps, List.append_assoc])
      have z1 : (src.extract A F).size = F - A := by rw [ByteArray.size_extract]; omega
      rw [← hX]
      have HAT := Lib.hid hat
      have HY := Lib.hid hY
      have hYs2 : Y.size = X.size + (F - A) + dx.size := by rw [hYs, hXs, hp1]
      have HYS2 := Lib.hid hYs2
      have HYS := Lib.hid hYs
      have s1 : X.size + (src.extract A F).size ≤ 9223372036854775807 := by rw [z1]; omega
      have s2 : (X ++ src.extract A F).size + dx.size ≤ 9223372036854775807 := by rw [ByteArray.size_append, z1]; omega
      have s3 : (X.size : Int) + ((src.extract A F).size : Int) ≤ 9223372036854775807 := by omega
      have s4 : ((X ++ src.extract A F).size : Int) + (dx.size : Int) ≤ 9223372036854775807 := by omega
      have i1 : (0 : Int) ≤ (k : Int) := by omega
      have i2 : (k : Int) < (n : Int) := by omega
      have i3 : (0 : Int) ≤ (A : Int) := by omega
      have i4 : (A : Int) ≤ (F : Int) := by omega
      have i5 : (F : Int) ≤ (src.size : Int) := by omega
      clear hp1 hat hps hd hX hY hXs hYs hYs2
      have HZ1 := Lib.hid z1
      clear z1
      by_cases hbig : 1048576 < Y.size
      · have hpm := pre_mono (s := src.data.toList) (L := L) (k := k + 1) (m := n) (by omega)
        obtain ⟨E1, E2⟩ := HBIG.out (by rw [HAP.out]; have := HYS.out; omega)
        have HE1 := Lib.hid E1
        have HE2 := Lib.hid E2
        clear hpm E1 E2
        go_wp2
        go_quiet (fail)
        go_wp2
        go_ret2
        exact ⟨by rw [HE1.out, HE2.out]; rfl, below_N HB.out _⟩
      · go_wp2
        go_quiet (fail)
        go_wp2
        exact ⟨⟨k + 1, by omega, by go_num, by rw [HAT.out], by rw [HY.out], Lib.hid (by have := HYS.out; omega), Lib.hid (below_N HB.out _)⟩, by simp [intOf]; omega⟩
    · obtain rfl : k = n := by omega
      have hAN2 := hAN
      obtain ⟨A, hA⟩ : ∃ A, Hid (atk L k = A) := ⟨_, Lib.hid rfl⟩
      rw [hA.out] at HAP HAP2 hAN2 ⊢
      clear hAN
      obtain ⟨X, hX⟩ : ∃ X : ByteArray, X = ⟨(pre src.data.toList L k).toArray⟩ := ⟨_, rfl⟩
      obtain ⟨Y, hY⟩ : ∃ Y : ByteArray, Y = ⟨(app src.data.toList L).toArray⟩ := ⟨_, rfl⟩
      have hXs : X.size = (pre src.data.toList L k).length := by rw [hX]; rfl
      have hYs : Y.size = (app src.data.toList L).length := by rw [hY]; rfl
      have hXm : X.size ≤ 1048576 := by rw [hXs]; exact HM.out
      have hXY : X ++ src.extract A src.size = Y := ba_ext (by
        rw [hY, hX, ByteArray.data_append, Array.toList_append, ext_drop, HAP2.out])
      have z1 : (src.extract A src.size).size = src.size - A := by rw [ByteArray.size_extract]; omega
      have s1 : X.size + (src.extract A src.size).size ≤ 9223372036854775807 := by rw [z1]; omega
      have s3 : (X.size : Int) + ((src.extract A src.size).size : Int) ≤ 9223372036854775807 := by omega
      have hYm : Y.size ≤ 9223372036854775807 := by rw [← hXY, ByteArray.size_append]; omega
      rw [← hX]
      rw [← hYs] at HBIG HOKE
      rw [← hY] at HOKE
      have HZ1 := Lib.hid z1
      clear hX hY hXs hYs z1
      by_cases hbig : 1048576 < Y.size
      · obtain ⟨E1, E2⟩ := HBIG.out hbig
        have HE1 := Lib.hid E1
        have HE2 := Lib.hid E2
        clear E1 E2
        go_wp2
        go_ret2
        exact ⟨by rw [HE1.out, HE2.out]; rfl, HB.out⟩
      · obtain ⟨E1, E2⟩ := HOKE.out hbig
        have HE1 := Lib.hid E1
        have HE2 := Lib.hid E2
        clear E1 E2
        go_wp2
        go_ret2
        exact ⟨by rw [HE1.out, HE2.out]; rfl, HB.out⟩
/-- What the law's test says. -/
def FewPost (src : ByteArray) (L : List Ed) (w : World) (e : Ending) (w' : World) : Prop := ∃ b : Bool, e = .returned (.bool b) ∧ w = w' ∧ (b = true → src.size ≤ 300 ∧ L.length ≤ 60 ∧ ∀ d ∈ L, d.x.size ≤ 300)
set_option maxRecDepth 100000 in
set_option maxHeartbeats 1000000 in
theorem few_any (src : ByteArray) (v : Value) (L : List Ed) (w : World) (hv : Es w w.heap.size v L) (hL : ∀ d ∈ L, d.ok) (hs : src.size ≤ 9223372036854775807) : Calls Try.prog 17 #[.string src, v] w (FewPost src L w) := by
  obtain ⟨n, hn⟩ : ∃ n, L.length = n := ⟨_, rfl⟩
  obtain ⟨a, cap, rfl, hn9⟩ := Rd.slice hv hn
  by_cases h1 : 300 < src.size
  · clear hv hn hL
    go_enter Try.func17, Try.ntmps17
    go_wp2
    go_ret
    exact ⟨false, rfl, rfl, fun h => by cases h⟩
  by_cases h2 : 60 < n
  · clear hv hn hL
    go_enter Try.func17, Try.ntmps17
    go_wp2
    go_ret
    exact ⟨false, rfl, rfl, fun h => by cases h⟩
  have HV := Lib.hid hv
  have HN := Lib.hid hn
  have HOK := Lib.hid hL
  clear hv hn hL
  go_enter Try.func17, Try.ntmps17
  go_wp2
  go_loop [5] (fun i => ∃ k : Nat, k ≤ n ∧ i = .int .i64 k ∧ Hid (∀ j d, j < k → L[j]? = some d → d.x.size ≤ 300)) (fun i => n - (intOf i).toNat)
  case atStart => exact ⟨0, by omega, rfl, Lib.hid fun j d h => by omega⟩
  case round =>
    obtain ⟨k, hk, rfl, HP⟩ := hrel
    by_cases hlt : k < n
    · obtain ⟨g, o, cap', hvv, hg, _, _, hcell⟩ := Es.at_ HV.out HN.out (by omega)
      injection hvv with q1 q2 q3
      subst q1
      obtain ⟨d, hd⟩ := get_in HN.out hlt
      obtain ⟨_, _, e2⟩ := hcell k d hd
      have hok := (HOK.out d (List.mem_of_getElem? hd)).2.2
      have HD := Lib.hid hd
      clear hcell hd q2 q3
      by_cases h3 : 300 < d.x.size
      · go_wp2
        go_ret
        exact ⟨false, rfl, rfl, fun h => by cases h⟩
      · have HP2 : Hid (∀ j d, j < k + 1 → L[j]? = some d → d.x.size ≤ 300) := Lib.hid fun j d' hj hd' => by
          by_cases e : j = k
          · subst e
            rw [HD.out] at hd'
            obtain rfl := Option.some.inj hd'
            omega
          · exact HP.out j d' (by omega) hd'
        go_wp2
        go_round
        case rel => exact ⟨k + 1, by omega, by go_num, HP2⟩
        case measure => simp [intOf]; omega
    · have hf : src.size ≤ 300 ∧ L.length ≤ 60 ∧ ∀ d ∈ L, d.x.size ≤ 300 := ⟨by omega, by rw [HN.out]; omega, fun d hd => by
        obtain ⟨j, hj⟩ := List.getElem?_of_mem hd
        have := (List.getElem?_eq_some_iff.1 hj).1
        exact HP.out j d (by have := HN.out; omega) hj⟩
      have HF := Lib.hid hf
      clear hf
      go_wp2
      go_ret
      exact ⟨true, rfl, rfl, fun _ => HF.out⟩
end Go.Proofs.Ytdgoblapmjpcaaa.Sp
