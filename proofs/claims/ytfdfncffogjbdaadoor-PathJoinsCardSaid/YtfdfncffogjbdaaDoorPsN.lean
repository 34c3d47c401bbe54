/-
  The law PathJoins.
-/
import Derived.Test.YtfdfncffogjbdaaDoorPsM
namespace Go.Proofs.YtfdfncffogjbdaaDoor.Ps
open Go.RowKit
set_option linter.unusedVariables false
set_option linter.unusedSimpArgs false
open RO

theorem Ow.ss {w : World} {base : Nat} {v : Value} {L : List St} (h : Ow scs 3 26 w base v L) : Ss w w.heap.size v L := h.rd sc_len
theorem heap_row {w : World} {g : Nat} {cur : Array Value} {t : TypeId} {k : Nat} (h : w.heap[g]? = some (.cells cur t (0, 0))) (hk : cur.size = k) : w.rowIs g t k (fun i => cur.getD i default) :=
  ⟨cur, h, hk, fun i hi => by rw [Array.getElem?_eq_getElem (by omega)]; simp [Array.getD, show i < cur.size by omega]⟩
set_option maxRecDepth 100000 in
set_option maxHeartbeats 8000000 in
theorem joins_walk (a1 : Option Addr) (n cap1 : Nat) (a2 : Option Addr) (m cap2 : Nat) (w : World) (hT : Utf.Tabs w) (ht : Tb w) {L M : List St} (h1 : L.length = n ∧ (Ss w w.heap.size (.slice a1 n cap1) L ∧ Nz (.slice a1 n cap1)) ∧ ∀ d ∈ L, d.ok) (h2 : M.length = m ∧ (Ss w w.heap.size (.slice a2 m cap2) M ∧ Nz (.slice a2 m cap2)) ∧ ∀ d ∈ M, d.ok) : Calls Tryd.prog 8 #[.slice a1 n cap1, .slice a2 m cap2] w fun e w' => e = .returned (.bool true) ∧ Below w.heap.size w w' := by
  obtain ⟨hn, ⟨hv1, z1⟩, hok1⟩ := h1
  obtain ⟨hm, ⟨hv2, z2⟩, hok2⟩ := h2
  have HL := Lib.hid (fun (w' : World) (hb : Below w.heap.size w w') => lives_any w' (hT.below hb) (ht.next hb))
  have HV1 := Lib.hid (fun (w' : World) (hb : Below w.heap.size w w') => rpvalid_any _ L w' (hv1.below hb |>.mono hb.size) hok1)
  have HV2 := Lib.hid (fun (w' : World) (hb : Below w.heap.size w w') => rpvalid_any _ M w' (hv2.below hb |>.mono hb.size) hok2)
  have bl := Below.refl w.heap.size w
  have HS1 := Lib.hid (fun (w' : World) (hb : Below w.heap.size w w') => (show Ss w' w'.heap.size _ L from (hv1.below hb).mono hb.size))
  have HS2 := Lib.hid (fun (w' : World) (hb : Below w.heap.size w w') => (show Ss w' w'.heap.size _ M from (hv2.below hb).mono hb.size))
  clear hT ht hok1 hok2 hv1 hv2
  cases e1 : pvB L with
  | false =>
    rw [e1] at HV1
    clear e1 HV2
    go_enter Tryd.func8, Tryd.ntmps8
    go_wp2_with (first | (go_at_call 11; (with_reducible refine (HV1.out _ bl).mono ?_); rintro e w1 ⟨rfl, hX⟩; have bl := bl.trans (hX.mono bl.size); clear hX) | (go_at_call 9; (with_reducible refine (HL.out _ bl).mono ?_); rintro e w1 ⟨rfl, hX⟩; have bl := bl.trans (hX.mono bl.size); clear hX))
    go_ret
    exact ⟨rfl, bl⟩
  | true =>
    rw [e1] at HV1
    cases e2 : pvB M with
    | false =>
      rw [e2] at HV2
      clear e1 e2
      go_enter Tryd.func8, Tryd.ntmps8
      go_wp2_with (first | (go_at_call 11; first | ((with_reducible refine (HV1.out _ bl).mono ?_); rintro e w1 ⟨rfl, hX⟩; have bl := bl.trans (hX.mono bl.size); clear hX) | ((with_reducible refine (HV2.out _ bl).mono ?_); rintro e w1 ⟨rfl, hX⟩; have bl := bl.trans (hX.mono bl.size); clear hX)) | (go_at_call 9; (with_reducible refine (HL.out _ bl).mono ?_); rintro e w1 ⟨rfl, hX⟩; have bl := bl.trans (hX.mono bl.size); clear hX))
      go_ret
      exact ⟨rfl, bl⟩
    | true =>
      rw [e2] at HV2
      have l1 : L.length ≤ 48 := by unfold pvB at e1; rw [Bool.and_eq_true, decide_eq_true_eq] at e1; exact e1.1
      have l2 : M.length ≤ 48 := by unfold pvB at e2; rw [Bool.and_eq_true, decide_eq_true_eq] at e2; exact e2.1
      have HJ := Lib.hid (fun (w' : World) (hb : Below w.heap.size w w') => join_any _ _ L M w' (HS1.out _ hb) (HS2.out _ hb) z1 z2 l1 l2)
      have HRJ := Lib.hid (fun (w' : World) (hb : Below w.heap.size w w') => rjoin_any _ _ L M w' (HS1.out _ hb) (HS2.out _ hb) z1 z2 l1 l2)
      have HP := Lib.hid (fun (w' : World) (hb : Below w.heap.size w w') => parent_any _ L w' (HS1.out _ hb) l1)
      have HRP := Lib.hid (fun (w' : World) (hb : Below w.heap.size w w') => rparent_any _ L w' (HS1.out _ hb) l1)
      have HE : Hid (∀ (v1 v2 : Value) (K : List St) (w' : World), Ss w' w'.heap.size v1 K → Ss w' w'.heap.size v2 K → Calls Tryd.prog 19 #[v1, v2] w' fun e w2 => e = .returned (.bool true) ∧ Below w'.heap.size w' w2) := Lib.hid (fun v1 v2 K w' h1 h2 => by
        have h := requal_any v1 v2 K K w' h1 h2
        rw [eqL_iff.2 rfl] at h
        exact h)
      obtain ⟨K, hK⟩ : ∃ K, L ++ M = K := ⟨_, rfl⟩
      obtain ⟨J, hJ⟩ : ∃ J, L.take (L.length - 1) = J := ⟨_, rfl⟩
      have hKl : K.length ≤ 96 := by rw [← hK, List.length_append]; omega
      rw [hK] at HJ HRJ
      rw [hJ] at HP HRP
      generalize decide (0 < L.length) = bb at *
      clear e1 e2 HS1 HS2 hK hJ l1 l2 z1 z2 hn hm
      go_enter Tryd.func8, Tryd.ntmps8
      go_wp2_with (first | (go_at_call 11; first | ((with_reducible refine (HV1.out _ bl).mono ?_); rintro e w1 ⟨rfl, hX⟩; have bl := bl.trans (hX.mono bl.size); clear hX) | ((with_reducible refine (HV2.out _ bl).mono ?_); rintro e w1 ⟨rfl, hX⟩; have bl := bl.trans (hX.mono bl.size); clear hX)) | (go_at_call 26; (with_reducible refine (HJ.out _ bl).mono ?_); rintro e wj ⟨vj, rfl, hO, hX⟩; have hj := Ow.down hO bl.size; clear hO; have bl := bl.trans (hX.mono bl.size); clear hX) | (go_at_call 27; (with_reducible refine (HP.out _ bl).mono ?_); rintro e wq ⟨vq, rfl, hq, hX⟩; have hj := hj.below hX; have bl := bl.trans (hX.mono bl.size); clear hX) | (go_at_call 28; (with_reducible refine (HRP.out _ bl).mono ?_); rintro e wx ⟨vx, rfl, hx, hX⟩; have hj := hj.below hX; have hq := Ss.next hq hX; have bl := bl.trans (hX.mono bl.size); clear hX) | (go_at_call 29; (with_reducible refine (HRJ.out _ bl).mono ?_); rintro e wr ⟨vr, rfl, hr, hX⟩; have hj := hj.below hX; have hq := Ss.next hq hX; have hx := Ss.next hx hX; have bl := bl.trans (hX.mono bl.size); clear hX) | (go_at_call 19; first | ((with_reducible refine (HE.out vj vr _ _ (Ow.ss hj) (Ow.ss hr)).mono ?_); rintro e we ⟨rfl, hX⟩; have hj := hj.below hX; have hq := Ss.next hq hX; have hx := Ss.next hx hX; have bl := bl.trans (hX.mono bl.size); clear hX) | ((with_reducible refine (HE.out vq vx _ _ hq hx).mono ?_); rintro e we ⟨rfl, hX⟩; have hj := hj.below hX; have bl := bl.trans (hX.mono bl.size); clear hX)))
      obtain ⟨q, hql⟩ : ∃ q, K.length = q := ⟨_, rfl⟩
      have hlen := Rd.run_len Tryd.underlying22 (Ow.ss hj) hql
      rcases hj.2 with ⟨rfl, h0⟩ | ⟨g, cap, cur, rfl, hbg, hh, hc1, hc2, hcs, _⟩
      · obtain rfl : q = 0 := by omega
        clear hj
        refine wp_loop_rounds 1 ?_
        rw [rounds_succ]
        go_wp2_with (first | (go_at_call 26; (with_reducible refine (HJ.out _ bl).mono ?_); rintro e wj2 ⟨vk, rfl, hk2, hX⟩; have bl := bl.trans (hX.mono bl.size); clear hX) | (go_at_call 29; (with_reducible refine (HRJ.out _ bl).mono ?_); rintro e wr2 ⟨vr2, rfl, hr2, hX⟩; have hk2 := hk2.below hX; have bl := bl.trans (hX.mono bl.size); clear hX) | (go_at_call 19; (with_reducible refine (HE.out vk vr2 _ _ (Ow.ss hk2) (Ow.ss hr2)).mono ?_); rintro e we2 ⟨rfl, hX⟩; have bl := bl.trans (hX.mono bl.size); clear hX) | (go_at_call 9; (with_reducible refine (HL.out _ bl).mono ?_); rintro e w1 ⟨rfl, hX⟩; have bl := bl.trans (hX.mono bl.size); clear hX))
        go_ret
        exact ⟨rfl, bl⟩
      · have HR := heap_row hh hcs
        rw [hql] at hlen
        rw [hql] at hc1
        clear hj hh hcs hlen
        rw [hql]
        have hq96 : q ≤ 96 := by omega
        go_loopw [10] (fun i wr => ∃ (k : Nat) (f : Nat → Value), k ≤ q ∧ i = .int .i64 k ∧ Below w.heap.size w wr ∧ wr.rowIs g 26 (cap * 3) f) (fun i _ => q - (intOf i).toNat)
        case atStart => exact ⟨0, _, by omega, rfl, bl, HR⟩
        case round =>
          obtain ⟨k, f, hk, rfl, bl, hR⟩ := hrel
          by_cases hlt : k < q
          · have a0 := World.rowIs.cell hR (i := k * 3) (by omega)
            have a1 := World.rowIs.cell hR (i := k * 3 + 1) (by omega)
            have a2 := World.rowIs.cell hR (i := k * 3 + 2) (by omega)
            have y0 := World.rowIs.frozen hR (k * 3)
            have y1 := World.rowIs.frozen hR (k * 3 + 1)
            have y2 := World.rowIs.frozen hR (k * 3 + 2)
            go_wp2
            exact ⟨⟨k + 1, _, by omega, by go_num, ((bl.setCell hbg _).setCell hbg _).setCell hbg _, World.rowIs.set (World.rowIs.set (World.rowIs.set hR (k * 3) _) (k * 3 + 1) _) (k * 3 + 2) _⟩, by simp [intOf]; omega⟩
          · obtain rfl : k = q := by omega
            go_wp2_with (first | (go_at_call 26; (with_reducible refine (HJ.out _ bl).mono ?_); rintro e wj2 ⟨vk, rfl, hk2, hX⟩; have bl := bl.trans (hX.mono bl.size); clear hX) | (go_at_call 29; (with_reducible refine (HRJ.out _ bl).mono ?_); rintro e wr2 ⟨vr2, rfl, hr2, hX⟩; have hk2 := hk2.below hX; have bl := bl.trans (hX.mono bl.size); clear hX) | (go_at_call 19; (with_reducible refine (HE.out vk vr2 _ _ (Ow.ss hk2) (Ow.ss hr2)).mono ?_); rintro e we2 ⟨rfl, hX⟩; have bl := bl.trans (hX.mono bl.size); clear hX) | (go_at_call 9; (with_reducible refine (HL.out _ bl).mono ?_); rintro e w1 ⟨rfl, hX⟩; have bl := bl.trans (hX.mono bl.size); clear hX))
            go_ret
            exact ⟨rfl, bl⟩
end Go.Proofs.YtfdfncffogjbdaaDoor.Ps
