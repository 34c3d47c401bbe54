/-
  Contracts of package path and its reference: valid paths.
-/
import Derived.Test.YtagnagofdokjcaaPsC
import Derived.Test.YtagnagofdokjcaaUtfG
namespace Go.Proofs.Ytagnagofdokjcaa.Ps
open Go.RowKit
set_option linter.unusedVariables false
set_option linter.unusedSimpArgs false
open RO

/-- May a step be in a path? -/
def stV (d : St) : Bool := if d.b = true then decide (d.s.size = 0 ∧ 0 ≤ d.x ∧ d.x ≤ 65536) else (decide (d.x = 0 ∧ d.s.size ≤ 1024) && Utf.vld d.s)
def pvB (L : List St) : Bool := decide (L.length ≤ 48) && L.all stV
theorem all_step {L : List St} {k : Nat} {d : St} (h : L[k]? = some d) : (L.drop k).all stV = (stV d && (L.drop (k + 1)).all stV) := by
  rw [drop_st h, List.all_cons]
theorem all_end {L : List St} {k : Nat} (h : L.length ≤ k) : (L.drop k).all stV = true := by
  rw [List.drop_eq_nil_of_le h]; rfl
theorem stV_t {s : ByteArray} {x : Int} : stV ⟨true, s, x⟩ = decide (s.size = 0 ∧ 0 ≤ x ∧ x ≤ 65536) := if_pos rfl
theorem stV_f {s : ByteArray} {x : Int} : stV ⟨false, s, x⟩ = (decide (x = 0 ∧ s.size ≤ 1024) && Utf.vld s) := if_neg (by simp)
theorem pv_all {L : List St} {n : Nat} (hn : L.length = n) (h : n ≤ 48) : pvB L = (L.drop 0).all stV := by
  unfold pvB
  rw [decide_eq_true (by omega), Bool.true_and]; rfl
set_option maxRecDepth 100000 in
set_option maxHeartbeats 4000000 in
theorem rpvalid_any (v : Value) (L : List St) (w : World) (hv : Ss w w.heap.size v L) (hL : ∀ d ∈ L, d.ok) : Calls Try.prog 4 #[v] w fun e w' => e = .returned (.bool (pvB L)) ∧ Below w.heap.size w w' := by
  obtain ⟨n, hn⟩ : ∃ n, L.length = n := ⟨_, rfl⟩
  obtain ⟨a, cap, rfl, hn9⟩ := Rd.slice hv hn
  by_cases h4 : 48 < n
  · have HE : Hid (pvB L = false) := Lib.hid (by unfold pvB; rw [decide_eq_false (by omega)]; rfl)
    clear hn hv hL
    go_enter Try.func4, Try.ntmps4
    go_wp2
    go_ret
    exact ⟨ret_bool HE.out.symm, Below.refl _ _⟩
  have HP := Lib.hid (pv_all hn (by omega))
  have C1 := Lib.hid (Ss.cellsAt hv hn)
  have HEND : Hid ((L.drop n).all stV = true) := Lib.hid (all_end (by omega))
  have HOK := Lib.hid hL
  clear hn hv hL
  go_enter Try.func4, Try.ntmps4
  go_wp2
  go_loopw [3] (fun i wr => ∃ k : Nat, k ≤ n ∧ i = .int .i64 k ∧ Below w.heap.size w wr ∧ Hid (pvB L = (L.drop k).all stV)) (fun i _ => n - (intOf i).toNat)
  case atStart => exact ⟨0, by omega, rfl, Below.refl _ _, HP⟩
  case round =>
    obtain ⟨k, hk, rfl, hb, HX⟩ := hrel
    by_cases hlt : k < n
    · obtain ⟨g1, o1, d, rfl, hd, e0, e1, e2, hg1⟩ := C1.out _ hb k hlt
      obtain ⟨ok1, ok2, ok3⟩ := HOK.out d (List.mem_of_getElem? hd)
      have HS := Lib.hid (all_step hd)
      clear hd
      obtain ⟨db, ds, dx⟩ := d
      simp only at e0 e1 e2 ok1 ok2 ok3
      cases db with
      | true =>
        by_cases c1 : ds.size = 0
        · have t1 := tl_nil c1
          have t2 : ds.toList.isEmpty = true := by rw [t1]; rfl
          by_cases c2 : dx < 0
          · skip
            have HX2 : Hid (pvB L = false) := Lib.hid (by rw [HX.out, HS.out, stV_t, decide_eq_false (by omega), Bool.false_and])
            have bl := hb
            clear HX HS
            go_wp2
            go_ret
            exact ⟨ret_bool HX2.out.symm, bl⟩
          by_cases c3 : 65536 < dx
          · skip
            have HX2 : Hid (pvB L = false) := Lib.hid (by rw [HX.out, HS.out, stV_t, decide_eq_false (by omega), Bool.false_and])
            have bl := hb
            clear HX HS
            go_wp2
            go_ret
            exact ⟨ret_bool HX2.out.symm, bl⟩
          · skip
            have HX2 : Hid (pvB L = (L.drop (k + 1)).all stV) := Lib.hid (by rw [HX.out, HS.out, stV_t, decide_eq_true (by omega), Bool.true_and])
            have bl := hb
            clear HX HS
            go_wp2
            exact ⟨⟨k + 1, by omega, by go_num, bl, HX2⟩, by simp [intOf]; omega⟩
        · have t1 := tl_ne c1
          have t2 := tl_ne' c1
          have HX2 : Hid (pvB L = false) := Lib.hid (by rw [HX.out, HS.out, stV_t, decide_eq_false (by omega), Bool.false_and])
          have bl := hb
          clear HX HS
          go_wp2
          go_ret
          exact ⟨ret_bool HX2.out.symm, bl⟩
      | false =>
        by_cases c1 : dx = 0
        · subst c1
          by_cases c2 : ds.size ≤ 1024
          · cases hv : Utf.vld ds with
            | true =>
              have HV := Lib.hid (fun (w' : World) => Utf.rvalid_any ds w' (by omega))
              rw [hv] at HV
              have HX2 : Hid (pvB L = (L.drop (k + 1)).all stV) := Lib.hid (by rw [HX.out, HS.out, stV_f, decide_eq_true (by omega), hv, Bool.true_and, Bool.true_and])
              have bl := hb
              clear HX HS
              go_wp2_with (go_at_call 7; (with_reducible refine ((HV.out _).mono ?_)); rintro e w2 ⟨rfl, hX⟩; have bl := bl.trans (hX.mono bl.size); clear hX)
              exact ⟨⟨k + 1, by omega, by go_num, bl, HX2⟩, by simp [intOf]; omega⟩
            | false =>
              have HV := Lib.hid (fun (w' : World) => Utf.rvalid_any ds w' (by omega))
              rw [hv] at HV
              have HX2 : Hid (pvB L = false) := Lib.hid (by rw [HX.out, HS.out, stV_f, decide_eq_true (by omega), hv, Bool.true_and, Bool.false_and])
              have bl := hb
              clear HX HS
              go_wp2_with (go_at_call 7; (with_reducible refine ((HV.out _).mono ?_)); rintro e w2 ⟨rfl, hX⟩; have bl := bl.trans (hX.mono bl.size); clear hX)
              go_ret
              exact ⟨ret_bool HX2.out.symm, bl⟩
          · skip
            have HX2 : Hid (pvB L = false) := Lib.hid (by rw [HX.out, HS.out, stV_f, decide_eq_false (by omega), Bool.false_and, Bool.false_and])
            have bl := hb
            clear HX HS
            go_wp2
            go_ret
            exact ⟨ret_bool HX2.out.symm, bl⟩
        · skip
          have HX2 : Hid (pvB L = false) := Lib.hid (by rw [HX.out, HS.out, stV_f, decide_eq_false (by omega), Bool.false_and, Bool.false_and])
          have bl := hb
          clear HX HS
          go_wp2
          go_ret
          exact ⟨ret_bool HX2.out.symm, bl⟩
    · obtain rfl : k = n := by omega
      go_wp2
      go_ret
      exact ⟨ret_bool (HX.out.trans HEND.out).symm, hb⟩
end Go.Proofs.Ytagnagofdokjcaa.Ps
