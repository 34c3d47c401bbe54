/-
  Contracts of package span: edits in normal form, walked.
-/
import Derived.Test.YtdgoblapmjpcaaaSpH
namespace Go.Proofs.Ytdgoblapmjpcaaa.Sp
open Go.RowKit
set_option linter.unusedVariables false
set_option linter.unusedSimpArgs false
open RO

theorem nm_end {tx : ByteArray} {size fr to : Int} {R : List Ru} {k : Nat} (h : k = R.length) : nm tx size fr to (R.drop k) = ne1 tx fr to ⟨size, tx.size, 0⟩ := by
  rw [h, List.drop_length]; rfl
theorem nm_at {tx : ByteArray} {size fr to : Int} {R : List Ru} {k : Nat} {r : Ru} (h : R[k]? = some r) : nm tx size fr to (R.drop k) = if r.c = 0 then nm tx size fr to (R.drop (k + 1)) else ne1 tx fr to r ++ nm tx size (r.a + r.c) (r.b + r.c) (R.drop (k + 1)) := by
  obtain ⟨hk, rfl⟩ := List.getElem?_eq_some_iff.1 h
  rw [List.drop_eq_getElem_cons hk]; rfl
theorem wf_at {tx : ByteArray} {fr to : Int} {R : List Ru} {k : Nat} {r : Ru} (h : R[k]? = some r) (hw : WF tx fr to (R.drop k)) : Sm fr ∧ Sm to ∧ Sm r.a ∧ Sm r.b ∧ Sm r.c ∧ (if r.c = 0 then WF tx fr to (R.drop (k + 1)) else (to ≤ r.b ∧ r.b ≤ tx.size ∧ WF tx (r.a + r.c) (r.b + r.c) (R.drop (k + 1)))) := by
  obtain ⟨hk, rfl⟩ := List.getElem?_eq_some_iff.1 h
  rw [List.drop_eq_getElem_cons hk] at hw; exact hw
theorem wf_end {tx : ByteArray} {fr to : Int} {R : List Ru} {k : Nat} (h : k = R.length) (hw : WF tx fr to (R.drop k)) : Sm fr ∧ Sm to ∧ to ≤ tx.size := by
  rw [h, List.drop_length] at hw; exact hw
theorem rowc (w : World) (cs : Array Value) (T : TypeId) {j : Nat} {u : Value} (h : cs[j]? = some u) : (w.alloc (.cells cs T)).cell? ⟨w.heap.size, j, none⟩ = some u := by
  rw [heap_cell (heap_alloc_new w (.cells cs T)) j]; exact h
theorem get_ru {L : List Ru} {n k : Nat} (hn : L.length = n) (h : k < n) : ∃ d, L[k]? = some d := ⟨L[k]'(by omega), List.getElem?_eq_getElem _⟩
theorem app_get {R : List Ru} {x : Ru} {k : Nat} {r : Ru} (h : (R ++ [x])[k]? = some r) : (k < R.length ∧ R[k]? = some r) ∨ (k = R.length ∧ r = x) := by
  by_cases hk : k < R.length
  · rw [List.getElem?_append_left hk] at h; exact .inl ⟨hk, h⟩
  · have := (List.getElem?_eq_some_iff.1 h).1
    rw [List.length_append] at this
    simp at this
    obtain rfl : k = R.length := by omega
    rw [List.getElem?_append_right (Nat.le_refl _)] at h
    simp at h
    exact .inr ⟨rfl, h.symm⟩
def rst (tx : ByteArray) (size : Int) (n : Nat) (fr to : Int) (R : List Ru) (k : Nat) : List Ed := if k ≤ n then nm tx size fr to (R.drop k) else []
/-- One run more: where it is skipped. -/
theorem rst_skip {tx : ByteArray} {size fr to : Int} {R : List Ru} {n k : Nat} {r : Ru} (hn : R.length = n) (h : R[k]? = some r) (hc : r.c = 0) : rst tx size n fr to R k = rst tx size n fr to R (k + 1) := by
  have hk := (List.getElem?_eq_some_iff.1 h).1
  unfold rst
  rw [if_pos (by omega), if_pos (by omega), nm_at h, if_pos hc]
theorem rst_take {tx : ByteArray} {size fr to : Int} {R : List Ru} {n k : Nat} {r : Ru} (hn : R.length = n) (h : R[k]? = some r) (hc : r.c ≠ 0) : rst tx size n fr to R k = ne1 tx fr to r ++ rst tx size n (r.a + r.c) (r.b + r.c) R (k + 1) := by
  have hk := (List.getElem?_eq_some_iff.1 h).1
  unfold rst
  rw [if_pos (by omega), if_pos (by omega), nm_at h, if_neg hc]
theorem rst_last {tx : ByteArray} {size fr to : Int} {R : List Ru} {n : Nat} (hn : R.length = n) (f t : Int) : rst tx size n fr to R n = ne1 tx fr to ⟨size, tx.size, 0⟩ ++ rst tx size n f t R (n + 1) := by
  unfold rst
  rw [if_pos (Nat.le_refl _), if_neg (by omega), nm_end hn.symm, List.append_nil]
theorem ow_le {w : World} {base base' : Nat} {v : Value} {L : List Ed} (h : Ow ec 3 50 w base v L) (hb : base' ≤ base) : Ow ec 3 50 w base' v L := by
  obtain ⟨h1, h2⟩ := h
  refine ⟨h1, ?_⟩
  rcases h2 with h2 | ⟨g, cap, cur, q1, q2, q3, q4, q5, q6, q7⟩
  · exact .inl h2
  · exact .inr ⟨g, cap, cur, q1, by omega, q3, q4, q5, q6, q7⟩
theorem ne1_yes {tx : ByteArray} {fr to : Int} {r : Ru} (h : fr < r.a ∨ to < r.b) : ne1 tx fr to r = [⟨fr, r.a, tx.extract to.toNat r.b.toNat⟩] := if_pos h
theorem ne1_no {tx : ByteArray} {fr to : Int} {r : Ru} (h : ¬ (fr < r.a ∨ to < r.b)) : ne1 tx fr to r = [] := if_neg h
theorem ru_at {w : World} {B : Nat} {v : Value} {L : List Ru} (h : Rd rc 3 w B v L) {n : Nat} (hn : L.length = n) (h0 : 0 < n) : ∃ g o cap, v = .slice (some ⟨g, o, none⟩) n cap ∧ g < B ∧ n ≤ cap ∧ ∀ i d, L[i]? = some d → w.cell? ⟨g, o + i * 3, none⟩ = some (.int .i64 d.a) ∧ w.cell? ⟨g, o + i * 3 + 1, none⟩ = some (.int .i64 d.b) ∧ w.cell? ⟨g, o + i * 3 + 2, none⟩ = some (.int .i64 d.c) := by
  subst hn
  obtain ⟨g, o, cap, hv, hg, hl, hm, hc⟩ := Rd.at_ h h0
  exact ⟨g, o, cap, hv, hg, hl, fun i d hd => ⟨hc i d 0 _ hd rfl, hc i d 1 _ hd rfl, hc i d 2 _ hd rfl⟩⟩
set_option maxRecDepth 100000 in
set_option maxHeartbeats 8000000 in
theorem normal_any (size : Int) (tx : ByteArray) (v : Value) (R : List Ru) (w : World) (hv : Rd rc 3 w w.heap.size v R) (hW : WF tx 0 0 R) (hS : Sm size) (ht : tx.size ≤ 1000000000) (hR : R.length ≤ 100000) : Calls Try.prog 33 #[.int .i64 size, .string tx, v] w (NormPost (nm tx size 0 0 R) w) := by
  obtain ⟨n, hn⟩ : ∃ n, R.length = n := ⟨_, rfl⟩
  have hln := Rd.run_len Try.underlying63 hv hn
  obtain ⟨a', HE3, hs3⟩ := Rd.to3 Try.underlying63 Try.sizeOf66 hv (m := n) (by omega)
  rw [List.take_of_length_le (by omega)] at HE3
  have hno : a' = none → n = 0 := by
    intro e
    rcases HE3 with ⟨_, _, _, h⟩ | ⟨g, o, cap, h, _⟩
    · rw [h] at hn; exact hn.symm
    · rw [e] at h; injection h with h; cases h
  have HE := Lib.hid HE3
  have HNO := Lib.hid hno
  have HN := Lib.hid hn
  have HW := Lib.hid hW
  have hn5 : n ≤ 100000 := by omega
  have HNL : Hid (n + 1 ≤ 100000000) := Lib.hid (by omega)
  obtain ⟨hS1, hS2⟩ := hS
  clear hv hW HE3 hno hn hR
  go_enter Try.func33, Try.ntmps33
  go_wp2_with (at_builtin; go_loud (refine sp_appg (by rfl) (.tmp 17) (.tmp 22) (by rfl) (by rfl) HE.out HN.out (Nat.le_refl _) (Below.refl w.heap.size w) (Nat.le_refl _) HNO.out ⟨size, tx.size, 0⟩ (by rfl) (by rfl) (by rw [HN.out]; exact HNL.out) ?_); intro v' w' hB' hb' hbs'; have HB' := Lib.hid hB'; have hl' := Rd.run_len Try.underlying63 (Ow.rd rc_len hB') (n := n + 1) (by rw [List.length_append, HN.out]; rfl); clear hB')
  obtain ⟨g, o, cap, hvv, hg, hcap, hcell⟩ := ru_at (Ow.rd rc_len HB'.out) (n := n + 1) (by rw [List.length_append, HN.out]; rfl) (by omega)
  subst hvv
  have HC := Lib.hid hcell
  obtain ⟨B2, hB2⟩ : ∃ B2, Hid (w'.heap.size = B2) := ⟨_, Lib.hid rfl⟩
  have hwB : w.heap.size ≤ B2 := by rw [← hB2.out]; omega
  have HB0 : Hid (Below B2 w' w') := Lib.hid (Below.refl _ _)
  rw [hB2.out] at hg
  clear hcell hs3 hbs'
  go_loopw [7, 8, 9, 25] (fun lv f t kv wr => ∃ (k : Nat) (fr to : Int) (acc : List Ed), k ≤ n + 1 ∧ kv = .int .i64 k ∧ f = .int .i64 fr ∧ t = .int .i64 to ∧ acc.length ≤ k ∧ Hid (k ≤ n → WF tx fr to (R.drop k)) ∧ Hid (Ow ec 3 50 wr B2 lv acc) ∧ Hid (Below B2 w' wr) ∧ B2 ≤ wr.heap.size ∧ Hid (nm tx size 0 0 R = acc ++ rst tx size n fr to R k)) (fun _ _ _ kv _ => n + 1 - (intOf kv).toNat)
  case atStart => exact ⟨0, 0, 0, [], by omega, rfl, rfl, rfl, by simp, Lib.hid fun _ => HW.out, Lib.hid (Ow.nil _ _), HB0, by rw [← hB2.out]; exact Nat.le_refl _, Lib.hid (by unfold rst; rw [if_pos (by omega)]; rfl)⟩
  case round =>
    obtain ⟨k, fr, to, acc, hk, rfl, rfl, rfl, ha, HWk, HO, HB, hbs, HX⟩ := hrel
    by_cases hlt : k < n + 1
    · obtain ⟨r, hr⟩ := get_ru (L := R ++ [⟨size, tx.size, 0⟩]) (n := n + 1) (by rw [List.length_append, HN.out]; rfl) hlt
      obtain ⟨c0, c1, c2⟩ := HC.out k r hr
      have c0 := (HB.out.cell (p := ⟨g, o + k * 3, none⟩) hg).trans c0
      have c1 := (HB.out.cell (p := ⟨g, o + k * 3 + 1, none⟩) hg).trans c1
      have c2 := (HB.out.cell (p := ⟨g, o + k * 3 + 2, none⟩) hg).trans c2
      have hcase := app_get hr
      rw [HN.out] at hcase
      clear hr
      by_cases hskip : k < n ∧ r.c = 0
      · obtain ⟨hkn, hc0⟩ := hskip
        obtain ⟨_, hr⟩ := hcase.resolve_right (by omega)
        have hwf := wf_at hr (HWk.out (by omega))
        rw [if_pos hc0] at hwf
        obtain ⟨_, _, ⟨a1, a2⟩, ⟨b1, b2⟩, _, hwn⟩ := hwf
        have HX2 : Hid (nm tx size 0 0 R = acc ++ rst tx size n fr to R (k + 1)) := Lib.hid (by rw [HX.out, rst_skip HN.out hr hc0])
        have HW2 : Hid (k + 1 ≤ n → WF tx fr to (R.drop (k + 1))) := Lib.hid fun _ => hwn
        obtain ⟨ra, rb, rcc⟩ := r
        simp only at a1 a2 b1 b2 c0 c1 c2 hc0
        subst hc0
        have hkd : decide ((k : Int) < (n : Int)) = true := by simp; omega
        clear hr hwn hcase
        go_wp2
        exact ⟨⟨k + 1, fr, to, acc, by omega, by go_num, rfl, rfl, by omega, HW2, Lib.hid (HO.out.alloc _), Lib.hid (HB.out.alloc hbs _), by simp; omega, HX2⟩, by simp [intOf]; omega⟩
      · have key : Sm fr ∧ Sm to ∧ Sm r.a ∧ Sm r.b ∧ Sm r.c ∧ to ≤ r.b ∧ r.b ≤ tx.size ∧ (k + 1 ≤ n → WF tx (r.a + r.c) (r.b + r.c) (R.drop (k + 1))) ∧ nm tx size 0 0 R = acc ++ ne1 tx fr to r ++ rst tx size n (r.a + r.c) (r.b + r.c) R (k + 1) := by
          rcases hcase with ⟨hkn, hr⟩ | ⟨hkn, rfl⟩
          · have hc0 : r.c ≠ 0 := fun e => hskip ⟨hkn, e⟩
            have hwf := wf_at hr (HWk.out (by omega))
            rw [if_neg hc0] at hwf
            obtain ⟨p1, p2, p3, p4, p5, p6, p7, p8⟩ := hwf
            exact ⟨p1, p2, p3, p4, p5, p6, p7, fun _ => p8, by rw [HX.out, rst_take HN.out hr hc0, List.append_assoc]⟩
          · have hwf := wf_end (k := k) (by rw [HN.out]; exact hkn) (HWk.out (by omega))
            obtain ⟨p1, p2, p3⟩ := hwf
            refine ⟨p1, p2, ⟨hS1, hS2⟩, ⟨by simp, by simp; omega⟩, ⟨by simp, by simp⟩, p3, Int.le_refl _, fun h => by omega, ?_⟩
            rw [HX.out, hkn, rst_last HN.out (size + 0) ((tx.size : Int) + 0), List.append_assoc]
        obtain ⟨⟨f1, f2⟩, ⟨t1, t2⟩, ⟨a1, a2⟩, ⟨b1, b2⟩, ⟨e1, e2⟩, tb, bt, hwn, hxn⟩ := key
        have HWN := Lib.hid hwn
        obtain ⟨ra, rb, rcc⟩ := r
        simp only at a1 a2 b1 b2 e1 e2 tb bt c0 c1 c2 hskip
        by_cases hz : rcc = 0
        · have hkd : decide ((k : Int) < (n : Int)) = false := by simp; omega
          have hkn1 : ¬ (k : Int) < (n : Int) := by omega
          have hkn2 : (n : Int) ≤ (k : Int) := by omega
          subst hz
          rw [Int.add_zero, Int.add_zero] at hxn
          replace HWN := Lib.hid (show k + 1 ≤ n → WF tx ra rb (R.drop (k + 1)) from by have h := HWN.out; rwa [Int.add_zero, Int.add_zero] at h)
          by_cases h1 : fr < ra
          · have hor : fr < ra ∨ to < rb := .inl h1
            have HNE : Hid (ne1 tx fr to ⟨ra, rb, 0⟩ = [⟨fr, ra, tx.extract to.toNat rb.toNat⟩]) := Lib.hid (ne1_yes hor)
            have HXN : Hid (nm tx size 0 0 R = (acc ++ [⟨fr, ra, tx.extract to.toNat rb.toNat⟩]) ++ rst tx size n ra rb R (k + 1)) := Lib.hid (by rw [hxn, HNE.out])
            have HCC : Hid (#[Value.int .i64 fr, Value.int .i64 ra, Value.string (tx.extract to.toNat rb.toNat)] = (ec ⟨fr, ra, tx.extract to.toNat rb.toNat⟩).toArray) := Lib.hid rfl
            have HAL : Hid (acc.length + 1 ≤ 100000000) := Lib.hid (by omega)
            clear hxn hwn hcase hor hskip
            go_wp2
            go_region_held3 (fun (W : World) => W.cell? ⟨wr.heap.size, 0, none⟩ = some (.int .i64 ra) ∧ W.cell? ⟨wr.heap.size, 1, none⟩ = some (.int .i64 rb)) (go_keep) ((go_loud (refine sp_stepe (w0 := wr) (O := .cells #[.int .i64 ra, .int .i64 rb, .int .i64 0] 66) (by rfl) (.tmp 49) (.tmp 60) (by rfl) (by rfl) HO.out HB.out hbs ⟨fr, ra, tx.extract to.toNat rb.toNat⟩ (by rfl) (HCC.out) HAL.out ?_); intro v2 w2 hO2 hb2 hbs2 hce; have HO2 := Lib.hid hO2; have k0 := (hce 0).trans (rowc wr #[.int .i64 ra, .int .i64 rb, .int .i64 0] 66 (j := 0) (u := .int .i64 ra) rfl); have k1 := (hce 1).trans (rowc wr #[.int .i64 ra, .int .i64 rb, .int .i64 0] 66 (j := 1) (u := .int .i64 rb) rfl); have k2 := (hce 2).trans (rowc wr #[.int .i64 ra, .int .i64 rb, .int .i64 0] 66 (j := 2) (u := .int .i64 0) rfl); clear hO2 hce))
            all_goals
              go_wp2
              go_quiet (fail)
              go_wp2
              exact ⟨⟨k + 1, ra, rb, acc ++ [⟨fr, ra, tx.extract to.toNat rb.toNat⟩], by omega, by go_num, rfl, rfl, by simp; omega, HWN, Lib.hid (ow_ed HO2.out _), Lib.hid (below_N hb2 _), hbs2, HXN⟩, by simp [intOf]; omega⟩
          · by_cases h2 : to < rb
            · have hor : fr < ra ∨ to < rb := .inr h2
              have HNE : Hid (ne1 tx fr to ⟨ra, rb, 0⟩ = [⟨fr, ra, tx.extract to.toNat rb.toNat⟩]) := Lib.hid (ne1_yes hor)
              have HXN : Hid (nm tx size 0 0 R = (acc ++ [⟨fr, ra, tx.extract to.toNat rb.toNat⟩]) ++ rst tx size n ra rb R (k + 1)) := Lib.hid (by rw [hxn, HNE.out])
              have HCC : Hid (#[Value.int .i64 fr, Value.int .i64 ra, Value.string (tx.extract to.toNat rb.toNat)] = (ec ⟨fr, ra, tx.extract to.toNat rb.toNat⟩).toArray) := Lib.hid rfl
              have HAL : Hid (acc.length + 1 ≤ 100000000) := Lib.hid (by omega)
              clear hxn hwn hcase hor hskip
              go_wp2
              go_region_held3 (fun (W : World) => W.cell? ⟨wr.heap.size, 0, none⟩ = some (.int .i64 ra) ∧ W.cell? ⟨wr.heap.size, 1, none⟩ = some (.int .i64 rb)) (go_keep) ((go_loud (refine sp_stepe (w0 := wr) (O := .cells #[.int .i64 ra, .int .i64 rb, .int .i64 0] 66) (by rfl) (.tmp 49) (.tmp 60) (by rfl) (by rfl) HO.out HB.out hbs ⟨fr, ra, tx.extract to.toNat rb.toNat⟩ (by rfl) (HCC.out) HAL.out ?_); intro v2 w2 hO2 hb2 hbs2 hce; have HO2 := Lib.hid hO2; have k0 := (hce 0).trans (rowc wr #[.int .i64 ra, .int .i64 rb, .int .i64 0] 66 (j := 0) (u := .int .i64 ra) rfl); have k1 := (hce 1).trans (rowc wr #[.int .i64 ra, .int .i64 rb, .int .i64 0] 66 (j := 1) (u := .int .i64 rb) rfl); have k2 := (hce 2).trans (rowc wr #[.int .i64 ra, .int .i64 rb, .int .i64 0] 66 (j := 2) (u := .int .i64 0) rfl); clear hO2 hce))
              all_goals
                go_wp2
                go_quiet (fail)
                go_wp2
                exact ⟨⟨k + 1, ra, rb, acc ++ [⟨fr, ra, tx.extract to.toNat rb.toNat⟩], by omega, by go_num, rfl, rfl, by simp; omega, HWN, Lib.hid (ow_ed HO2.out _), Lib.hid (below_N hb2 _), hbs2, HXN⟩, by simp [intOf]; omega⟩
            · skip
              have HNE : Hid (ne1 tx fr to ⟨ra, rb, 0⟩ = []) := Lib.hid (ne1_no (by intro h; rcases h with h | h <;> simp only at h <;> omega))
              have HXN : Hid (nm tx size 0 0 R = acc ++ rst tx size n ra rb R (k + 1)) := Lib.hid (by rw [hxn, HNE.out, List.append_nil])
              clear hxn hwn hcase hskip
              go_wp2
              go_quiet (fail)
              go_wp2
              exact ⟨⟨k + 1, ra, rb, acc, by omega, by go_num, rfl, rfl, by omega, HWN, Lib.hid (ow_ed (HO.out.alloc _) _), Lib.hid (below_N (HB.out.alloc hbs _) _), by simp; omega, HXN⟩, by simp [intOf]; omega⟩
        · have hzb : (rcc == 0) = false := by rw [beq_eq_false_iff_ne]; exact hz
          by_cases h1 : fr < ra
          · have hor : fr < ra ∨ to < rb := .inl h1
            have HNE : Hid (ne1 tx fr to ⟨ra, rb, rcc⟩ = [⟨fr, ra, tx.extract to.toNat rb.toNat⟩]) := Lib.hid (ne1_yes hor)
            have HXN : Hid (nm tx size 0 0 R = (acc ++ [⟨fr, ra, tx.extract to.toNat rb.toNat⟩]) ++ rst tx size n (ra + rcc) (rb + rcc) R (k + 1)) := Lib.hid (by rw [hxn, HNE.out])
            have HCC : Hid (#[Value.int .i64 fr, Value.int .i64 ra, Value.string (tx.extract to.toNat rb.toNat)] = (ec ⟨fr, ra, tx.extract to.toNat rb.toNat⟩).toArray) := Lib.hid rfl
            have HAL : Hid (acc.length + 1 ≤ 100000000) := Lib.hid (by omega)
            clear hxn hwn hcase hor hskip
            go_wp2
            go_region_held3 (fun (W : World) => W.cell? ⟨wr.heap.size, 0, none⟩ = some (.int .i64 ra) ∧ W.cell? ⟨wr.heap.size, 1, none⟩ = some (.int .i64 rb)) (go_keep) ((go_loud (refine sp_stepe (w0 := wr) (O := .cells #[.int .i64 ra, .int .i64 rb, .int .i64 rcc] 66) (by rfl) (.tmp 49) (.tmp 60) (by rfl) (by rfl) HO.out HB.out hbs ⟨fr, ra, tx.extract to.toNat rb.toNat⟩ (by rfl) (HCC.out) HAL.out ?_); intro v2 w2 hO2 hb2 hbs2 hce; have HO2 := Lib.hid hO2; have k0 := (hce 0).trans (rowc wr #[.int .i64 ra, .int .i64 rb, .int .i64 rcc] 66 (j := 0) (u := .int .i64 ra) rfl); have k1 := (hce 1).trans (rowc wr #[.int .i64 ra, .int .i64 rb, .int .i64 rcc] 66 (j := 1) (u := .int .i64 rb) rfl); have k2 := (hce 2).trans (rowc wr #[.int .i64 ra, .int .i64 rb, .int .i64 rcc] 66 (j := 2) (u := .int .i64 rcc) rfl); clear hO2 hce))
            all_goals
              go_wp2
              go_quiet (fail)
              go_wp2
              exact ⟨⟨k + 1, (ra + rcc), (rb + rcc), acc ++ [⟨fr, ra, tx.extract to.toNat rb.toNat⟩], by omega, by go_num, rfl, rfl, by simp; omega, HWN, Lib.hid (ow_ed HO2.out _), Lib.hid (below_N hb2 _), hbs2, HXN⟩, by simp [intOf]; omega⟩
          · by_cases h2 : to < rb
            · have hor : fr < ra ∨ to < rb := .inr h2
              have HNE : Hid (ne1 tx fr to ⟨ra, rb, rcc⟩ = [⟨fr, ra, tx.extract to.toNat rb.toNat⟩]) := Lib.hid (ne1_yes hor)
              have HXN : Hid (nm tx size 0 0 R = (acc ++ [⟨fr, ra, tx.extract to.toNat rb.toNat⟩]) ++ rst tx size n (ra + rcc) (rb + rcc) R (k + 1)) := Lib.hid (by rw [hxn, HNE.out])
              have HCC : Hid (#[Value.int .i64 fr, Value.int .i64 ra, Value.string (tx.extract to.toNat rb.toNat)] = (ec ⟨fr, ra, tx.extract to.toNat rb.toNat⟩).toArray) := Lib.hid rfl
              have HAL : Hid (acc.length + 1 ≤ 100000000) := Lib.hid (by omega)
              clear hxn hwn hcase hor hskip
              go_wp2
              go_region_held3 (fun (W : World) => W.cell? ⟨wr.heap.size, 0, none⟩ = some (.int .i64 ra) ∧ W.cell? ⟨wr.heap.size, 1, none⟩ = some (.int .i64 rb)) (go_keep) ((go_loud (refine sp_stepe (w0 := wr) (O := .cells #[.int .i64 ra, .int .i64 rb, .int .i64 rcc] 66) (by rfl) (.tmp 49) (.tmp 60) (by rfl) (by rfl) HO.out HB.out hbs ⟨fr, ra, tx.extract to.toNat rb.toNat⟩ (by rfl) (HCC.out) HAL.out ?_); intro v2 w2 hO2 hb2 hbs2 hce; have HO2 := Lib.hid hO2; have k0 := (hce 0).trans (rowc wr #[.int .i64 ra, .int .i64 rb, .int .i64 rcc] 66 (j := 0) (u := .int .i64 ra) rfl); have k1 := (hce 1).trans (rowc wr #[.int .i64 ra, .int .i64 rb, .int .i64 rcc] 66 (j := 1) (u := .int .i64 rb) rfl); have k2 := (hce 2).trans (rowc wr #[.int .i64 ra, .int .i64 rb, .int .i64 rcc] 66 (j := 2) (u := .int .i64 rcc) rfl); clear hO2 hce))
              all_goals
                go_wp2
                go_quiet (fail)
                go_wp2
                exact ⟨⟨k + 1, (ra + rcc), (rb + rcc), acc ++ [⟨fr, ra, tx.extract to.toNat rb.toNat⟩], by omega, by go_num, rfl, rfl, by simp; omega, HWN, Lib.hid (ow_ed HO2.out _), Lib.hid (below_N hb2 _), hbs2, HXN⟩, by simp [intOf]; omega⟩
            · skip
              have HNE : Hid (ne1 tx fr to ⟨ra, rb, rcc⟩ = []) := Lib.hid (ne1_no (by intro h; rcases h with h | h <;> simp only at h <;> omega))
              have HXN : Hid (nm tx size 0 0 R = acc ++ rst tx size n (ra + rcc) (rb + rcc) R (k + 1)) := Lib.hid (by rw [hxn, HNE.out, List.append_nil])
              clear hxn hwn hcase hskip
              go_wp2
              go_quiet (fail)
              go_wp2
              exact ⟨⟨k + 1, (ra + rcc), (rb + rcc), acc, by omega, by go_num, rfl, rfl, by omega, HWN, Lib.hid (ow_ed (HO.out.alloc _) _), Lib.hid (below_N (HB.out.alloc hbs _) _), by simp; omega, HXN⟩, by simp [intOf]; omega⟩
    · obtain rfl : k = n + 1 := by omega
      have HFIN : Hid (nm tx size 0 0 R = acc) := Lib.hid (by rw [HX.out]; unfold rst; rw [if_neg (by omega), List.append_nil])
      have hbl : Below w.heap.size w wr := hb'.trans (HB.out.mono hwB)
      go_wp2
      go_ret
      exact ⟨_, rfl, hbl, by rw [HFIN.out]; exact ow_le HO.out hwB⟩
end Go.Proofs.Ytdgoblapmjpcaaa.Sp
