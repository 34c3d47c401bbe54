/-
  Package span: the reference's Between, walked.
-/
import Derived.Test.YtdgoblapmjpcaaaSpS
namespace Go.Proofs.Ytdgoblapmjpcaaa.Sp
open Go.RowKit
set_option linter.unusedVariables false
set_option linter.unusedSimpArgs false
open RO

def ic (x : Int) : List Value := [.int .i64 x]
theorem ic_len (x : Int) : (ic x).length = 1 := rfl
theorem ic_one (x : Int) : ∀ u ∈ ic x, u.oneCell' = true := by
  intro u hu
  simp [ic] at hu
  subst hu
  rfl
theorem sp_ape {ops : Array Oper} {rest : List Oper} {o : Oper} {a : Act} {Q : Exit → Act → World → Prop} (hgd : o.guard = none) (s y : Operand) (ho : o.op = .call { callee := .builtin .append, args := #[s, y], argTypes := #[22, 22] })
    {W w : World} {base : Nat} {v : Value} {L : List Ed} (hs : a.eval s = v) (hB : Ow ec 3 50 w base v L) (hb : Below base W w) (hbs : base ≤ w.heap.size) (x : Ed) {C : Array Value} {c : Nat} (hx : a.eval y = .slice (some ⟨w.heap.size, 0, none⟩) 1 c) (hC : C = (ec x).toArray) (hlen : L.length + 1 ≤ 100000000)
    (h : ∀ v' w', Ow ec 3 50 w' base v' (L ++ [x]) → Below base W w' → base ≤ w'.heap.size → wpList Try.prog ops Q rest (a.put o.dst v') w') : wpList Try.prog ops Q (o :: rest) a (w.alloc (.cells C 50)) :=
  wpList_appo Try.underlying22 info_edit rfl ec_len ec_one (by decide) (by decide) hgd s y ho hs hB hb hbs x hx hC hlen h
/-- What is left at byte k. -/
def btr (κ : Nat → Int) (tx : ByteArray) (n k : Nat) (fr to : Int) : List Ed := if k ≤ n then bt κ tx (n - k) k fr to else []
theorem btr_skip {κ : Nat → Int} {tx : ByteArray} {n k : Nat} {fr to : Int} (hk : k < n) (h : κ k < 0) : btr κ tx n k fr to = btr κ tx n (k + 1) fr to := by
  unfold btr
  rw [if_pos (by omega), if_pos (by omega), show n - k = (n - (k + 1)) + 1 by omega, bt_succ, if_pos h]
theorem btr_take {κ : Nat → Int} {tx : ByteArray} {n k : Nat} {fr to : Int} (hk : k < n) {z : Nat} (h : κ k = z) : btr κ tx n k fr to = ne1 tx fr to ⟨k, z, 0⟩ ++ btr κ tx n (k + 1) (k + 1) (z + 1) := by
  unfold btr
  rw [if_pos (by omega), if_pos (by omega), show n - k = (n - (k + 1)) + 1 by omega, bt_succ, h, if_neg (by omega)]
theorem btr_end {κ : Nat → Int} {tx : ByteArray} {n : Nat} {fr to f t : Int} : btr κ tx n n fr to = ne1 tx fr to ⟨n, tx.size, 0⟩ ++ btr κ tx n (n + 1) f t := by
  unfold btr
  rw [if_pos (Nat.le_refl _), if_neg (by omega), Nat.sub_self, List.append_nil]
  rfl
set_option maxRecDepth 100000 in
set_option maxHeartbeats 8000000 in
theorem rbetween_any (src tx : ByteArray) (v : Value) (Ks : List Int) (w : World) (hv : Rd ic 1 w w.heap.size v Ks) (hl : Ks.length = src.size) (hs : src.size ≤ 1048576) (ht : tx.size ≤ 1048576) (κ : Nat → Int) (hκ : ∀ (j : Nat) (x : Int), Ks[j]? = some x → κ j = x) (hlt : ∀ j, j < src.size → κ j < tx.size) (hlo : ∀ j, j < src.size → -1 ≤ κ j) (hmono : ∀ i j, i < j → j < src.size → 0 ≤ κ i → 0 ≤ κ j → κ i < κ j) : Calls Try.prog 35 #[.string src, .string tx, v] w (NormPost (bt κ tx src.size 0 0 0) w) := by
  obtain ⟨n, hn⟩ : ∃ n, src.size = n := ⟨_, rfl⟩
  obtain ⟨tz, htz⟩ : ∃ tz, tx.size = tz := ⟨_, rfl⟩
  rw [hn] at hl hs hlt hlo hmono ⊢
  rw [htz] at hlt ht
  have hcells : ∀ wr, Below w.heap.size w wr → ∀ k, k < n → ∃ (g o cap : Nat), v = .slice (some ⟨g, o, none⟩) n cap ∧ n ≤ cap ∧ g < w.heap.size ∧ wr.cell? ⟨g, o + k, none⟩ = some (.int .i64 (κ k)) := by
    intro wr hb k hk
    obtain ⟨g, o, cap, hvv, hg, hc, _, hcell⟩ := Rd.at_ hv (by omega)
    rw [hl] at hvv hc
    obtain ⟨x, hx⟩ : ∃ x, Ks[k]? = some x := ⟨Ks[k]'(by omega), List.getElem?_eq_getElem _⟩
    have hcc := hcell k x 0 _ hx rfl
    rw [← hκ k x hx, Nat.mul_one, Nat.add_zero] at hcc
    exact ⟨g, o, cap, hvv, hc, hg, (hb.cell (p := ⟨g, o + k, none⟩) hg).trans hcc⟩
  have HCE := Lib.hid hcells
  have HM := Lib.hid hmono
  have HLT := Lib.hid hlt
  have HLO := Lib.hid hlo
  have HTZ := Lib.hid htz
  have HSZ := Lib.hid hn
  have HB0 : Hid (Below w.heap.size w w) := Lib.hid (Below.refl _ _)
  clear hcells hmono hlt hlo hκ hv hl
  go_enter Try.func35, Try.ntmps35
  go_wp2
  go_loopw [7, 8, 9, 10] (fun lv f t kv wr => ∃ (k : Nat) (fr to : Int) (acc : List Ed), k ≤ n + 1 ∧ kv = .int .i64 k ∧ f = .int .i64 fr ∧ t = .int .i64 to ∧ acc.length ≤ k ∧ 0 ≤ fr ∧ fr ≤ k ∧ 0 ≤ to ∧ to ≤ tz + 1 ∧ Hid ((∀ j, k ≤ j → j < n → 0 ≤ κ j → to ≤ κ j) ∧ (k ≤ n → to ≤ tz)) ∧ Hid (Ow ec 3 50 wr w.heap.size lv acc) ∧ Hid (Below w.heap.size w wr) ∧ w.heap.size ≤ wr.heap.size ∧ Hid (bt κ tx n 0 0 0 = acc ++ btr κ tx n k fr to)) (fun _ _ _ kv _ => n + 1 - (intOf kv).toNat)
  case atStart => exact ⟨0, 0, 0, [], by omega, rfl, rfl, rfl, by simp, by omega, by omega, by omega, by omega, Lib.hid ⟨fun j _ _ h => h, fun _ => by omega⟩, Lib.hid (Ow.nil _ _), HB0, Nat.le_refl _, Lib.hid (by unfold btr; rw [if_pos (by omega)]; rfl)⟩
  case round =>
    obtain ⟨k, fr, to, acc, hk, rfl, rfl, rfl, ha, f0, f1, t0, t1, HT, HO, HB, hbs, HX⟩ := hrel
    by_cases hkn : k < n
    · obtain ⟨g, o, cap, rfl, hcap, hg, c0⟩ := HCE.out wr HB.out k hkn
      by_cases hz : κ k < 0
      · have HX2 : Hid (bt κ tx n 0 0 0 = acc ++ btr κ tx n (k + 1) fr to) := Lib.hid (by rw [HX.out, btr_skip hkn hz])
        have HT2 : Hid ((∀ j, k + 1 ≤ j → j < n → 0 ≤ κ j → to ≤ κ j) ∧ (k + 1 ≤ n → to ≤ tz)) := Lib.hid ⟨fun j h1 h2 h3 => HT.out.1 j (by omega) h2 h3, fun _ => HT.out.2 (by omega)⟩
        have hlo := HLO.out k hkn
        go_wp2
        exact ⟨⟨k + 1, fr, to, acc, by omega, by go_num, rfl, rfl, by omega, by omega, by omega, by omega, by omega, HT2, HO, HB, hbs, HX2⟩, by simp [intOf] <;> omega⟩
      · obtain ⟨z, hzz⟩ : ∃ z : Nat, κ k = z := ⟨(κ k).toNat, by omega⟩
        have hzt := HLT.out k hkn
        have htoz := HT.out.1 k (Nat.le_refl _) hkn (by omega)
        have HT2 : Hid ((∀ j, k + 1 ≤ j → j < n → 0 ≤ κ j → ((z : Int) + 1) ≤ κ j) ∧ (k + 1 ≤ n → ((z : Int) + 1) ≤ tz)) := Lib.hid ⟨fun j h1 h2 h3 => by have := HM.out k j (by omega) h2 (by omega) h3; omega, fun _ => by omega⟩
        have hxn : bt κ tx n 0 0 0 = acc ++ (ne1 tx fr to ⟨k, z, 0⟩ ++ btr κ tx n (k + 1) (k + 1) (z + 1)) := by rw [HX.out, btr_take hkn hzz]
        rw [hzz] at c0 hzt htoz
        have hztx : z ≤ tx.size := by rw [HTZ.out]; omega
        clear hz hzz
        by_cases h1 : fr < k
        · have hor : fr < k ∨ to < z := .inl h1
          have HNE : Hid (ne1 tx fr to ⟨k, z, 0⟩ = [⟨fr, k, tx.extract to.toNat z⟩]) := Lib.hid (by rw [ne1_yes hor]; rfl)
          have HXN : Hid (bt κ tx n 0 0 0 = (acc ++ [⟨fr, k, tx.extract to.toNat z⟩]) ++ btr κ tx n (k + 1) (k + 1) (z + 1)) := Lib.hid (by rw [hxn, HNE.out, List.append_assoc])
          have HAL : Hid (acc.length + 1 ≤ 100000000) := Lib.hid (by omega)
          clear hxn hor
          go_wp2_with (at_builtin; go_loud (refine sp_ape (by rfl) (.tmp 38) (.tmp 47) (by rfl) (by rfl) HO.out HB.out hbs ⟨fr, k, tx.extract to.toNat z⟩ (by rfl) (by rfl) HAL.out ?_); intro v2 w2 hO2 hb2 hbs2; have HO2 := Lib.hid hO2; have HB2 := Lib.hid hb2; clear hO2 hb2)
          exact ⟨⟨k + 1, k + 1, z + 1, _, by omega, by go_num, by go_num, by go_num, by simp; omega, by omega, by omega, by omega, by omega, HT2, HO2, HB2, hbs2, HXN⟩, by simp [intOf] <;> omega⟩
        · by_cases h2 : to < z
          · have hor : fr < k ∨ to < z := .inr h2
            have HNE : Hid (ne1 tx fr to ⟨k, z, 0⟩ = [⟨fr, k, tx.extract to.toNat z⟩]) := Lib.hid (by rw [ne1_yes hor]; rfl)
            have HXN : Hid (bt κ tx n 0 0 0 = (acc ++ [⟨fr, k, tx.extract to.toNat z⟩]) ++ btr κ tx n (k + 1) (k + 1) (z + 1)) := Lib.hid (by rw [hxn, HNE.out, List.append_assoc])
            have HAL : Hid (acc.length + 1 ≤ 100000000) := Lib.hid (by omega)
            clear hxn hor
            go_wp2_with (at_builtin; go_loud (refine sp_ape (by rfl) (.tmp 38) (.tmp 47) (by rfl) (by rfl) HO.out HB.out hbs ⟨fr, k, tx.extract to.toNat z⟩ (by rfl) (by rfl) HAL.out ?_); intro v2 w2 hO2 hb2 hbs2; have HO2 := Lib.hid hO2; have HB2 := Lib.hid hb2; clear hO2 hb2)
            exact ⟨⟨k + 1, k + 1, z + 1, _, by omega, by go_num, by go_num, by go_num, by simp; omega, by omega, by omega, by omega, by omega, HT2, HO2, HB2, hbs2, HXN⟩, by simp [intOf] <;> omega⟩
          · skip
            have HNE : Hid (ne1 tx fr to ⟨k, z, 0⟩ = []) := Lib.hid (ne1_no (by intro h; rcases h with h | h <;> simp only at h <;> omega))
            have HXN : Hid (bt κ tx n 0 0 0 = acc ++ btr κ tx n (k + 1) (k + 1) (z + 1)) := Lib.hid (by rw [hxn, HNE.out, List.nil_append])
            clear hxn
            go_wp2
            exact ⟨⟨k + 1, k + 1, z + 1, acc, by omega, by go_num, by go_num, by go_num, by omega, by omega, by omega, by omega, by omega, HT2, HO, HB, hbs, HXN⟩, by simp [intOf] <;> omega⟩
    · by_cases hke : k = n
      · subst hke
        have htz := HTZ.out
        subst htz
        have htoz := HT.out.2 (Nat.le_refl _)
        have HT2 : Hid ((∀ j, k + 1 ≤ j → j < k → 0 ≤ κ j → ((tx.size : Int) + 1) ≤ κ j) ∧ (k + 1 ≤ k → ((tx.size : Int) + 1) ≤ tx.size)) := Lib.hid ⟨fun j h1 h2 h3 => by omega, fun _ => by omega⟩
        have hxn : bt κ tx k 0 0 0 = acc ++ (ne1 tx fr to ⟨k, tx.size, 0⟩ ++ btr κ tx k (k + 1) (k + 1) (tx.size + 1)) := by rw [HX.out, btr_end (f := k + 1) (t := tx.size + 1)]
        have hsz := HSZ.out
        by_cases h1 : fr < k
        · have hor : fr < k ∨ to < tx.size := .inl h1
          have HNE : Hid (ne1 tx fr to ⟨k, tx.size, 0⟩ = [⟨fr, k, tx.extract to.toNat tx.size⟩]) := Lib.hid (by rw [ne1_yes hor]; rfl)
          have HXN : Hid (bt κ tx k 0 0 0 = (acc ++ [⟨fr, k, tx.extract to.toNat tx.size⟩]) ++ btr κ tx k (k + 1) (k + 1) (tx.size + 1)) := Lib.hid (by rw [hxn, HNE.out, List.append_assoc])
          have HAL : Hid (acc.length + 1 ≤ 100000000) := Lib.hid (by omega)
          clear hxn hor
          go_wp2_with (at_builtin; go_loud (refine sp_ape (by rfl) (.tmp 38) (.tmp 47) (by rfl) (by rfl) HO.out HB.out hbs ⟨fr, k, tx.extract to.toNat tx.size⟩ (by rfl) (by rfl) HAL.out ?_); intro v2 w2 hO2 hb2 hbs2; have HO2 := Lib.hid hO2; have HB2 := Lib.hid hb2; clear hO2 hb2)
          exact ⟨⟨k + 1, k + 1, tx.size + 1, _, by omega, by go_num, by go_num, by go_num, by simp; omega, by omega, by omega, by omega, by omega, HT2, HO2, HB2, hbs2, HXN⟩, by simp [intOf] <;> omega⟩
        · by_cases h2 : to < tx.size
          · have hor : fr < k ∨ to < tx.size := .inr h2
            have HNE : Hid (ne1 tx fr to ⟨k, tx.size, 0⟩ = [⟨fr, k, tx.extract to.toNat tx.size⟩]) := Lib.hid (by rw [ne1_yes hor]; rfl)
            have HXN : Hid (bt κ tx k 0 0 0 = (acc ++ [⟨fr, k, tx.extract to.toNat tx.size⟩]) ++ btr κ tx k (k + 1) (k + 1) (tx.size + 1)) := Lib.hid (by rw [hxn, HNE.out, List.append_assoc])
            have HAL : Hid (acc.length + 1 ≤ 100000000) := Lib.hid (by omega)
            clear hxn hor
            go_wp2_with (at_builtin; go_loud (refine sp_ape (by rfl) (.tmp 38) (.tmp 47) (by rfl) (by rfl) HO.out HB.out hbs ⟨fr, k, tx.extract to.toNat tx.size⟩ (by rfl) (by rfl) HAL.out ?_); intro v2 w2 hO2 hb2 hbs2; have HO2 := Lib.hid hO2; have HB2 := Lib.hid hb2; clear hO2 hb2)
            exact ⟨⟨k + 1, k + 1, tx.size + 1, _, by omega, by go_num, by go_num, by go_num, by simp; omega, by omega, by omega, by omega, by omega, HT2, HO2, HB2, hbs2, HXN⟩, by simp [intOf] <;> omega⟩
          · skip
            have HNE : Hid (ne1 tx fr to ⟨k, tx.size, 0⟩ = []) := Lib.hid (ne1_no (by intro h; rcases h with h | h <;> simp only at h <;> omega))
            have HXN : Hid (bt κ tx k 0 0 0 = acc ++ btr κ tx k (k + 1) (k + 1) (tx.size + 1)) := Lib.hid (by rw [hxn, HNE.out, List.nil_append])
            clear hxn
            go_wp2
            exact ⟨⟨k + 1, k + 1, tx.size + 1, acc, by omega, by go_num, by go_num, by go_num, by omega, by omega, by omega, by omega, by omega, HT2, HO, HB, hbs, HXN⟩, by simp [intOf] <;> omega⟩
      · obtain rfl : k = n + 1 := by omega
        have HFIN : Hid (bt κ tx n 0 0 0 = acc) := Lib.hid (by rw [HX.out]; unfold btr; rw [if_neg (by omega), List.append_nil])
        go_wp2
        go_ret
        exact ⟨_, rfl, HB.out, by rw [HFIN.out]; exact HO.out⟩
end Go.Proofs.Ytdgoblapmjpcaaa.Sp
