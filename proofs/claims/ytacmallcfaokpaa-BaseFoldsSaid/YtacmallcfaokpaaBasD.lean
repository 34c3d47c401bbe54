/-
  Contracts of package base and its reference: base64 written.
-/
import Derived.Test.YtacmallcfaokpaaBasC
namespace Go.Proofs.Ytacmallcfaokpaa.Bas
open Go.RowKit
set_option linter.unusedVariables false
set_option linter.unusedSimpArgs false

def T64 : ByteArray := ⟨#[65, 66, 67, 68, 69, 70, 71, 72, 73, 74, 75, 76, 77, 78, 79, 80, 81, 82, 83, 84, 85, 86, 87, 88, 89, 90, 97, 98, 99, 100, 101, 102, 103, 104, 105, 106, 107, 108, 109, 110, 111, 112, 113, 114, 115, 116, 117, 118, 119, 120, 121, 122, 48, 49, 50, 51, 52, 53, 54, 55, 56, 57, 43, 47]⟩
def td (n : Nat) : UInt8 := T64.data.toList.getD n 0
theorem td_at {n : Nat} (h : n < T64.size) : (T64[n]).toNat = (td n).toNat := by
  unfold td
  rw [List.getD_eq_getElem?_getD, List.getElem?_eq_getElem (by exact h)]
  rfl
theorem td_cells {p : Nat} (hp : p < T64.size) : #[Value.int .u8 (T64[p]).toNat] = (bc [td p]).toArray := by
  rw [td_at hp]; rfl
/-- The first q digits of the text of bytes. -/
def fd (l : List UInt8) (q : Nat) : List UInt8 := (List.range q).map fun j => td (vl (bt l) (6 * j) 6)
theorem fd_succ (l : List UInt8) (q : Nat) : fd l (q + 1) = fd l q ++ [td (vl (bt l) (6 * q) 6)] := by simp [fd, List.range_succ]
theorem fd_len (l : List UInt8) (q : Nat) : (fd l q).length = q := by simp [fd]
def encL (l : List UInt8) : List UInt8 := fd l ((8 * l.length + 5) / 6)
def pads (pad : Bool) (n : Nat) : Nat := if pad = true then (4 - n % 4) % 4 else 0
def encP (l : List UInt8) (pad : Bool) : List UInt8 := encL l ++ List.replicate (pads pad (encL l).length) 61
theorem encL_len (l : List UInt8) : (encL l).length = (8 * l.length + 5) / 6 := fd_len _ _
theorem and_mask (x i : Nat) (hi : i ≤ 62) (hx : x < 2 ^ 62) : bits .and .i64 (x : Int) (((2 ^ i : Nat) : Int) - 1) = ((x % 2 ^ i : Nat) : Int) := by
  have := band i hi (x := (x : Int)) (by omega) (by exact_mod_cast hx)
  rw [show (((2 ^ i : Nat) : Int) - 1) = 2 ^ i - 1 by rw [Int.natCast_pow]; rfl, this, Int.natCast_emod, Int.natCast_pow]; rfl
theorem and63 (x : Nat) (hx : x < 100000) : bits .and .i64 (x : Int) 63 = ((x % 64 : Nat) : Int) := and_mask x 6 (by omega) (by omega)
theorem and15' (x : Nat) (hx : x < 100000) : bits .and .i64 (x : Int) 15 = ((x % 16 : Nat) : Int) := and_mask x 4 (by omega) (by omega)
theorem and3 (x : Nat) (hx : x < 100000) : bits .and .i64 (x : Int) 3 = ((x % 4 : Nat) : Int) := and_mask x 2 (by omega) (by omega)
theorem and0 (x : Nat) (hx : x < 100000) : bits .and .i64 (x : Int) 0 = 0 := by
  have := and_mask x 0 (by omega) (by omega)
  simpa [Nat.mod_one] using this
theorem or8 {h d : Nat} (hh : h < 10000) (hd : d < 256) : bits .or .i64 ((h : Int) * 256) (d : Int) = ((h * 256 + d : Nat) : Int) := by
  rw [bor 8 (by omega) (by omega) (by omega) (by omega) (by omega) (by omega)]
  omega
/-- What a byte adds to the bits that are left. -/
theorem vl_push (l : List UInt8) (k r q : Nat) (h : 6 * q + r = 8 * k) : vl (bt l) (6 * q) r * 256 + (l.getD k 0).toNat = vl (bt l) (6 * q) (r + 8) := by
  rw [vl_add, h, vl_bt]
theorem digit_at (l : List UInt8) (q j m r : Nat) (h : r + 8 = 6 * (j - q) + 6 + m) (hq : q ≤ j) : vl (bt l) (6 * q) (r + 8) / 2 ^ m % 64 = vl (bt l) (6 * j) 6 := by
  have := vl_mid (bt_bit l) (6 * q) (6 * (j - q)) 6 m
  rw [← h, show 6 * q + 6 * (j - q) = 6 * j by omega] at this
  exact this
theorem low_at (l : List UInt8) (q j m r : Nat) (h : r + 8 = 6 * (j - q) + m) (hq : q ≤ j) : vl (bt l) (6 * q) (r + 8) % 2 ^ m = vl (bt l) (6 * j) m := by
  have := vl_low (bt_bit l) (6 * q) (6 * (j - q)) m
  rw [← h, show 6 * q + 6 * (j - q) = 6 * j by omega] at this
  exact this
theorem last_at (l : List UInt8) (q r : Nat) (h : 6 * q + r = 8 * l.length) (hr : r ≤ 6) : vl (bt l) (6 * q) r * 2 ^ (6 - r) % 64 = vl (bt l) (6 * q) 6 := by
  have e := vl_add (bt l) (6 * q) r (6 - r)
  rw [show r + (6 - r) = 6 by omega, vl_zero (i := 6 * q + r) (fun k h1 h2 => bt_end (by omega)), Nat.add_zero] at e
  rw [← e]
  exact Nat.mod_eq_of_lt (vl_lt (bt_bit l) _ 6)
theorem Buf.len {w : World} {base : Nat} {v : Value} {row : List UInt8} (h : Buf w base v row) {n : Nat} (hn : row.length = n) : ∃ a cap, v = .slice a n cap := by
  subst hn
  rcases h.form with ⟨h1, h2⟩ | ⟨g, cap, h1, _⟩
  · subst h2; exact ⟨_, _, h1⟩
  · exact ⟨_, _, h1⟩
def slen : Value → Nat
  | .slice _ n _ => n
  | _ => 0
theorem Buf.slen {w : World} {base : Nat} {v : Value} {row : List UInt8} (h : Buf w base v row) {n : Nat} (hn : row.length = n) : slen v = n := by
  obtain ⟨a, cap, rfl⟩ := h.len hn; rfl
theorem Buf.run_len {w : World} {base : Nat} {v : Value} {row : List UInt8} (h : Buf w base v row) {n : Nat} (hn : row.length = n) : ∀ (ty : TypeId) (w' : World), (Builtin.len_ #[22] ty #[v]).run Try.prog w' = .ok (.int .i64 n) w' := by
  obtain ⟨a, cap, rfl⟩ := h.len hn
  intro ty w'
  exact run_len_slice w' 22 ty a n cap Try.underlying22
def encR (l : List UInt8) (p : Nat) : List UInt8 := encL l ++ List.replicate p 61
theorem encR_len {l : List UInt8} {p N : Nat} (h : (encL l).length = N) : (encR l p).length = N + p := by simp [encR, h]
theorem encR_succ (l : List UInt8) (p : Nat) : encR l (p + 1) = encR l p ++ [61] := by
  unfold encR; rw [List.replicate_succ', List.append_assoc]
theorem encR_0 (l : List UInt8) : encR l 0 = encL l := by simp [encR]
set_option maxRecDepth 100000 in
set_option maxHeartbeats 4000000 in
theorem enc_row (g o cap : Nat) (l : List UInt8) (pad : Bool) (w : World) (hl : l.length ≤ 4000) (hg : g < w.heap.size) (hc : ∀ i, i < l.length → w.cell? ⟨g, o + i, none⟩ = some (.int .u8 ((l.getD i 0).toNat : Int))) (hcap : l.length ≤ cap) : Calls Try.prog 16 #[.slice (some ⟨g, o, none⟩) l.length cap, .bool pad] w fun e w' => e = .returned (.string ⟨(encP l pad).toArray⟩) ∧ Below w.heap.size w w' := by
  obtain ⟨n, hn⟩ : ∃ n, l.length = n := ⟨_, rfl⟩
  rw [hn] at hl hcap hc ⊢
  have hmk : ∀ w : World, (Instr.makeSlice 22 (.int .i64 0) (.int .i64 (((n : Int) + 2) / 3 * 4))).run Try.prog w = .ok (.slice (some ⟨w.heap.size, 0, none⟩) 0 ((n + 2) / 3 * 4)) (w.alloc (.cells (madeCells #[.int .u8 0] ((n + 2) / 3 * 4)) 5)) := fun w => mk_room ((n + 2) / 3 * 4) (by omega) w
  have HC := Lib.hid hc
  have HN := Lib.hid hn
  clear hc hn
  go_enter Try.func16, Try.ntmps16
  go_wp2
  go_loopw [5, 6, 7, 18] (fun t b m i wr => ∃ k q r : Nat, k ≤ n ∧ i = .int .i64 k ∧ 6 * q + r = 8 * k ∧ r < 6 ∧ m = .int .i64 r ∧ b = .int .i64 (vl (bt l) (6 * q) r : Nat) ∧ Below w.heap.size w wr ∧ w.heap.size ≤ wr.heap.size ∧ Hid (Buf wr w.heap.size t (fd l q))) (fun _ _ _ i _ => n - (intOf i).toNat)
  case atStart => exact ⟨0, 0, 0, by omega, rfl, rfl, by omega, rfl, rfl, (Below.refl _ _).alloc (Nat.le_refl _) _, by simp, Lib.hid (Buf.room w _ (by omega))⟩
  case round =>
    obtain ⟨k, q, r, hk, rfl, hqr, hr6, rfl, rfl, hb, hbs, HB⟩ := hrel
    by_cases hlt : k < n
    · have hcell := HC.out k hlt
      have hcell2 := (hb.cell (p := ⟨g, o + k, none⟩) hg).trans hcell
      clear hcell
      have HV := Lib.hid (vl_push l k r q hqr)
      have hV := vl_lt (bt_bit l) (6 * q) (r + 8)
      have hB0 := vl_lt (bt_bit l) (6 * q) r
      have hx := UInt8.toNat_lt (l.getD k 0)
      generalize (l.getD k 0).toNat = x at *
      obtain ⟨B, HBv⟩ : ∃ B, Hid (vl (bt l) (6 * q) r = B) := ⟨_, Lib.hid rfl⟩
      obtain ⟨V, HVv⟩ : ∃ V, Hid (vl (bt l) (6 * q) (r + 8) = V) := ⟨_, Lib.hid rfl⟩
      rw [HBv.out] at HV hB0 ⊢
      rw [HVv.out] at HV hV
      have hB1 : B < 64 := Nat.lt_of_lt_of_le hB0 (Nat.pow_le_pow_right (by omega) (show r ≤ 6 by omega))
      have hV1 : V < 16384 := Nat.lt_of_lt_of_le hV (Nat.pow_le_pow_right (by omega) (show r + 8 ≤ 14 by omega))
      have ho := or8 (h := B) (d := x) (by omega) (by omega)
      rw [HV.out] at ho
      clear hV hB0
      go_wp2
      obtain ⟨wo, rfl⟩ : ∃ wo : World, wo = wr := ⟨_, rfl⟩
      go_loopw [5, 7] (fun t m wr => ∃ j z : Nat, z + 6 * j = 8 * (k + 1) ∧ q ≤ j ∧ z ≤ 12 ∧ m = .int .i64 z ∧ Below w.heap.size w wr ∧ w.heap.size ≤ wr.heap.size ∧ Hid (Buf wr w.heap.size t (fd l j))) (fun _ m _ => (intOf m).toNat)
      case atStart => exact ⟨q, r + 8, by omega, by omega, by omega, by go_num, hb, hbs, HB⟩
      case round =>
        obtain ⟨j, z, hz, hj, hz12, rfl, hb, hbs, HB⟩ := hrel
        by_cases h6 : 6 ≤ z
        · have hD := digit_at l q j (z - 6) r (by omega) hj
          have hd := vl_lt (bt_bit l) (6 * j) 6
          have HS := Lib.hid (fd_succ l j)
          rw [HVv.out] at hD
          generalize vl (bt l) (6 * j) 6 = d at *
          have hd : d < 64 := hd
          have HX := Lib.hid (td_cells (p := d) hd)
          have HL : Hid ((fd l j).length + [td d].length ≤ 100000000) := Lib.hid (by rw [fd_len]; show _ + 1 ≤ _; omega)
          have b3 : (0 : Int) ≤ (d : Int) := by omega
          have b1 : (d : Int) < 64 := by omega
          rcases (show z = 6 ∨ z = 8 ∨ z = 10 ∨ z = 12 by omega) with rfl | rfl | rfl | rfl
          · have e2 : bits .and .i64 (V : Int) 63 = (d : Int) := by rw [and63 V (by omega), ← hD]; simp
            clear hD
            go_wp2_with (at_builtin; refine wpList_app (by rfl) (.tmp 33) (.tmp 39) (by rfl) (by rfl) HB.out hb hbs [td d] (by rfl) HX.out (by rfl) (by simp) HL.out ?_; intro v' w' hB' hb' hbs'; have HB' := Lib.hid hB'; clear hB')
            exact ⟨⟨j + 1, 0, by omega, by omega, by omega, rfl, hb', hbs', Lib.hid (by rw [HS.out]; exact HB'.out)⟩, by simp [intOf]⟩
          · obtain ⟨P, hP⟩ : ∃ P, V / 4 = P := ⟨_, rfl⟩
            have e1 : (V : Int) / 4 = (P : Int) := by omega
            have e2 : bits .and .i64 (P : Int) 63 = (d : Int) := by rw [and63 P (by omega), ← hD, ← hP]
            clear hD hP
            go_wp2_with (at_builtin; refine wpList_app (by rfl) (.tmp 33) (.tmp 39) (by rfl) (by rfl) HB.out hb hbs [td d] (by rfl) HX.out (by rfl) (by simp) HL.out ?_; intro v' w' hB' hb' hbs'; have HB' := Lib.hid hB'; clear hB')
            exact ⟨⟨j + 1, 2, by omega, by omega, by omega, rfl, hb', hbs', Lib.hid (by rw [HS.out]; exact HB'.out)⟩, by simp [intOf]⟩
          · obtain ⟨P, hP⟩ : ∃ P, V / 16 = P := ⟨_, rfl⟩
            have e1 : (V : Int) / 16 = (P : Int) := by omega
            have e2 : bits .and .i64 (P : Int) 63 = (d : Int) := by rw [and63 P (by omega), ← hD, ← hP]
            clear hD hP
            go_wp2_with (at_builtin; refine wpList_app (by rfl) (.tmp 33) (.tmp 39) (by rfl) (by rfl) HB.out hb hbs [td d] (by rfl) HX.out (by rfl) (by simp) HL.out ?_; intro v' w' hB' hb' hbs'; have HB' := Lib.hid hB'; clear hB')
            exact ⟨⟨j + 1, 4, by omega, by omega, by omega, rfl, hb', hbs', Lib.hid (by rw [HS.out]; exact HB'.out)⟩, by simp [intOf]⟩
          · obtain ⟨P, hP⟩ : ∃ P, V / 64 = P := ⟨_, rfl⟩
            have e1 : (V : Int) / 64 = (P : Int) := by omega
            have e2 : bits .and .i64 (P : Int) 63 = (d : Int) := by rw [and63 P (by omega), ← hD, ← hP]
            clear hD hP
            go_wp2_with (at_builtin; refine wpList_app (by rfl) (.tmp 33) (.tmp 39) (by rfl) (by rfl) HB.out hb hbs [td d] (by rfl) HX.out (by rfl) (by simp) HL.out ?_; intro v' w' hB' hb' hbs'; have HB' := Lib.hid hB'; clear hB')
            exact ⟨⟨j + 1, 6, by omega, by omega, by omega, rfl, hb', hbs', Lib.hid (by rw [HS.out]; exact HB'.out)⟩, by simp [intOf]⟩
        · have hM := low_at l q j z r (by omega) hj
          rw [HVv.out] at hM
          obtain ⟨M, HM⟩ : ∃ M, Hid (vl (bt l) (6 * j) z = M) := ⟨_, Lib.hid rfl⟩
          rw [HM.out] at hM
          rcases (show z = 0 ∨ z = 2 ∨ z = 4 by omega) with rfl | rfl | rfl
          · have e3 : bits .and .i64 (V : Int) 0 = 0 := and0 V (by omega)
            clear hM
            go_wp2
            exact ⟨⟨k + 1, j, 0, by omega, by go_num, by omega, by omega, rfl, rfl, hb, hbs, HB⟩, by simp [intOf]; omega⟩
          · have e3 : bits .and .i64 (V : Int) 3 = (M : Int) := by rw [and3 V (by omega), ← hM]
            clear hM
            go_wp2
            exact ⟨⟨k + 1, j, 2, by omega, by go_num, by omega, by omega, rfl, by rw [HM.out], hb, hbs, HB⟩, by simp [intOf]; omega⟩
          · have e3 : bits .and .i64 (V : Int) 15 = (M : Int) := by rw [and15' V (by omega), ← hM]
            clear hM
            go_wp2
            exact ⟨⟨k + 1, j, 4, by omega, by go_num, by omega, by omega, rfl, by rw [HM.out], hb, hbs, HB⟩, by simp [intOf]; omega⟩
    · obtain rfl : k = n := by omega
      have HEN : ∃ N, Hid ((encL l).length = N) ∧ N ≤ 6000 ∧ 6 * N ≤ 8 * k + 5 := ⟨_, Lib.hid rfl, by rw [encL_len, HN.out]; omega, by rw [encL_len, HN.out]; omega⟩
      obtain ⟨N, HEN, hN, hN2⟩ := HEN
      have HL0 := last_at l q r (by rw [HN.out]; exact hqr) (by omega)
      have hB0 := vl_lt (bt_bit l) (6 * q) r
      have hd := vl_lt (bt_bit l) (6 * q) 6
      have HS := Lib.hid (fd_succ l q)
      obtain ⟨B, HBv⟩ : ∃ B, Hid (vl (bt l) (6 * q) r = B) := ⟨_, Lib.hid rfl⟩
      rw [HBv.out] at HL0 hB0 ⊢
      generalize vl (bt l) (6 * q) 6 = d at *
      have hd : d < 64 := hd
      have HX := Lib.hid (td_cells (p := d) hd)
      have HL : Hid ((fd l q).length + [td d].length ≤ 100000000) := Lib.hid (by rw [fd_len]; show _ + 1 ≤ _; omega)
      have b3 : (0 : Int) ≤ (d : Int) := by omega
      have b1 : (d : Int) < 64 := by omega
      rcases (show r = 0 ∨ r = 2 ∨ r = 4 by omega) with rfl | rfl | rfl
      · have HQ : Hid (encL l = fd l q) := Lib.hid (by unfold encL; rw [HN.out]; congr 1; omega)
        clear HL0 hB0
        rw [show ((0 : Nat) : Int) = 0 from rfl]
        go_wp2
        go_loopw [5] (fun t wr => ∃ p : Nat, Hid (p ≤ pads pad N) ∧ Below w.heap.size w wr ∧ w.heap.size ≤ wr.heap.size ∧ Hid (Buf wr w.heap.size t (encR l p))) (fun t _ => N + 4 - slen t)
        case atStart => exact ⟨0, Lib.hid (Nat.zero_le _), hb, hbs, Lib.hid (by rw [encR_0, HQ.out]; exact HB.out)⟩
        case round =>
          obtain ⟨p, hp, hb, hbs, HB⟩ := hrel
          have hln := HB.out.run_len (encR_len HEN.out)
          cases pad
          · have HP : Hid (encR l p = encP l false) := Lib.hid (by have := hp.out; unfold pads at this; simp at this; subst this; unfold encP encR pads; simp)
            have hcv := HB.out.bs.conv 9 Try.underlying9
            rw [HP.out] at hcv
            go_wp2
            go_ret
            exact ⟨rfl, hb⟩
          · by_cases h4 : (N + p) % 4 = 0
            · have hne : (((N : Int) + (p : Int)) % 4 != 0) = false := by rw [bne_eq_false_iff_eq]; omega
              have HP : Hid (encR l p = encP l true) := Lib.hid (by
                have := hp.out; unfold pads at this; simp at this
                unfold encP encR pads; rw [HEN.out]; simp; congr 1; omega)
              have hcv := HB.out.bs.conv 9 Try.underlying9
              rw [HP.out] at hcv
              go_wp2
              go_ret
              exact ⟨rfl, hb⟩
            · have hne : (((N : Int) + (p : Int)) % 4 != 0) = true := by rw [bne_iff_ne]; omega
              have hp4 : p < 4 := by have := hp.out; unfold pads at this; simp at this; omega
              have HP : Hid (p + 1 ≤ pads true N) := Lib.hid (by have := hp.out; unfold pads at *; simp at *; omega)
              have HL : Hid ((encR l p).length + [(61 : UInt8)].length ≤ 100000000) := Lib.hid (by rw [encR_len HEN.out]; show _ + 1 ≤ _; omega)
              have HX : Hid (#[Value.int .u8 61] = (bc [61]).toArray) := Lib.hid rfl
              go_wp2_with (at_builtin; refine wpList_app (by rfl) (.tmp 65) (.tmp 66) (by rfl) (by rfl) HB.out hb hbs [61] (by rfl) HX.out (by rfl) (by simp) HL.out ?_; intro v' w' hB' hb' hbs'; have HB' := Lib.hid hB'; clear hB')
              have z1 := HB.out.slen (encR_len HEN.out)
              have z2 := HB'.out.slen (n := N + p + 1) (by rw [List.length_append, encR_len HEN.out]; rfl)
              go_roundw
              case rel => exact ⟨p + 1, HP, hb', hbs', Lib.hid (by rw [encR_succ]; exact HB'.out)⟩
              case measure => simp [z1, z2]; omega
      · have HQ : Hid (encL l = fd l (q + 1)) := Lib.hid (by unfold encL; rw [HN.out]; congr 1; omega)
        have hB1 : B < 4 := hB0
        rw [show ((2 : Nat) : Int) = 2 from rfl]
        obtain ⟨P, hP⟩ : ∃ P, B * 16 = P := ⟨_, rfl⟩
        have e1 : (B : Int) * 16 = (P : Int) := by omega
        have e2 : bits .and .i64 (P : Int) 63 = (d : Int) := by rw [and63 P (by omega), ← HL0, ← hP]
        clear HL0 hP hB0
        go_wp2_with (at_builtin; refine wpList_app (by rfl) (.tmp 49) (.tmp 56) (by rfl) (by rfl) HB.out hb hbs [td d] (by rfl) HX.out (by rfl) (by simp) HL.out ?_; intro v' w' hB' hb' hbs'; have HB' := Lib.hid hB'; clear hB')
        go_loopw [5] (fun t wr => ∃ p : Nat, Hid (p ≤ pads pad N) ∧ Below w.heap.size w wr ∧ w.heap.size ≤ wr.heap.size ∧ Hid (Buf wr w.heap.size t (encR l p))) (fun t _ => N + 4 - slen t)
        case atStart => exact ⟨0, Lib.hid (Nat.zero_le _), hb', hbs', Lib.hid (by rw [encR_0, HQ.out, HS.out]; exact HB'.out)⟩
        case round =>
          obtain ⟨p, hp, hb, hbs, HB⟩ := hrel
          have hln := HB.out.run_len (encR_len HEN.out)
          cases pad
          · have HP : Hid (encR l p = encP l false) := Lib.hid (by have := hp.out; unfold pads at this; simp at this; subst this; unfold encP encR pads; simp)
            have hcv := HB.out.bs.conv 9 Try.underlying9
            rw [HP.out] at hcv
            go_wp2
            go_ret
            exact ⟨rfl, hb⟩
          · by_cases h4 : (N + p) % 4 = 0
            · have hne : (((N : Int) + (p : Int)) % 4 != 0) = false := by rw [bne_eq_false_iff_eq]; omega
              have HP : Hid (encR l p = encP l true) := Lib.hid (by
                have := hp.out; unfold pads at this; simp at this
                unfold encP encR pads; rw [HEN.out]; simp; congr 1; omega)
              have hcv := HB.out.bs.conv 9 Try.underlying9
              rw [HP.out] at hcv
              go_wp2
              go_ret
              exact ⟨rfl, hb⟩
            · have hne : (((N : Int) + (p : Int)) % 4 != 0) = true := by rw [bne_iff_ne]; omega
              have hp4 : p < 4 := by have := hp.out; unfold pads at this; simp at this; omega
              have HP : Hid (p + 1 ≤ pads true N) := Lib.hid (by have := hp.out; unfold pads at *; simp at *; omega)
              have HL : Hid ((encR l p).length + [(61 : UInt8)].length ≤ 100000000) := Lib.hid (by rw [encR_len HEN.out]; show _ + 1 ≤ _; omega)
              have HX : Hid (#[Value.int .u8 61] = (bc [61]).toArray) := Lib.hid rfl
              go_wp2_with (at_builtin; refine wpList_app (by rfl) (.tmp 65) (.tmp 66) (by rfl) (by rfl) HB.out hb hbs [61] (by rfl) HX.out (by rfl) (by simp) HL.out ?_; intro v' w' hB' hb' hbs'; have HB' := Lib.hid hB'; clear hB')
              have z1 := HB.out.slen (encR_len HEN.out)
              have z2 := HB'.out.slen (n := N + p + 1) (by rw [List.length_append, encR_len HEN.out]; rfl)
              go_roundw
              case rel => exact ⟨p + 1, HP, hb', hbs', Lib.hid (by rw [encR_succ]; exact HB'.out)⟩
              case measure => simp [z1, z2]; omega
      · have HQ : Hid (encL l = fd l (q + 1)) := Lib.hid (by unfold encL; rw [HN.out]; congr 1; omega)
        have hB1 : B < 16 := hB0
        rw [show ((4 : Nat) : Int) = 4 from rfl]
        obtain ⟨P, hP⟩ : ∃ P, B * 4 = P := ⟨_, rfl⟩
        have e1 : (B : Int) * 4 = (P : Int) := by omega
        have e2 : bits .and .i64 (P : Int) 63 = (d : Int) := by rw [and63 P (by omega), ← HL0, ← hP]
        clear HL0 hP hB0
        go_wp2_with (at_builtin; refine wpList_app (by rfl) (.tmp 49) (.tmp 56) (by rfl) (by rfl) HB.out hb hbs [td d] (by rfl) HX.out (by rfl) (by simp) HL.out ?_; intro v' w' hB' hb' hbs'; have HB' := Lib.hid hB'; clear hB')
        go_loopw [5] (fun t wr => ∃ p : Nat, Hid (p ≤ pads pad N) ∧ Below w.heap.size w wr ∧ w.heap.size ≤ wr.heap.size ∧ Hid (Buf wr w.heap.size t (encR l p))) (fun t _ => N + 4 - slen t)
        case atStart => exact ⟨0, Lib.hid (Nat.zero_le _), hb', hbs', Lib.hid (by rw [encR_0, HQ.out, HS.out]; exact HB'.out)⟩
        case round =>
          obtain ⟨p, hp, hb, hbs, HB⟩ := hrel
          have hln := HB.out.run_len (encR_len HEN.out)
          cases pad
          · have HP : Hid (encR l p = encP l false) := Lib.hid (by have := hp.out; unfold pads at this; simp at this; subst this; unfold encP encR pads; simp)
            have hcv := HB.out.bs.conv 9 Try.underlying9
            rw [HP.out] at hcv
            go_wp2
            go_ret
            exact ⟨rfl, hb⟩
          · by_cases h4 : (N + p) % 4 = 0
            · have hne : (((N : Int) + (p : Int)) % 4 != 0) = false := by rw [bne_eq_false_iff_eq]; omega
              have HP : Hid (encR l p = encP l true) := Lib.hid (by
                have := hp.out; unfold pads at this; simp at this
                unfold encP encR pads; rw [HEN.out]; simp; congr 1; omega)
              have hcv := HB.out.bs.conv 9 Try.underlying9
              rw [HP.out] at hcv
              go_wp2
              go_ret
              exact ⟨rfl, hb⟩
            · have hne : (((N : Int) + (p : Int)) % 4 != 0) = true := by rw [bne_iff_ne]; omega
              have hp4 : p < 4 := by have := hp.out; unfold pads at this; simp at this; omega
              have HP : Hid (p + 1 ≤ pads true N) := Lib.hid (by have := hp.out; unfold pads at *; simp at *; omega)
              have HL : Hid ((encR l p).length + [(61 : UInt8)].length ≤ 100000000) := Lib.hid (by rw [encR_len HEN.out]; show _ + 1 ≤ _; omega)
              have HX : Hid (#[Value.int .u8 61] = (bc [61]).toArray) := Lib.hid rfl
              go_wp2_with (at_builtin; refine wpList_app (by rfl) (.tmp 65) (.tmp 66) (by rfl) (by rfl) HB.out hb hbs [61] (by rfl) HX.out (by rfl) (by simp) HL.out ?_; intro v' w' hB' hb' hbs'; have HB' := Lib.hid hB'; clear hB')
              have z1 := HB.out.slen (encR_len HEN.out)
              have z2 := HB'.out.slen (n := N + p + 1) (by rw [List.length_append, encR_len HEN.out]; rfl)
              go_roundw
              case rel => exact ⟨p + 1, HP, hb', hbs', Lib.hid (by rw [encR_succ]; exact HB'.out)⟩
              case measure => simp [z1, z2]; omega
theorem enc_any (v : Value) (l : List UInt8) (pad : Bool) (w : World) (h : Bs w w.heap.size v l) (hl : l.length ≤ 4000) : Calls Try.prog 16 #[v, .bool pad] w fun e w' => e = .returned (.string ⟨(encP l pad).toArray⟩) ∧ Below w.heap.size w w' := by
  rcases h with ⟨a0, c0, rfl, rfl⟩ | ⟨g, o, cap, rfl, hg, h1, h2, h3⟩
  · have hmk : ∀ w : World, (Instr.makeSlice 22 (.int .i64 0) (.int .i64 0)).run Try.prog w = .ok (.slice (some ⟨w.heap.size, 0, none⟩) 0 0) (w.alloc (.cells (madeCells #[.int .u8 0] 0) 5)) := fun w => mk_room 0 (by omega) w
    have hcw := (Buf.room w 0 (by omega)).bs.conv 9 Try.underlying9
    have HE : Hid (encP [] pad = []) := Lib.hid (by cases pad <;> rfl)
    rw [HE.out]
    go_enter Try.func16, Try.ntmps16
    go_wp2
    go_loopw [5, 6, 7, 18] (fun t b m i wr => t = .slice (some ⟨w.heap.size, 0, none⟩) 0 0 ∧ b = .int .i64 0 ∧ m = .int .i64 0 ∧ i = .int .i64 0 ∧ wr = w.alloc (.cells (madeCells #[.int .u8 0] 0) 5)) (fun _ _ _ _ _ => 0)
    case atStart => exact ⟨rfl, rfl, rfl, rfl, rfl⟩
    case round =>
      obtain ⟨rfl, rfl, rfl, rfl, rfl⟩ := hrel
      go_wp2
      go_loopw [5] (fun t wr => t = .slice (some ⟨w.heap.size, 0, none⟩) 0 0 ∧ wr = w.alloc (.cells (madeCells #[.int .u8 0] 0) 5)) (fun _ _ => 0)
      case atStart => exact ⟨rfl, rfl⟩
      case round =>
        obtain ⟨rfl, rfl⟩ := hrel
        cases pad
        all_goals
          go_wp2
          go_ret
          exact ⟨rfl, (Below.refl _ _).alloc (Nat.le_refl _) _⟩
  · exact enc_row g o cap l pad w hl hg h3 h1
theorem and1 (x : Nat) (hx : x < 100000) : bits .and .i64 (x : Int) 1 = ((x % 2 : Nat) : Int) := and_mask x 1 (by omega) (by omega)
theorem or2 {h d : Nat} (hh : h < 10000) (hd : d < 2) : bits .or .i64 ((h : Int) * 2) (d : Int) = ((h * 2 + d : Nat) : Int) := by
  rw [bor 1 (by omega) (by omega) (by omega) (by omega) (by omega) (by omega)]
  omega
set_option maxRecDepth 100000 in
set_option maxHeartbeats 1000000 in
theorem bit_any (v : Value) (l : List UInt8) (i : Nat) (w : World) (h : Bs w w.heap.size v l) (hl : l.length ≤ 4000) (hi : i ≤ 100000) : Calls Try.prog 26 #[v, .int .i64 i] w fun e w' => e = .returned (.int .i64 (bt l i : Nat)) ∧ w = w' := by
  obtain ⟨k, hk⟩ : ∃ k, i / 8 = k := ⟨_, rfl⟩
  have e1 : (i : Int) / 8 = (k : Int) := by omega
  rcases h with ⟨a0, c0, rfl, rfl⟩ | ⟨g, o, cap, rfl, hg, h1, h2, h3⟩
  · have HR : Hid (bt [] i = 0) := Lib.hid (bt_end (by simp))
    have ht : ¬ (k : Int) < 0 := by omega
    go_enter Try.func26, Try.ntmps26
    go_wp2
    go_ret
    exact ⟨ret_int (by rw [HR.out]; rfl), rfl⟩
  · obtain ⟨n, hn⟩ : ∃ n, l.length = n := ⟨_, rfl⟩
    rw [hn] at hl h1 h3 ⊢
    by_cases hlt : k < n
    case neg =>
      have HR : Hid (bt l i = 0) := Lib.hid (bt_end (by omega))
      clear hn hk h3
      go_enter Try.func26, Try.ntmps26
      go_wp2
      go_ret
      exact ⟨ret_int (by rw [HR.out]; rfl), rfl⟩
    have hcell := h3 k hlt
    have hx := UInt8.toNat_lt (l.getD k 0)
    obtain ⟨x, hx0⟩ : ∃ x, (l.getD k 0).toNat = x := ⟨_, rfl⟩
    rw [hx0] at hcell hx
    have hx1 : Hid ((l.getD (i / 8) 0).toNat = x) := Lib.hid (by rw [hk]; exact hx0)
    clear hx0 h3 hn
    rcases (show i % 8 = 0 ∨ i % 8 = 1 ∨ i % 8 = 2 ∨ i % 8 = 3 ∨ i % 8 = 4 ∨ i % 8 = 5 ∨ i % 8 = 6 ∨ i % 8 = 7 by omega) with hr | hr | hr | hr | hr | hr | hr | hr
    · obtain ⟨P, hP⟩ : ∃ P, x / 128 = P := ⟨_, rfl⟩
      have e3 : (x : Int) / 128 = (P : Int) := by omega
      have e4 : bits .and .i64 (P : Int) 1 = ((P % 2 : Nat) : Int) := and1 P (by omega)
      have e2 : (i : Int) % 8 = 0 := by omega
      have P1 : P < 256 := by omega
      have HR : Hid (bt l i = P % 2) := Lib.hid (by unfold bt; rw [← hP, hx1.out, hr])
      generalize P % 2 = d at *
      clear hP
      
      go_enter Try.func26, Try.ntmps26
      go_wp2
      go_ret
      exact ⟨ret_int (by rw [HR.out]), rfl⟩
    · obtain ⟨P, hP⟩ : ∃ P, x / 64 = P := ⟨_, rfl⟩
      have e3 : (x : Int) / 64 = (P : Int) := by omega
      have e4 : bits .and .i64 (P : Int) 1 = ((P % 2 : Nat) : Int) := and1 P (by omega)
      have e2 : (i : Int) % 8 = 1 := by omega
      have P1 : P < 256 := by omega
      have HR : Hid (bt l i = P % 2) := Lib.hid (by unfold bt; rw [← hP, hx1.out, hr])
      generalize P % 2 = d at *
      clear hP
      
      go_enter Try.func26, Try.ntmps26
      go_wp2
      go_ret
      exact ⟨ret_int (by rw [HR.out]), rfl⟩
    · obtain ⟨P, hP⟩ : ∃ P, x / 32 = P := ⟨_, rfl⟩
      have e3 : (x : Int) / 32 = (P : Int) := by omega
      have e4 : bits .and .i64 (P : Int) 1 = ((P % 2 : Nat) : Int) := and1 P (by omega)
      have e2 : (i : Int) % 8 = 2 := by omega
      have P1 : P < 256 := by omega
      have HR : Hid (bt l i = P % 2) := Lib.hid (by unfold bt; rw [← hP, hx1.out, hr])
      generalize P % 2 = d at *
      clear hP
      
      go_enter Try.func26, Try.ntmps26
      go_wp2
      go_ret
      exact ⟨ret_int (by rw [HR.out]), rfl⟩
    · obtain ⟨P, hP⟩ : ∃ P, x / 16 = P := ⟨_, rfl⟩
      have e3 : (x : Int) / 16 = (P : Int) := by omega
      have e4 : bits .and .i64 (P : Int) 1 = ((P % 2 : Nat) : Int) := and1 P (by omega)
      have e2 : (i : Int) % 8 = 3 := by omega
      have P1 : P < 256 := by omega
      have HR : Hid (bt l i = P % 2) := Lib.hid (by unfold bt; rw [← hP, hx1.out, hr])
      generalize P % 2 = d at *
      clear hP
      
      go_enter Try.func26, Try.ntmps26
      go_wp2
      go_ret
      exact ⟨ret_int (by rw [HR.out]), rfl⟩
    · obtain ⟨P, hP⟩ : ∃ P, x / 8 = P := ⟨_, rfl⟩
      have e3 : (x : Int) / 8 = (P : Int) := by omega
      have e4 : bits .and .i64 (P : Int) 1 = ((P % 2 : Nat) : Int) := and1 P (by omega)
      have e2 : (i : Int) % 8 = 4 := by omega
      have P1 : P < 256 := by omega
      have HR : Hid (bt l i = P % 2) := Lib.hid (by unfold bt; rw [← hP, hx1.out, hr])
      generalize P % 2 = d at *
      clear hP
      
      go_enter Try.func26, Try.ntmps26
      go_wp2
      go_ret
      exact ⟨ret_int (by rw [HR.out]), rfl⟩
    · obtain ⟨P, hP⟩ : ∃ P, x / 4 = P := ⟨_, rfl⟩
      have e3 : (x : Int) / 4 = (P : Int) := by omega
      have e4 : bits .and .i64 (P : Int) 1 = ((P % 2 : Nat) : Int) := and1 P (by omega)
      have e2 : (i : Int) % 8 = 5 := by omega
      have P1 : P < 256 := by omega
      have HR : Hid (bt l i = P % 2) := Lib.hid (by unfold bt; rw [← hP, hx1.out, hr])
      generalize P % 2 = d at *
      clear hP
      
      go_enter Try.func26, Try.ntmps26
      go_wp2
      go_ret
      exact ⟨ret_int (by rw [HR.out]), rfl⟩
    · obtain ⟨P, hP⟩ : ∃ P, x / 2 = P := ⟨_, rfl⟩
      have e3 : (x : Int) / 2 = (P : Int) := by omega
      have e4 : bits .and .i64 (P : Int) 1 = ((P % 2 : Nat) : Int) := and1 P (by omega)
      have e2 : (i : Int) % 8 = 6 := by omega
      have P1 : P < 256 := by omega
      have HR : Hid (bt l i = P % 2) := Lib.hid (by unfold bt; rw [← hP, hx1.out, hr])
      generalize P % 2 = d at *
      clear hP
      
      go_enter Try.func26, Try.ntmps26
      go_wp2
      go_ret
      exact ⟨ret_int (by rw [HR.out]), rfl⟩
    · obtain ⟨P, hP⟩ : ∃ P, x / 1 = P := ⟨_, rfl⟩
      
      have e4 : bits .and .i64 (P : Int) 1 = ((P % 2 : Nat) : Int) := and1 P (by omega)
      have e2 : (i : Int) % 8 = 7 := by omega
      have P1 : P < 256 := by omega
      have HR : Hid (bt l i = P % 2) := Lib.hid (by unfold bt; rw [← hP, hx1.out, hr])
      generalize P % 2 = d at *
      have e5 : (x : Int) = (P : Int) := by omega
      clear hP
      go_enter Try.func26, Try.ntmps26
      go_wp2
      go_ret
      exact ⟨ret_int (by rw [HR.out]), rfl⟩
end Go.Proofs.Ytacmallcfaokpaa.Bas
