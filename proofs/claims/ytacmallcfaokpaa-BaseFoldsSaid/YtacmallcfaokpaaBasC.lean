/-
  Contracts of package base and its reference: hexadecimal texts read.
-/
import Derived.Test.YtacmallcfaokpaaBasB
import Derived.Test.YtacmallcfaokpaaShelf
namespace Go.Proofs.Ytacmallcfaokpaa.Bas
open Go.RowKit
set_option linter.unusedVariables false
set_option linter.unusedSimpArgs false

theorem ib_at {l : List UInt8} {c : UInt8} {k : Nat} (h : l[k]? = some c) (hn : ∀ j, j < k → l[j]? ≠ some c) : Lib.indexByte l c = k := by
  induction l generalizing k with
  | nil => simp at h
  | cons b l ih =>
    unfold Lib.indexByte
    by_cases hb : b = c
    · have : k = 0 := by
        rcases Nat.eq_zero_or_pos k with h0 | h0
        · exact h0
        · exact absurd (by rw [hb]; rfl) (hn 0 h0)
      subst this; simp [hb]
    · obtain ⟨m, rfl⟩ : ∃ m, k = m + 1 := ⟨k - 1, by
        rcases Nat.eq_zero_or_pos k with h0 | h0
        · subst h0; simp at h; exact absurd h hb
        · omega⟩
      have := ih (k := m) (by simpa using h) (fun j hj => by have := hn (j + 1) (by omega); simpa using this)
      rw [if_neg (by simpa using hb), this, if_neg (by simp)]
      omega
theorem ib_no {l : List UInt8} {c : UInt8} (hn : ∀ j, j < l.length → l[j]? ≠ some c) : Lib.indexByte l c = -1 := by
  induction l with
  | nil => rfl
  | cons b l ih =>
    unfold Lib.indexByte
    have h0 := hn 0 (by simp)
    rw [if_neg (by simpa using h0), ih (fun j hj => by have := hn (j + 1) (by simpa using hj); simpa using this)]
    rfl
set_option maxHeartbeats 400000 in
theorem find_any (s : ByteArray) (c : UInt8) (w : World) (hs : s.size ≤ 9223372036854775807) : Calls Try.prog 25 #[.string s, .int .u8 c.toNat] w fun e w' => e = .returned (.int .i64 (Lib.indexByte s.data.toList c)) ∧ w = w' := by
  obtain ⟨x, hx⟩ : ∃ x, Hid (Lib.indexByte s.data.toList c = x) := ⟨_, Lib.hid rfl⟩
  rw [hx.out]
  go_enter Try.func25, Try.ntmps25
  go_wp2
  go_loop [5] (fun i => ∃ k : Nat, k ≤ s.size ∧ i = .int .i64 k ∧ Hid (∀ j, j < k → s.data.toList[j]? ≠ some c)) (fun i => s.size - (intOf i).toNat)
  case atStart => exact ⟨0, Nat.zero_le _, rfl, Lib.hid fun j hj => by omega⟩
  case round =>
    obtain ⟨k, hk, rfl, hd⟩ := hrel
    by_cases hlt : k < s.size
    · have hg : s.data.toList[k]? = some s[k] := List.getElem?_eq_getElem (by exact hlt)
      by_cases h1 : s[k] = c
      · have HX : Hid ((k : Int) = x) := Lib.hid (by rw [← hx.out]; exact (ib_at (by rw [hg, h1]) hd.out).symm)
        have hb : ((s[k].toNat : Int) == (c.toNat : Int)) = true := by rw [h1]; simp
        clear hg h1
        go_wp2
        go_ret
        exact ⟨ret_int HX.out, rfl⟩
      · have HD : Hid (∀ j, j < k + 1 → s.data.toList[j]? ≠ some c) := Lib.hid fun j hj => by
          by_cases e : j = k
          · rw [e, hg]; intro h; exact h1 (Option.some.inj h)
          · exact hd.out j (by omega)
        have hb : ((s[k].toNat : Int) == (c.toNat : Int)) = false := by
          rw [beq_eq_false_iff_ne]; intro e; exact h1 (UInt8.toNat_inj.1 (by omega))
        clear hg h1
        go_wp2
        go_round
        case rel => exact ⟨k + 1, by omega, by go_num, HD⟩
        case measure => simp [intOf]; omega
    · have HX : Hid ((-1 : Int) = x) := Lib.hid (by rw [← hx.out]; exact (ib_no fun j hj => hd.out j (by rw [size_list] at hj; omega)).symm)
      go_wp2
      go_ret
      exact ⟨ret_int HX.out, rfl⟩
/-- The number of a hexadecimal digit; -1: it is none. -/
def hv (c : UInt8) : Int := Lib.indexByte H16.data.toList c
theorem hv_lt (c : UInt8) : -1 ≤ hv c ∧ hv c < 16 := by
  have h : ∀ n : Fin 256, -1 ≤ hv (UInt8.ofNat n.val) ∧ hv (UInt8.ofNat n.val) < 16 := by decide +kernel
  have := h ⟨c.toNat, UInt8.toNat_lt c⟩
  simpa [UInt8.ofNat_toNat] using this
theorem hv_hd {n : Nat} (h : n < 16) : hv (hd n) = n := by
  have : ∀ n : Fin 16, hv (hd n.val) = n.val := by decide +kernel
  exact this ⟨n, h⟩
theorem hd_hv (c : UInt8) (h : 0 ≤ hv c) : hd (hv c).toNat = c := by
  have h2 : ∀ n : Fin 256, 0 ≤ hv (UInt8.ofNat n.val) → hd (hv (UInt8.ofNat n.val)).toNat = UInt8.ofNat n.val := by decide +kernel
  have := h2 ⟨c.toNat, UInt8.toNat_lt c⟩
  simp only [UInt8.ofNat_toNat] at this
  exact this h
def ub (a b : UInt8) : UInt8 := ((hv a).toNat * 16 + (hv b).toNat).toUInt8
theorem ub_nat (a b : UInt8) : (ub a b).toNat = (hv a).toNat * 16 + (hv b).toNat := by
  have := hv_lt a
  have := hv_lt b
  exact Nat.mod_eq_of_lt (by omega)
/-- The first m bytes of hexadecimal digits. -/
def unN (l : List UInt8) (m : Nat) : List UInt8 := (List.range m).map fun j => ub (l.getD (2 * j) 0) (l.getD (2 * j + 1) 0)
theorem unN_succ (l : List UInt8) (m : Nat) : unN l (m + 1) = unN l m ++ [ub (l.getD (2 * m) 0) (l.getD (2 * m + 1) 0)] := by
  simp [unN, List.range_succ]
theorem unN_len (l : List UInt8) (m : Nat) : (unN l m).length = m := by simp [unN]
def hexOk (l : List UInt8) : Bool := l.all fun c => decide (0 ≤ hv c)
def unE (l : List UInt8) : Int := if hexOk l = true then (if l.length % 2 = 1 then 4 else 0) else 3
def unR (l : List UInt8) : List UInt8 := if unE l = 0 then unN l (l.length / 2) else []
theorem hexOk_of {l : List UInt8} (h : ∀ j, j < l.length → 0 ≤ hv (l.getD j 0)) : hexOk l = true := by
  unfold hexOk
  rw [List.all_eq_true]
  intro c hc
  obtain ⟨j, hj, rfl⟩ := List.getElem_of_mem hc
  have := h j hj
  rw [List.getD_eq_getElem?_getD, List.getElem?_eq_getElem hj] at this
  simpa using this
theorem hexOk_no {l : List UInt8} {j : Nat} (hj : j < l.length) (h : hv (l.getD j 0) < 0) : hexOk l = false := by
  cases e : hexOk l with
  | false => rfl
  | true =>
    unfold hexOk at e
    rw [List.all_eq_true] at e
    have := e _ (List.getElem_mem hj)
    rw [List.getD_eq_getElem?_getD, List.getElem?_eq_getElem hj] at h
    simp at this
    have h : hv l[j] < 0 := h
    omega
theorem or4 {h d : Nat} (hh : h < 16) (hd : d < 16) : bits .or .i64 ((h : Int) * 16) (d : Int) = ((h * 16 + d : Nat) : Int) := by
  rw [bor 4 (by omega) (by omega) (by omega) (by omega) (by omega) (by omega)]
  omega
/-- What Unhex returns: the bytes, unless there is an error. -/
def UnPost (l : List UInt8) (w : World) (e : Ending) (w' : World) : Prop := ∃ v, e = .returned (.tuple #[v, .int .i64 (unE l)]) ∧ Below w.heap.size w w' ∧ Bs w' w'.heap.size v (unR l)
theorem get_d {s : ByteArray} {k : Nat} (h : k < s.size) : s.data.toList.getD k 0 = s[k] := by
  rw [List.getD_eq_getElem?_getD, List.getElem?_eq_getElem (by exact h)]; rfl
theorem ib_h (s : ByteArray) (k : Nat) (w : World) (h : k < s.size) : Calls Try.prog 24 #[.string H16, .int .u8 (s[k].toNat)] w fun e w' => e = .returned (.int .i64 (hv (s.data.toList.getD k 0))) ∧ w = w' :=
  (Try.strings_IndexByte H16 s[k].toNat w).mono fun e w' ⟨he, hw⟩ => ⟨by
    rw [he, get_d h]
    have e1 : ((s[k].toNat : Int).toNat.toUInt8) = s[k] := by rw [Int.toNat_natCast]; exact UInt8.ofNat_toNat
    rw [e1]; rfl, hw.symm⟩
theorem fn_h (s : ByteArray) (k : Nat) (w : World) (h : k < s.size) : Calls Try.prog 25 #[.string H16, .int .u8 (s[k].toNat)] w fun e w' => e = .returned (.int .i64 (hv (s.data.toList.getD k 0))) ∧ w = w' :=
  (find_any H16 s[k] w (by decide)).mono fun e w' ⟨he, hw⟩ => ⟨by rw [he, get_d h]; rfl, hw⟩
/-- The same, its result under a name. -/
theorem ib_is {s : ByteArray} {k : Nat} {w : World} {x : Int} (h : k < s.size) (hx : Hid (hv (s.data.toList.getD k 0) = x)) : Calls Try.prog 24 #[.string ⟨#[48, 49, 50, 51, 52, 53, 54, 55, 56, 57, 97, 98, 99, 100, 101, 102]⟩, .int .u8 (s[k].toNat)] w fun e w' => e = .returned (.int .i64 x) ∧ w = w' := by
  have := ib_h s k w h; rwa [hx.out] at this
theorem fn_is {s : ByteArray} {k : Nat} {w : World} {x : Int} (h : k < s.size) (hx : Hid (hv (s.data.toList.getD k 0) = x)) : Calls Try.prog 25 #[.string ⟨#[48, 49, 50, 51, 52, 53, 54, 55, 56, 57, 97, 98, 99, 100, 101, 102]⟩, .int .u8 (s[k].toNat)] w fun e w' => e = .returned (.int .i64 x) ∧ w = w' := by
  have := fn_h s k w h; rwa [hx.out] at this
set_option maxRecDepth 100000 in
set_option maxHeartbeats 1000000 in
theorem unhex_any (s : ByteArray) (w : World) (hs : s.size ≤ 8000) : Calls Try.prog 11 #[.string s] w (UnPost s.data.toList w) := by
  have hmk : ∀ w : World, (Instr.makeSlice 22 (.int .i64 0) (.int .i64 ((s.size : Int) / 2))).run Try.prog w = .ok (.slice (some ⟨w.heap.size, 0, none⟩) 0 (s.size / 2)) (w.alloc (.cells (madeCells #[.int .u8 0] (s.size / 2)) 5)) := fun w => mk_room (s.size / 2) (by omega) w
  go_enter Try.func11, Try.ntmps11
  go_wp2
  go_loopw [4, 5, 14] (fun t h i wr => ∃ k : Nat, ∃ y : Int, k ≤ s.size ∧ i = .int .i64 k ∧ h = .int .i64 y ∧ Hid (k % 2 = 1 → hv (s.data.toList.getD (k - 1) 0) = y) ∧ Hid (∀ j, j < k → 0 ≤ hv (s.data.toList.getD j 0)) ∧ Below w.heap.size w wr ∧ w.heap.size ≤ wr.heap.size ∧ Hid (Buf wr w.heap.size t (unN s.data.toList (k / 2)))) (fun _ _ i _ => s.size - (intOf i).toNat)
  case atStart => exact ⟨0, 0, by omega, rfl, rfl, Lib.hid fun h => by omega, Lib.hid fun j hj => by omega, (Below.refl _ _).alloc (Nat.le_refl _) _, by simp, Lib.hid (Buf.room w (s.size / 2) (by omega))⟩
  case round =>
    obtain ⟨k, y, hk, rfl, rfl, HY, HA, hb, hbs, HB⟩ := hrel
    by_cases hlt : k < s.size
    · obtain ⟨x, hx⟩ : ∃ x, Hid (hv (s.data.toList.getD k 0) = x) := ⟨_, Lib.hid rfl⟩
      have hx1 := hv_lt (s.data.toList.getD k 0)
      rw [hx.out] at hx1
      by_cases hn : x < 0
      · have HE : Hid (unE s.data.toList = 3) := Lib.hid (by unfold unE; rw [hexOk_no hlt (by rw [hx.out]; exact hn)]; rfl)
        go_wp2_with (go_at_call 24; (with_reducible refine (ib_is hlt hx).mono ?_); rintro e w' ⟨rfl, rfl⟩)
        go_ret2
        exact ⟨.slice none 0 0, by rw [HE.out]; rfl, hb, .inl ⟨_, _, rfl, by unfold unR; rw [HE.out]; rfl⟩⟩
      · have HA2 : Hid (∀ j, j < k + 1 → 0 ≤ hv (s.data.toList.getD j 0)) := Lib.hid fun j hj => by
          by_cases e : j = k
          · rw [e, hx.out]; omega
          · exact HA.out j (by omega)
        by_cases hp : k % 2 = 0
        · have hp2 : ((k : Int) % 2 == 0) = true := by simp; omega
          have hd2 : (k + 1) / 2 = k / 2 := by omega
          have HY2 : Hid ((k + 1) % 2 = 1 → hv (s.data.toList.getD (k + 1 - 1) 0) = x) := Lib.hid fun _ => hx.out
          have HD := Lib.hid hd2
          clear hd2
          go_wp2_with (go_at_call 24; (with_reducible refine (ib_is hlt hx).mono ?_); rintro e w' ⟨rfl, rfl⟩)
          go_roundw
          case rel => exact ⟨k + 1, x, by omega, by go_num, rfl, HY2, HA2, hb, hbs, by rw [HD.out]; exact HB⟩
          case measure => simp [intOf]; omega
        · have hp2 : ((k : Int) % 2 == 0) = false := by rw [beq_eq_false_iff_ne]; omega
          have hy := HY.out (by omega)
          have hy1 := hv_lt (s.data.toList.getD (k - 1) 0)
          have hy2 := HA.out (k - 1) (by omega)
          have HS := unN_succ s.data.toList (k / 2)
          have e2 : 2 * (k / 2) = k - 1 := by omega
          have e3 : k - 1 + 1 = k := by omega
          have e4 : (k + 1) / 2 = k / 2 + 1 := by omega
          rw [e2, e3] at HS
          have HU := ub_nat (s.data.toList.getD (k - 1) 0) (s.data.toList.getD k 0)
          generalize ub (s.data.toList.getD (k - 1) 0) (s.data.toList.getD k 0) = u at HS HU
          rw [hy, hx.out] at HU
          rw [hy] at hy1 hy2
          obtain ⟨a, rfl⟩ := Int.eq_ofNat_of_zero_le hy2
          obtain ⟨b, rfl⟩ := Int.eq_ofNat_of_zero_le (show 0 ≤ x by omega)
          have HU : u.toNat = a * 16 + b := HU
          have ho := or4 (h := a) (d := b) (by omega) (by omega)
          rw [← HU] at ho
          have hu := UInt8.toNat_lt u
          have HC : Hid (#[Value.int .u8 (u.toNat : Int)] = (bc [u]).toArray) := Lib.hid rfl
          obtain ⟨m, hm⟩ : ∃ m, u.toNat = m := ⟨_, rfl⟩
          rw [hm] at ho hu HC
          have HL : Hid ((unN s.data.toList (k / 2)).length + [u].length ≤ 100000000) := Lib.hid (by rw [unN_len]; show _ + 1 ≤ _; omega)
          have HS2 : Hid (unN s.data.toList ((k + 1) / 2) = unN s.data.toList (k / 2) ++ [u]) := Lib.hid (by rw [e4, HS])
          clear HS hy HU e2 e3 e4 hm
          have HYN : Hid ((k + 1) % 2 = 1 → hv (s.data.toList.getD (k + 1 - 1) 0) = (a : Int)) := Lib.hid fun _ => by omega
          go_wp2_with (first | (go_at_call 24; (with_reducible refine (ib_is hlt hx).mono ?_); rintro e w' ⟨rfl, rfl⟩) | (at_builtin; go_loud (refine wpList_app (by rfl) (.tmp 27) (.tmp 33) (by rfl) (by rfl) HB.out hb hbs [u] (by rfl) HC.out (by rfl) (by simp) HL.out ?_); intro v' w' hB' hb' hbs'; have HB' := Lib.hid hB'; clear hB'))
          go_roundw
          case rel => exact ⟨k + 1, a, by omega, by go_num, rfl, HYN, HA2, hb', hbs', by rw [HS2.out]; exact HB'⟩
          case measure => simp [intOf]; omega
    · have hO := hexOk_of (l := s.data.toList) (fun j hj => HA.out j (by rw [size_list] at hj; omega))
      obtain rfl : k = s.size := by omega
      have HBs := HB.out.bs
      by_cases hp : s.size % 2 = 1
      · have HE : Hid (unE s.data.toList = 4) := Lib.hid (by unfold unE; rw [if_pos hO, if_pos (by rw [size_list]; exact hp)])
        have hp2 : ((s.size : Int) % 2 == 1) = true := by simp; omega
        clear hO
        go_wp2
        go_ret2
        exact ⟨.slice none 0 0, by rw [HE.out]; rfl, hb, .inl ⟨_, _, rfl, by unfold unR; rw [HE.out]; rfl⟩⟩
      · have HE : Hid (unE s.data.toList = 0) := Lib.hid (by unfold unE; rw [if_pos hO, if_neg (by rw [size_list]; exact hp)])
        have HR : Hid (unR s.data.toList = unN s.data.toList (s.size / 2)) := Lib.hid (by unfold unR; rw [if_pos HE.out]; rfl)
        have hp2 : ((s.size : Int) % 2 == 1) = false := by rw [beq_eq_false_iff_ne]; omega
        clear hO
        go_wp2
        go_ret2
        exact ⟨u4, by rw [HE.out]; rfl, hb, by rw [HR.out]; exact HBs⟩
set_option maxRecDepth 100000 in
set_option maxHeartbeats 2000000 in
theorem runhex_any (s : ByteArray) (w : World) (hs : s.size ≤ 8000) : Calls Try.prog 12 #[.string s] w (UnPost s.data.toList w) := by
  go_enter Try.func12, Try.ntmps12
  go_wp2
  go_loop [4] (fun i => ∃ k : Nat, k ≤ s.size ∧ i = .int .i64 k ∧ Hid (∀ j, j < k → 0 ≤ hv (s.data.toList.getD j 0))) (fun i => s.size - (intOf i).toNat)
  case atStart => exact ⟨0, by omega, rfl, Lib.hid fun j hj => by omega⟩
  case round =>
    obtain ⟨k, hk, rfl, HA⟩ := hrel
    by_cases hlt : k < s.size
    · obtain ⟨x, hx⟩ : ∃ x, Hid (hv (s.data.toList.getD k 0) = x) := ⟨_, Lib.hid rfl⟩
      have hx1 := hv_lt (s.data.toList.getD k 0)
      rw [hx.out] at hx1
      by_cases hn : x < 0
      · have HE : Hid (unE s.data.toList = 3) := Lib.hid (by unfold unE; rw [hexOk_no hlt (by rw [hx.out]; exact hn)]; rfl)
        go_wp2_with (go_at_call 25; (with_reducible refine (fn_is hlt hx).mono ?_); rintro e w' ⟨rfl, rfl⟩)
        go_ret2
        exact ⟨.slice none 0 0, by rw [HE.out]; rfl, Below.refl _ _, .inl ⟨_, _, rfl, by unfold unR; rw [HE.out]; rfl⟩⟩
      · have HA2 : Hid (∀ j, j < k + 1 → 0 ≤ hv (s.data.toList.getD j 0)) := Lib.hid fun j hj => by
          by_cases e : j = k
          · rw [e, hx.out]; omega
          · exact HA.out j (by omega)
        go_wp2_with (go_at_call 25; (with_reducible refine (fn_is hlt hx).mono ?_); rintro e w' ⟨rfl, rfl⟩)
        go_round
        case rel => exact ⟨k + 1, by omega, by go_num, HA2⟩
        case measure => simp [intOf]; omega
    · have hO := hexOk_of (l := s.data.toList) (fun j hj => HA.out j (by rw [size_list] at hj; omega))
      obtain rfl : k = s.size := by omega
      by_cases hp : s.size % 2 = 1
      · have HE : Hid (unE s.data.toList = 4) := Lib.hid (by unfold unE; rw [if_pos hO, if_pos (by rw [size_list]; exact hp)])
        have hp2 : ((s.size : Int) % 2 == 1) = true := by simp; omega
        clear hO
        go_wp2
        go_ret2
        exact ⟨.slice none 0 0, by rw [HE.out]; rfl, Below.refl _ _, .inl ⟨_, _, rfl, by unfold unR; rw [HE.out]; rfl⟩⟩
      · have HE : Hid (unE s.data.toList = 0) := Lib.hid (by unfold unE; rw [if_pos hO, if_neg (by rw [size_list]; exact hp)])
        have HR : Hid (unR s.data.toList = unN s.data.toList (s.size / 2)) := Lib.hid (by unfold unR; rw [if_pos HE.out]; rfl)
        have hp2 : ((s.size : Int) % 2 == 1) = false := by rw [beq_eq_false_iff_ne]; omega
        clear hO
        go_wp2
        go_loopw [5, 6] (fun t i wr => ∃ k : Nat, k ≤ s.size ∧ k % 2 = 0 ∧ i = .int .i64 k ∧ Below w.heap.size w wr ∧ w.heap.size ≤ wr.heap.size ∧ Hid (Buf wr w.heap.size t (unN s.data.toList (k / 2)))) (fun _ i _ => s.size - (intOf i).toNat)
        case atStart => exact ⟨0, by omega, by omega, rfl, Below.refl _ _, Nat.le_refl _, Lib.hid (Buf.nil _ _)⟩
        case round =>
          obtain ⟨k, hk, hk2, rfl, hb, hbs, HB⟩ := hrel
          by_cases hlt : k < s.size
          · have h1 : k + 1 < s.size := by omega
            have HS := unN_succ s.data.toList (k / 2)
            have e2 : 2 * (k / 2) = k := by omega
            have e4 : (k + 2) / 2 = k / 2 + 1 := by omega
            rw [e2] at HS
            have HU := ub_nat (s.data.toList.getD k 0) (s.data.toList.getD (k + 1) 0)
            generalize ub (s.data.toList.getD k 0) (s.data.toList.getD (k + 1) 0) = u at HS HU
            have ha := HA.out k (by omega)
            have hb2 := HA.out (k + 1) (by omega)
            have ha1 := hv_lt (s.data.toList.getD k 0)
            have hb1 := hv_lt (s.data.toList.getD (k + 1) 0)
            obtain ⟨a, hya⟩ := Int.eq_ofNat_of_zero_le ha
            obtain ⟨b, hyb⟩ := Int.eq_ofNat_of_zero_le hb2
            rw [hya] at HU ha1
            rw [hyb] at HU hb1
            have hxa := Lib.hid hya
            have hxb := Lib.hid hyb
            have HU : u.toNat = a * 16 + b := HU
            have ho := or4 (h := a) (d := b) (by omega) (by omega)
            rw [← HU] at ho
            have hu := UInt8.toNat_lt u
            have HC : Hid (#[Value.int .u8 (u.toNat : Int)] = (bc [u]).toArray) := Lib.hid rfl
            obtain ⟨m, hm⟩ : ∃ m, u.toNat = m := ⟨_, rfl⟩
            rw [hm] at ho hu HC
            have HL : Hid ((unN s.data.toList (k / 2)).length + [u].length ≤ 100000000) := Lib.hid (by rw [unN_len]; show _ + 1 ≤ _; omega)
            have HS2 : Hid (unN s.data.toList ((k + 2) / 2) = unN s.data.toList (k / 2) ++ [u]) := Lib.hid (by rw [e4, HS])
            have s1 : IntKind.i64.wrap ((k : Int) + 1) = (k : Int) + 1 := IntWalk.i64_in _ (by omega)
            have s2 : (0 : Int) ≤ (k : Int) + 1 := by omega
            have s3 : (k : Int) + 1 < (s.size : Int) := by omega
            have s4 : ((k : Int) + 1).toNat = k + 1 := by omega
            have s5 : IntKind.i64.wrap ((a : Int) * 16) = (a : Int) * 16 := IntWalk.i64_in _ (by omega)
            have s6 : (m : Int) % 256 = m := by omega
            have s7 : IntKind.u8.wrap (m : Int) = m := by rw [IntKind.wrap_u8]; omega
            have s8 : (0 : Int) ≤ (k : Int) := by omega
            have s9 : (k : Int) < (s.size : Int) := by omega
            clear HS hya hyb HU e2 e4 hm ha hb2
            go_wp2
            go_region_held3 (fun w' => True) (trivial) ((first | (refine step_app (W := w) (by rfl) (.tmp 28) (.tmp 41) (by rfl) (by rfl) HB.out hb hbs [u] (by rfl) (HC.out) (by rfl) (by simp) HL.out ?_; intro v' w' hB' hb' hbs'; have HB' := Lib.hid hB'; clear hB') | (go_simp; go_at_call 25; (with_reducible refine (fn_is hlt hxa).mono ?_); rintro e w' ⟨rfl, rfl⟩) | (go_simp; go_at_call 25; (with_reducible refine (fn_is h1 hxb).mono ?_); rintro e w' ⟨rfl, rfl⟩)))
            all_goals
              go_wp2
              exact ⟨⟨k + 2, by omega, by omega, by go_num, hb', hbs', Lib.hid (by rw [HS2.out]; exact HB'.out)⟩, by simp [intOf]; omega⟩
          · obtain rfl : k = s.size := by omega
            have HBs := HB.out.bs
            go_wp2
            go_ret2
            exact ⟨u5, by rw [HE.out]; rfl, hb, by rw [HR.out]; exact HBs⟩
end Go.Proofs.Ytacmallcfaokpaa.Bas
