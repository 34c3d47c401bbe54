/-
  Contracts of package base: base64 read.
-/
import Derived.Test.YtacmallcfaokpaaBasE
namespace Go.Proofs.Ytacmallcfaokpaa.Bas
open Go.RowKit
set_option linter.unusedVariables false
set_option linter.unusedSimpArgs false

def dv (c : UInt8) : Int := Lib.indexByte T64.data.toList c
theorem dv_lt (c : UInt8) : -1 ≤ dv c ∧ dv c < 64 := by
  have h : ∀ n : Fin 256, -1 ≤ dv (UInt8.ofNat n.val) ∧ dv (UInt8.ofNat n.val) < 64 := by decide +kernel
  have := h ⟨c.toNat, UInt8.toNat_lt c⟩
  simpa [UInt8.ofNat_toNat] using this
theorem dv_td {n : Nat} (h : n < 64) : dv (td n) = n := by
  have : ∀ n : Fin 64, dv (td n.val) = n.val := by decide +kernel
  exact this ⟨n, h⟩
theorem td_dv (c : UInt8) (h : 0 ≤ dv c) : td (dv c).toNat = c := by
  have h2 : ∀ n : Fin 256, 0 ≤ dv (UInt8.ofNat n.val) → td (dv (UInt8.ofNat n.val)).toNat = UInt8.ofNat n.val := by decide +kernel
  have := h2 ⟨c.toNat, UInt8.toNat_lt c⟩
  simp only [UInt8.ofNat_toNat] at this
  exact this h
theorem dv_61 : dv 61 = -1 := by decide +kernel
def isD (c : UInt8) : Bool := decide (0 ≤ dv c)
/-- How many base64 digits a text begins with. -/
def ne (s : List UInt8) : Nat := (s.takeWhile isD).length
def dsL (s : List UInt8) : List Nat := (s.take (ne s)).map fun c => (dv c).toNat
theorem ne_of {s : List UInt8} {k : Nat} (hk : k ≤ s.length) (ha : ∀ j, j < k → 0 ≤ dv (s.getD j 0)) (he : k < s.length → dv (s.getD k 0) < 0) : ne s = k := by
  unfold ne
  induction s generalizing k with
  | nil => simp at hk; simp [hk]
  | cons c s ih =>
    rcases Nat.eq_zero_or_pos k with h0 | h0
    · subst h0
      have := he (by simp)
      have h : isD c = false := by unfold isD; simp at this ⊢; omega
      rw [List.takeWhile_cons, h]; rfl
    · obtain ⟨m, rfl⟩ : ∃ m, k = m + 1 := ⟨k - 1, by omega⟩
      have h1 := ha 0 (by omega)
      have h : isD c = true := by unfold isD; simpa using h1
      have := ih (k := m) (by simpa using hk) (fun j hj => by have := ha (j + 1) (by omega); simpa using this) (fun hm => by have := he (by simpa using hm); simpa using this)
      rw [List.takeWhile_cons, h]
      simp [this]
theorem ne_le (s : List UInt8) : ne s ≤ s.length := (List.takeWhile_sublist _).length_le
theorem dsL_len (s : List UInt8) : (dsL s).length = ne s := by unfold dsL; rw [List.length_map, List.length_take]; have := ne_le s; omega
theorem dsL_lt (s : List UInt8) : ∀ x ∈ dsL s, x < 64 := by
  intro x hx
  unfold dsL at hx
  rw [List.mem_map] at hx
  obtain ⟨c, _, rfl⟩ := hx
  have := dv_lt c
  omega
/-- Bit i of the digits of a text. -/
def fb (s : List UInt8) (i : Nat) : Nat := (dv (s.getD (i / 6) 0)).toNat / 2 ^ (5 - i % 6) % 2
theorem fb_bit (s : List UInt8) : Bit (fb s) := fun _ => Nat.mod_lt _ (by omega)
theorem fb_b6 {s : List UInt8} {i : Nat} (h : i < 6 * ne s) : b6 (dsL s) i = fb s i := by
  unfold b6 fb dsL
  have hl : i / 6 < ne s := by omega
  have hl2 : i / 6 < s.length := by have := ne_le s; omega
  rw [List.getD_eq_getElem?_getD, List.getElem?_map, List.getElem?_take_of_lt hl, List.getElem?_eq_getElem hl2, List.getD_eq_getElem?_getD, List.getElem?_eq_getElem hl2]
  rfl
theorem vl_fb (s : List UInt8) (k : Nat) : vl (fb s) (6 * k) 6 = (dv (s.getD k 0)).toNat := by
  refine vl_six (by have := dv_lt (s.getD k 0); omega) fun r hr => ?_
  unfold fb
  rw [show (6 * k + r) / 6 = k by omega, show (6 * k + r) % 6 = r by omega]
/-- The first q bytes that the digits say. -/
def gb (s : List UInt8) (q : Nat) : List UInt8 := (List.range q).map fun j => (vl (fb s) (8 * j) 8).toUInt8
theorem gb_succ (s : List UInt8) (q : Nat) : gb s (q + 1) = gb s q ++ [(vl (fb s) (8 * q) 8).toUInt8] := by simp [gb, List.range_succ]
theorem gb_len (s : List UInt8) (q : Nat) : (gb s q).length = q := by simp [gb]
theorem gb_by8 (s : List UInt8) : gb s (6 * ne s / 8) = by8 (dsL s) := by
  unfold gb by8
  rw [dsL_len]
  apply List.map_congr_left
  intro j hj
  rw [List.mem_range] at hj
  rw [vl_congr fun i h1 h2 => (fb_b6 (s := s) (i := i) (by omega)).symm]
theorem rest_fb (s : List UInt8) (q r : Nat) (h : 8 * q + r = 6 * ne s) (hr : r < 8) : rest (dsL s) = vl (fb s) (8 * q) r := by
  unfold rest
  rw [dsL_len, show 6 * ne s / 8 = q by omega, show 6 * ne s - 8 * q = r by omega]
  exact vl_congr fun i h1 h2 => fb_b6 (by omega)
theorem push6 (s : List UInt8) (k r q : Nat) (h : 8 * q + r = 6 * k) : vl (fb s) (8 * q) r * 64 + (dv (s.getD k 0)).toNat = vl (fb s) (8 * q) (r + 6) := by
  rw [vl_add, h, vl_fb]
theorem byte_at (s : List UInt8) (q m : Nat) : vl (fb s) (8 * q) (8 + m) / 2 ^ m % 256 = vl (fb s) (8 * q) 8 := by
  have := vl_mid (fb_bit s) (8 * q) 0 8 m
  rw [Nat.zero_add] at this
  exact this
theorem low6 (s : List UInt8) (q m : Nat) : vl (fb s) (8 * q) (8 + m) % 2 ^ m = vl (fb s) (8 * (q + 1)) m := vl_low (fb_bit s) (8 * q) 8 m
theorem or6 {h d : Nat} (hh : h < 10000) (hd : d < 64) : bits .or .i64 ((h : Int) * 64) (d : Int) = ((h * 64 + d : Nat) : Int) := by
  rw [bor 6 (by omega) (by omega) (by omega) (by omega) (by omega) (by omega)]
  omega
/-- The error of a text. -/
def decE (s : List UInt8) (pad : Bool) : Int :=
  if ne s = s.length then (if (whole (dsL s) && (!pad || decide (ne s % 4 = 0))) = true then 0 else 4)
  else if (pad && whole (dsL s) && decide (ne s % 4 ≠ 0)) = true then
    (if s.drop (ne s) = List.replicate (4 - ne s % 4) 61 then 0 else if Lib.hasPrefix (List.replicate (4 - ne s % 4) 61) (s.drop (ne s)) = true then 4 else 3)
  else 3
def decR (s : List UInt8) (pad : Bool) : List UInt8 := if decE s pad = 0 then by8 (dsL s) else []
def DecPost (s : List UInt8) (pad : Bool) (w : World) (e : Ending) (w' : World) : Prop := ∃ v, e = .returned (.tuple #[v, .int .i64 (decE s pad)]) ∧ Below w.heap.size w w' ∧ Bs w' w'.heap.size v (decR s pad)
theorem ib6_is {s : ByteArray} {k : Nat} {w : World} {x : Int} (h : k < s.size) (hx : Hid (dv (s.data.toList.getD k 0) = x)) : Calls Try.prog 24 #[.string T64, .int .u8 (s[k].toNat)] w fun e w' => e = .returned (.int .i64 x) ∧ w = w' :=
  (Try.strings_IndexByte T64 s[k].toNat w).mono fun e w' ⟨he, hw⟩ => ⟨by
    rw [he, ← hx.out, get_d h]
    have e1 : ((s[k].toNat : Int).toNat.toUInt8) = s[k] := by rw [Int.toNat_natCast]; exact UInt8.ofNat_toNat
    rw [e1]; rfl, hw.symm⟩
/-- What the last case of Decode returns. -/
def padE (l : List UInt8) (may : Bool) (n : Nat) : Int :=
  if may = true then (if l = List.replicate n 61 then 0 else if Lib.hasPrefix (List.replicate n 61) l = true then 4 else 3) else 3
theorem repL (n : Nat) : Lib.repeatL [61] n = List.replicate n 61 := by
  induction n with
  | zero => rfl
  | succ n ih => show [61] ++ Lib.repeatL [61] n = _; rw [ih]; rfl
theorem str_ne {a b : ByteArray} (h : a.data.toList ≠ b.data.toList) : (a.toList == b.toList) = false := by
  rw [beq_eq_false_iff_ne, toList_data, toList_data]; exact h
theorem str_eq {a b : ByteArray} (h : a.data.toList = b.data.toList) : (a.toList == b.toList) = true := by
  rw [beq_iff_eq, toList_data, toList_data]; exact h
set_option maxHeartbeats 400000 in
theorem padded_any (v : Value) (l : List UInt8) (p : ByteArray) (may : Bool) (n : Nat) (w : World) (hv : Bs w w.heap.size v l) (hn : n ≤ 4) (hp : p.size ≤ 8000) : Calls Try.prog 27 #[v, .string p, .bool may, .int .i64 n] w fun e w' => e = .returned (.tuple #[if padE p.data.toList may n = 0 then v else .slice none 0 0, .int .i64 (padE p.data.toList may n)]) ∧ Below w.heap.size w w' := by
  have HR := Lib.hid (fun w => Try.strings_Repeat ⟨#[61]⟩ n w (by omega) (by show 1 * n ≤ _; omega))
  obtain ⟨F, hF⟩ : ∃ F : ByteArray, F = ⟨(List.replicate n (61 : UInt8)).toArray⟩ := ⟨_, rfl⟩
  have hFl : F.data.toList = List.replicate n 61 := by rw [hF]
  have hR2 : (⟨(Lib.repeatL (⟨#[61]⟩ : ByteArray).data.toList n).toArray⟩ : ByteArray) = F := by rw [hF, ← repL]
  rw [hR2] at HR
  clear hF hR2
  cases may
  · have HE : Hid (padE p.data.toList false n = 3) := Lib.hid rfl
    rw [HE.out]
    clear hFl
    go_enter Try.func27, Try.ntmps27
    go_wp2_with (go_at_call 30; (with_reducible refine (HR.out _).mono ?_); rintro e w1 ⟨rfl, hb⟩)
    go_ret2
    exact ⟨rfl, hb⟩
  · by_cases h1 : p.data.toList = List.replicate n 61
    · have HE : Hid (padE p.data.toList true n = 0) := Lib.hid (by unfold padE; rw [if_pos rfl, if_pos h1])
      rw [HE.out]
      have h2 := str_eq (a := p) (b := F) (by rw [hFl, h1])
      clear hFl h1
      go_enter Try.func27, Try.ntmps27
      go_wp2_with (go_at_call 30; (with_reducible refine (HR.out _).mono ?_); rintro e w1 ⟨rfl, hb⟩)
      go_ret2
      exact ⟨rfl, hb⟩
    · have h2 := str_ne (a := p) (b := F) (by rw [hFl]; exact h1)
      have HP := Lib.hid (fun w => Try.strings_HasPrefix F p w)
      rw [hFl] at HP
      cases hp : Lib.hasPrefix (List.replicate n 61) p.data.toList
      · have HE : Hid (padE p.data.toList true n = 3) := Lib.hid (by unfold padE; rw [if_pos rfl, if_neg h1, if_neg (by rw [hp]; simp)])
        rw [HE.out]
        rw [hp] at HP
        clear hFl h1 hp
        go_enter Try.func27, Try.ntmps27
        go_wp2_with (first | (go_at_call 30; (with_reducible refine (HR.out _).mono ?_); rintro e w1 ⟨rfl, hb⟩) | (go_at_call 31; (with_reducible refine (HP.out _).mono ?_); rintro e w1 ⟨rfl, rfl⟩))
        go_ret2
        exact ⟨rfl, hb⟩
      · have HE : Hid (padE p.data.toList true n = 4) := Lib.hid (by unfold padE; rw [if_pos rfl, if_neg h1, if_pos hp])
        rw [HE.out]
        rw [hp] at HP
        clear hFl h1 hp
        go_enter Try.func27, Try.ntmps27
        go_wp2_with (first | (go_at_call 30; (with_reducible refine (HR.out _).mono ?_); rintro e w1 ⟨rfl, hb⟩) | (go_at_call 31; (with_reducible refine (HP.out _).mono ?_); rintro e w1 ⟨rfl, rfl⟩))
        go_ret2
        exact ⟨rfl, hb⟩
end Go.Proofs.Ytacmallcfaokpaa.Bas
