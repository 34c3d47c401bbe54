/-
  The reference of package moment: pad, offset, clock.
-/
import Derived.Test.YtbgkldncoigggaaDoorMomP
import Derived.Test.YtbgkldncoigggaaDoorBits
namespace Go.Proofs.YtbgkldncoigggaaDoor.Mom
open Go.RowKit
set_option linter.unusedVariables false
set_option linter.unusedSimpArgs false
theorem pd_cons : ∀ (i n : Nat), pd (i + 1) n = UInt8.ofNat (48 + n / 10 ^ i % 10) :: pd i n := by
  intro i
  induction i with
  | zero => intro n; unfold pd; unfold pd; simp
  | succ i ih =>
    intro n
    show pd (i + 1) (n / 10) ++ [UInt8.ofNat (48 + n % 10)] = _ :: (pd i (n / 10) ++ [UInt8.ofNat (48 + n % 10)])
    rw [ih (n / 10), Nat.div_div_eq_div_mul, ← Nat.pow_succ']
    rfl
theorem conv_one (w : World) (c : UInt8) (v : Int) (hv : v = (c.toNat : Int)) : (convert 76 9 (.slice (some ⟨w.heap.size, 0, none⟩) 1 1)).run Tryd.prog (w.alloc (.cells #[.int .u8 v] 5)) = .ok (.string ⟨#[c]⟩) (w.alloc (.cells #[.int .u8 v] 5)) :=
  conv_cells w [c] [v] (by rw [hv]; rfl) 9 Tryd.underlying9
set_option maxRecDepth 100000 in
set_option maxHeartbeats 1000000 in
theorem rpad_any (n k : Nat) (w : World) (hk : k ≤ 9) (hn : n < 1000000000000) : Calls Tryd.prog 35 #[.int .i64 n, .int .i64 k] w fun e w' => e = .returned (.string (pdS k n)) ∧ Below w.heap.size w w' := by
  go_enter Tryd.func35, Tryd.ntmps35
  go_wp2
  go_loopw [0, 5, 6] (fun q s j wr => ∃ (i q' : Nat), i ≤ k ∧ j = .int .i64 i ∧ q = .int .i64 q' ∧ q' < 1000000000000 ∧ Hid (q' = n / 10 ^ i) ∧ s = .string (pdS i n) ∧ Below w.heap.size w wr) (fun _ _ j _ => k - (intOf j).toNat)
  case atStart => exact ⟨0, n, by omega, rfl, rfl, hn, Lib.hid (by simp), rfl, Below.refl _ _⟩
  case round =>
    obtain ⟨i, q, hi, rfl, rfl, hq9, hq, rfl, hb⟩ := hrel
    by_cases hlt : i < k
    · have hcv := conv_one wr (UInt8.ofNat (48 + q % 10)) (48 + (q : Int) % 10) (by
        have : (UInt8.ofNat (48 + q % 10)).toNat = 48 + q % 10 := by
          rw [UInt8.toNat_ofNat']; omega
        rw [this]; omega)
      have hsz := pdS_size i n
      have hs1 : (⟨#[UInt8.ofNat (48 + q % 10)]⟩ : ByteArray).size = 1 := rfl
      have HC : Hid ((⟨#[UInt8.ofNat (48 + q % 10)]⟩ : ByteArray) ++ pdS i n = pdS (i + 1) n) := Lib.hid (by
        unfold pdS
        rw [pd_cons, ← hq.out]
        exact ba_app [_] (pd i n))
      have HQ : Hid (q / 10 = n / 10 ^ (i + 1)) := Lib.hid (by rw [hq.out, Nat.div_div_eq_div_mul, ← Nat.pow_succ])
      generalize (⟨#[UInt8.ofNat (48 + q % 10)]⟩ : ByteArray) = A at *
      generalize pdS i n = B at *
      go_wp2
      go_roundw
      case rel =>
        refine ⟨i + 1, q / 10, by omega, by go_num, by go_num, by omega, HQ, ?_, hb.alloc hb.size _⟩
        rw [HC.out]
      case measure => simp [intOf]; omega
    · obtain rfl : i = k := by omega
      go_wp2
      go_ret
      exact ⟨rfl, hb⟩
theorem rpad_z (z : Int) (n k : Nat) (kz : Int) (hz : z = n) (hkz : kz = k) (w : World) (hk9 : k ≤ 9) (hn : n < 1000000000000) : Calls Tryd.prog 35 #[.int .i64 z, .int .i64 kz] w fun e w' => e = .returned (.string (pdS k n)) ∧ Below w.heap.size w w' := by
  subst hz hkz
  exact rpad_any n k w hk9 hn
set_option maxRecDepth 100000 in
set_option maxHeartbeats 4000000 in
theorem roff_any (o : Int) (w : World) (ho : -1439 ≤ o ∧ o ≤ 1439) : Calls Tryd.prog 37 #[.int .i64 o] w fun e w' => e = .returned (.string (znS o)) ∧ Below w.heap.size w w' := by
  obtain ⟨o1, o2⟩ := ho
  have HB0 : Hid (Below w.heap.size w w) := Lib.hid (Below.refl _ _)
  by_cases h0 : o = 0
  · subst h0
    go_enter Tryd.func37, Tryd.ntmps37
    go_wp2
    go_ret
    exact ⟨rfl, HB0.out⟩
  · by_cases hneg : o < 0
    · obtain ⟨m, rfl⟩ : ∃ m : Nat, o = -(m : Int) := ⟨o.natAbs, by omega⟩
      have HP1 := Lib.hid (fun (w' : World) => rpad_z ((m : Int) / 60) (m / 60) 2 2 (by omega) rfl w' (by omega) (by omega))
      have HP2 := Lib.hid (fun (w' : World) => rpad_z ((m : Int) % 60) (m % 60) 2 2 (by omega) rfl w' (by omega) (by omega))
      have HX : Hid ((⟨#[45]⟩ : ByteArray) ++ pdS 2 (m / 60) ++ ⟨#[58]⟩ ++ pdS 2 (m % 60) = znS (-(m : Int))) := Lib.hid (by unfold znS; rw [if_neg h0, if_pos hneg, show (-(m : Int)).natAbs = m by omega])
      have z1 := pdS_size 2 (m / 60)
      have z2 := pdS_size 2 (m % 60)
      generalize pdS 2 (m / 60) = A at *
      generalize pdS 2 (m % 60) = B at *
      go_enter Tryd.func37, Tryd.ntmps37
      go_wp2_with (go_at_call 35; first | ((with_reducible refine (HP1.out _).mono ?_); rintro e w1 ⟨rfl, hb1⟩; have HBx := Lib.hid (HB0.out.trans (hb1.mono HB0.out.size)); clear HB0; have HB0 := HBx; clear HBx) | ((with_reducible refine (HP2.out _).mono ?_); rintro e w1 ⟨rfl, hb1⟩; have HBx := Lib.hid (HB0.out.trans (hb1.mono HB0.out.size)); clear HB0; have HB0 := HBx; clear HBx))
      go_ret
      exact ⟨ret_str HX.out, HB0.out⟩
    · obtain ⟨m, rfl⟩ : ∃ m : Nat, o = (m : Int) := ⟨o.natAbs, by omega⟩
      have HP1 := Lib.hid (fun (w' : World) => rpad_z ((m : Int) / 60) (m / 60) 2 2 (by omega) rfl w' (by omega) (by omega))
      have HP2 := Lib.hid (fun (w' : World) => rpad_z ((m : Int) % 60) (m % 60) 2 2 (by omega) rfl w' (by omega) (by omega))
      have HX : Hid ((⟨#[43]⟩ : ByteArray) ++ pdS 2 (m / 60) ++ ⟨#[58]⟩ ++ pdS 2 (m % 60) = znS (m : Int)) := Lib.hid (by unfold znS; rw [if_neg h0, if_neg hneg, show (m : Int).natAbs = m by omega])
      have z1 := pdS_size 2 (m / 60)
      have z2 := pdS_size 2 (m % 60)
      generalize pdS 2 (m / 60) = A at *
      generalize pdS 2 (m % 60) = B at *
      go_enter Tryd.func37, Tryd.ntmps37
      go_wp2_with (go_at_call 35; first | ((with_reducible refine (HP1.out _).mono ?_); rintro e w1 ⟨rfl, hb1⟩; have HBx := Lib.hid (HB0.out.trans (hb1.mono HB0.out.size)); clear HB0; have HB0 := HBx; clear HBx) | ((with_reducible refine (HP2.out _).mono ?_); rintro e w1 ⟨rfl, hb1⟩; have HBx := Lib.hid (HB0.out.trans (hb1.mono HB0.out.size)); clear HB0; have HB0 := HBx; clear HBx))
      go_ret
      exact ⟨ret_str HX.out, HB0.out⟩
theorem trim_48 (l : List UInt8) : Lib.trimRightB (l ++ [48]) 48 = Lib.trimRightB l 48 := by
  unfold Lib.trimRightB
  rw [List.reverse_append]
  simp
theorem trim_ne (l : List UInt8) (c : UInt8) (h : c ≠ 48) : Lib.trimRightB (l ++ [c]) 48 = l ++ [c] := by
  unfold Lib.trimRightB
  rw [List.reverse_append]
  simp [h]
theorem last_of (s : ByteArray) (m : Nat) (h : s.size = m + 1) : s.data.toList = (s.extract 0 m).data.toList ++ [s[m]] := by
  obtain ⟨⟨l⟩⟩ := s
  have h2 : l.length = m + 1 := h
  rw [ByteArray.data_extract]
  show l = ((⟨l⟩ : Array UInt8).extract 0 m).toList ++ [l[m]]
  rw [Array.toList_extract]
  apply List.ext_getElem
  · simp; omega
  · intro i h1 h3
    by_cases hi : i < m
    · rw [List.getElem_append_left (by simp; omega)]
      simp
    · obtain rfl : i = m := by omega
      rw [List.getElem_append_right (by simp; omega)]
      simp
theorem dw_nil (p : UInt8 → Bool) : ∀ l : List UInt8, l.dropWhile p = [] → ∀ c ∈ l, p c = true := by
  intro l
  induction l with
  | nil => intro _ c hc; cases hc
  | cons a t ih =>
    intro h c hc
    cases hp : p a with
    | false => rw [List.dropWhile_cons, hp] at h; simp at h
    | true =>
      rw [List.dropWhile_cons, hp] at h
      rcases List.mem_cons.1 hc with rfl | hm
      · exact hp
      · exact ih (by simpa using h) c hm
theorem pd_nil : ∀ (k m : Nat), m < 10 ^ k → (∀ c ∈ pd k m, c = 48) → m = 0 := by
  intro k
  induction k with
  | zero => intro m h _; simpa using h
  | succ k ih =>
    intro m h hc
    unfold pd at hc
    have h1 := ih (m / 10) (by rw [Nat.pow_succ] at h; omega) (fun c hm => hc c (List.mem_append_left _ hm))
    have h2 := hc (UInt8.ofNat (48 + m % 10)) (by simp)
    have h3 := congrArg UInt8.toNat h2
    rw [UInt8.toNat_ofNat'] at h3
    have : (48 : UInt8).toNat = 48 := rfl
    omega
theorem trim_nil (m : Nat) (h : m < 1000000000) : Lib.trimRightB (pd 9 m) 48 = [] ↔ m = 0 := by
  constructor
  · intro e
    refine pd_nil 9 m h ?_
    unfold Lib.trimRightB at e
    rw [List.reverse_eq_nil_iff] at e
    intro c hc
    simpa using dw_nil _ _ e c (List.mem_reverse.2 hc)
  · rintro rfl; rfl
theorem ba_list {a b : ByteArray} (h : a.data.toList = b.data.toList) : a = b := by
  cases a; cases b; congr; exact Array.toList_inj.1 h
set_option maxRecDepth 100000 in
set_option maxHeartbeats 4000000 in
theorem rclock_any (n : Nat) (w : World) (hn : n < 86400000000000) : Calls Tryd.prog 36 #[.int .i64 n] w fun e w' => e = .returned (.string (clS n)) ∧ Below w.heap.size w w' := by
  obtain ⟨s, hs⟩ : ∃ s, n / 1000000000 = s := ⟨_, rfl⟩
  have es : (n : Int) / 1000000000 = (s : Int) := by omega
  have HP1 := Lib.hid (fun (w' : World) => rpad_z ((s : Int) / 3600) (n / 3600000000000) 2 2 (by omega) rfl w' (by omega) (by omega))
  have HP2 := Lib.hid (fun (w' : World) => rpad_z ((s : Int) / 60 % 60) (n % 3600000000000 / 60000000000) 2 2 (by omega) rfl w' (by omega) (by omega))
  have HP3 := Lib.hid (fun (w' : World) => rpad_z ((s : Int) % 60) (n % 60000000000 / 1000000000) 2 2 (by omega) rfl w' (by omega) (by omega))
  have HP4 := Lib.hid (fun (w' : World) => rpad_z ((n : Int) % 1000000000) (n % 1000000000) 9 9 (by omega) rfl w' (by omega) (by omega))
  have HB0 : Hid (Below w.heap.size w w) := Lib.hid (Below.refl _ _)
  have HC3 : Hid (pdS 2 (n / 3600000000000) ++ ⟨#[58]⟩ ++ pdS 2 (n % 3600000000000 / 60000000000) ++ ⟨#[58]⟩ ++ pdS 2 (n % 60000000000 / 1000000000) = cl3 n) := Lib.hid rfl
  have HT := Lib.hid (trim_nil (n % 1000000000) (by omega))
  have z1 := pdS_size 2 (n / 3600000000000)
  have z2 := pdS_size 2 (n % 3600000000000 / 60000000000)
  have z3 := pdS_size 2 (n % 60000000000 / 1000000000)
  have HU : Hid ((pdS 9 (n % 1000000000)).size = 9 ∧ (pdS 9 (n % 1000000000)).data.toList = pd 9 (n % 1000000000)) := Lib.hid ⟨pdS_size _ _, rfl⟩
  obtain ⟨L, hL⟩ : ∃ L, pd 9 (n % 1000000000) = L := ⟨_, rfl⟩
  have HX : Hid (∀ b : ByteArray, Lib.trimRightB L 48 = b.data.toList → (if b.size = 0 then cl3 n else cl3 n ++ ⟨#[46]⟩ ++ b) = clS n) := Lib.hid (fun b hb => by
    have hT := HT.out
    rw [hL, hb] at hT
    have hz : b.size = 0 ↔ b.data.toList = [] := by rw [← List.length_eq_zero_iff]; rfl
    unfold clS
    by_cases h0 : n % 1000000000 = 0
    · rw [if_pos h0, if_pos (hz.2 (hT.2 h0))]
    · rw [if_neg h0, if_neg (fun e => h0 (hT.1 (hz.1 e))), ByteArray.append_assoc]
      unfold tr0
      rw [hL, hb])
  rw [hL] at HU HT
  generalize pdS 2 (n / 3600000000000) = A at *
  generalize pdS 2 (n % 3600000000000 / 60000000000) = B at *
  generalize pdS 2 (n % 60000000000 / 1000000000) = C at *
  generalize pdS 9 (n % 1000000000) = U at *
  clear hL HT hs
  go_enter Tryd.func36, Tryd.ntmps36
  go_wp2_with (go_at_call 35; first | ((with_reducible refine (HP1.out _).mono ?_); rintro e w1 ⟨rfl, hb1⟩; have HBx := Lib.hid (HB0.out.trans (hb1.mono HB0.out.size)); clear HB0; have HB0 := HBx; clear HBx) | ((with_reducible refine (HP2.out _).mono ?_); rintro e w1 ⟨rfl, hb1⟩; have HBx := Lib.hid (HB0.out.trans (hb1.mono HB0.out.size)); clear HB0; have HB0 := HBx; clear HBx) | ((with_reducible refine (HP3.out _).mono ?_); rintro e w1 ⟨rfl, hb1⟩; have HBx := Lib.hid (HB0.out.trans (hb1.mono HB0.out.size)); clear HB0; have HB0 := HBx; clear HBx) | ((with_reducible refine (HP4.out _).mono ?_); rintro e w1 ⟨rfl, hb1⟩; have HBx := Lib.hid (HB0.out.trans (hb1.mono HB0.out.size)); clear HB0; have HB0 := HBx; clear HBx))
  go_loopw [5] (fun t wr => ∃ b : ByteArray, t = .string b ∧ b.size ≤ 9 ∧ Below w.heap.size w wr ∧ Hid (Lib.trimRightB b.data.toList 48 = Lib.trimRightB L 48)) (fun t _ => match t with | .string b => b.size | _ => 0)
  case atStart => exact ⟨U, rfl, by rw [HU.out.1]; omega, HB0.out, Lib.hid (by rw [HU.out.2])⟩
  case round =>
    obtain ⟨b, rfl, hb9, hb, HI⟩ := hrel
    rcases Nat.eq_zero_or_pos b.size with hz | hz
    · have hb0 : b = ⟨#[]⟩ := ba_list (by rw [List.length_eq_zero_iff.1 (show b.data.toList.length = 0 from hz)])
      subst hb0
      have HR : Hid (A ++ ⟨#[58]⟩ ++ B ++ ⟨#[58]⟩ ++ C = clS n) := Lib.hid (by rw [HC3.out, ← HX.out ⟨#[]⟩ HI.out.symm]; rfl)
      clear hz hb9
      go_wp2
      go_ret
      exact ⟨ret_str HR.out, hb⟩
    · obtain ⟨m, hm⟩ : ∃ m, b.size = m + 1 := ⟨b.size - 1, by omega⟩
      have hmi : (b.size : Int) = (m : Int) + 1 := by omega
      have hm1 : (m : Int) + 1 - 1 = (m : Int) := by omega
      have hmb : m < b.size := by omega
      have hl := last_of b m hm
      by_cases h48 : b[m] = 48
      · have hc : ((b[m].toNat : Int) == 48) = true := by rw [h48]; rfl
        have HN : Hid ((b.extract 0 m).size = m) := Lib.hid (by simp; omega)
        have HJ : Hid (Lib.trimRightB (b.extract 0 m).data.toList 48 = Lib.trimRightB L 48) := Lib.hid (by rw [← HI.out, hl, h48, trim_48])
        clear HI hl h48
        go_wp2
        exact ⟨⟨_, rfl, by rw [HN.out]; omega, hb, HJ⟩, by show (b.extract 0 m).size < b.size; rw [HN.out]; omega⟩
      · have hne : (b[m].toNat : Int) ≠ 48 := fun e => h48 (UInt8.toNat_inj.1 (by have : (48 : UInt8).toNat = 48 := rfl; omega))
        have hc : ((b[m].toNat : Int) == 48) = false := by simpa using hne
        have HJ : Hid (A ++ ⟨#[58]⟩ ++ B ++ ⟨#[58]⟩ ++ C ++ ⟨#[46]⟩ ++ b = clS n) := Lib.hid (by
          have := HX.out b (by rw [← HI.out, hl, trim_ne _ _ h48])
          rw [if_neg (by omega)] at this
          rw [HC3.out, this])
        have hbe : b ≠ ⟨#[]⟩ := by rintro rfl; exact absurd hm (by show ¬ 0 = m + 1; omega)
        have hbe2 : b.toList.isEmpty = false := by rw [show b.toList = b.data.toList from ByteArray.toList_eq b, last_of b m hm]; simp
        clear HI hl h48 hne
        go_wp2
        go_ret
        exact ⟨ret_str HJ.out, hb⟩
end Go.Proofs.YtbgkldncoigggaaDoor.Mom
