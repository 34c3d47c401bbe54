/-
  Package moment: texts.
-/
import Derived.Test.YtkbddelacjjapaaDoorMomH
import Derived.Test.YtkbddelacjjapaaDoorCalRefMore
import Derived.Deep.RegionHeld3
namespace Go.Proofs.YtkbddelacjjapaaDoor.Mom
open Go.RowKit
set_option linter.unusedVariables false
set_option linter.unusedSimpArgs false
open Go.Proofs.YtkbddelacjjapaaDoor.Cal

theorem padded_z (z : Int) (n k : Nat) (kz : Int) (hz : z = n) (hkz : kz = k) (w : World) (hk : 0 < k) (hk9 : k ≤ 9) (hn : n < 10 ^ k) (ht : Tb w) : Calls Tryd.prog 31 #[.int .i64 z, .int .i64 kz] w fun e w' => e = .returned (.string (pdS k n)) ∧ Below w.heap.size w w' := by
  subst hz hkz
  exact padded_any n k w hk hk9 hn ht
def dtS (y m d : Nat) : ByteArray := pdS 4 y ++ ⟨#[45]⟩ ++ pdS 2 m ++ ⟨#[45]⟩ ++ pdS 2 d
set_option maxHeartbeats 1000000 in
theorem mdate_any (y m d : Nat) (D : Int) (w : World) (hb : dayB y m d = true) (hn : num y m d = D) (ht : Tb w) : Calls Tryd.prog 17 #[.int .i64 D] w fun e w' => e = .returned (.string (dtS y m d)) ∧ Below w.heap.size w w' := by
  obtain ⟨y1, y2, m1, m2, d1, d2⟩ := dayB_in hb
  have hm31 := (mon_pos y m y1 y2 m1 m2).2
  obtain ⟨e1, e2, e3⟩ := dt_eq hb hn
  have hbd := num_bd hb
  rw [hn] at hbd
  have HD : Hid (∀ w, Calls Tryd.prog 30 #[.int .i64 D] w fun e w' => e = .returned (.tuple #[.int .i64 y, .int .i64 m, .int .i64 d, .int .i64 0]) ∧ Below w.heap.size w w') := Lib.hid (fun w => by
    have := date_any D w
    rwa [e1, e2, e3, dateE_in hbd] at this)
  have HP1 := Lib.hid (fun (w' : World) (hb : Below w.heap.size w w') => padded_z (y : Int) y 4 4 rfl rfl w' (by omega) (by omega) (by omega) (ht.next hb))
  have HP2 := Lib.hid (fun (w' : World) (hb : Below w.heap.size w w') => padded_z (m : Int) m 2 2 rfl rfl w' (by omega) (by omega) (by omega) (ht.next hb))
  have HP3 := Lib.hid (fun (w' : World) (hb : Below w.heap.size w w') => padded_z (d : Int) d 2 2 rfl rfl w' (by omega) (by omega) (by omega) (ht.next hb))
  have HB0 : Hid (Below w.heap.size w w) := Lib.hid (Below.refl _ _)
  have HX : Hid (pdS 4 y ++ ⟨#[45]⟩ ++ pdS 2 m ++ ⟨#[45]⟩ ++ pdS 2 d = dtS y m d) := Lib.hid rfl
  have z1 := pdS_size 4 y
  have z2 := pdS_size 2 m
  have z3 := pdS_size 2 d
  generalize pdS 4 y = A at *
  generalize pdS 2 m = B at *
  generalize pdS 2 d = C at *
  clear e1 e2 e3 hb hn ht hbd
  go_enter Tryd.func17, Tryd.ntmps17
  go_wp2_with (first | (go_at_call 30; go_loud ((with_reducible refine (HD.out _).mono ?_); rintro e w1 ⟨rfl, hb1⟩; have HBx := Lib.hid (HB0.out.trans (hb1.mono HB0.out.size)); clear HB0; have HB0 := HBx; clear HBx)) | (go_at_call 31; first | ((with_reducible refine (HP1.out _ HB0.out).mono ?_); rintro e w1 ⟨rfl, hb1⟩; have HBx := Lib.hid (HB0.out.trans (hb1.mono HB0.out.size)); clear HB0; have HB0 := HBx; clear HBx) | ((with_reducible refine (HP2.out _ HB0.out).mono ?_); rintro e w1 ⟨rfl, hb1⟩; have HBx := Lib.hid (HB0.out.trans (hb1.mono HB0.out.size)); clear HB0; have HB0 := HBx; clear HBx) | ((with_reducible refine (HP3.out _ HB0.out).mono ?_); rintro e w1 ⟨rfl, hb1⟩; have HBx := Lib.hid (HB0.out.trans (hb1.mono HB0.out.size)); clear HB0; have HB0 := HBx; clear HBx)))
  go_ret
  exact ⟨ret_str HX.out, HB0.out⟩
def tr0 (l : List UInt8) : ByteArray := ⟨(Lib.trimRightB l 48).toArray⟩
def cl3 (n : Nat) : ByteArray := pdS 2 (n / 3600000000000) ++ ⟨#[58]⟩ ++ pdS 2 (n % 3600000000000 / 60000000000) ++ ⟨#[58]⟩ ++ pdS 2 (n % 60000000000 / 1000000000)
def clS (n : Nat) : ByteArray := if n % 1000000000 = 0 then cl3 n else cl3 n ++ (⟨#[46]⟩ ++ tr0 (pd 9 (n % 1000000000)))
theorem tr0_size (l : List UInt8) : (tr0 l).size ≤ l.length := by
  show (Lib.trimRightB l 48).toArray.size ≤ l.length
  simp only [List.size_toArray]
  exact trim_len l
where
  trim_len (l : List UInt8) : (Lib.trimRightB l 48).length ≤ l.length := by
    unfold Lib.trimRightB
    rw [List.length_reverse]
    have := (List.dropWhile_suffix (l := l.reverse) (fun b => b == (48 : UInt8))).length_le
    rwa [List.length_reverse] at this
set_option maxRecDepth 100000 in
set_option maxHeartbeats 2000000 in
theorem clock0 (n : Nat) (w : World) (hn : n < 86400000000000) (h0 : n % 1000000000 = 0) (ht : Tb w) : Calls Tryd.prog 18 #[.int .i64 n] w fun e w' => e = .returned (.string (clS n)) ∧ Below w.heap.size w w' := by
  have HP1 := Lib.hid (fun (w' : World) (hb : Below w.heap.size w w') => padded_z ((n : Int) / 3600000000000) (n / 3600000000000) 2 2 (by omega) rfl w' (by omega) (by omega) (by omega) (ht.next hb))
  have HP2 := Lib.hid (fun (w' : World) (hb : Below w.heap.size w w') => padded_z ((n : Int) % 3600000000000 / 60000000000) (n % 3600000000000 / 60000000000) 2 2 (by omega) rfl w' (by omega) (by omega) (by omega) (ht.next hb))
  have HP3 := Lib.hid (fun (w' : World) (hb : Below w.heap.size w w') => padded_z ((n : Int) % 60000000000 / 1000000000) (n % 60000000000 / 1000000000) 2 2 (by omega) rfl w' (by omega) (by omega) (by omega) (ht.next hb))
  have HB0 : Hid (Below w.heap.size w w) := Lib.hid (Below.refl _ _)
  have HX : Hid (pdS 2 (n / 3600000000000) ++ ⟨#[58]⟩ ++ pdS 2 (n % 3600000000000 / 60000000000) ++ ⟨#[58]⟩ ++ pdS 2 (n % 60000000000 / 1000000000) = clS n) := Lib.hid (by unfold clS; rw [if_pos h0]; rfl)
  have hb : ((n : Int) % 1000000000 != 0) = false := by simp; omega
  have z1 := pdS_size 2 (n / 3600000000000)
  have z2 := pdS_size 2 (n % 3600000000000 / 60000000000)
  have z3 := pdS_size 2 (n % 60000000000 / 1000000000)
  generalize pdS 2 (n / 3600000000000) = A at *
  generalize pdS 2 (n % 3600000000000 / 60000000000) = B at *
  generalize pdS 2 (n % 60000000000 / 1000000000) = C at *
  clear ht h0
  go_enter Tryd.func18, Tryd.ntmps18
  go_wp2_with (go_at_call 31; first | ((with_reducible refine (HP1.out _ HB0.out).mono ?_); rintro e w1 ⟨rfl, hb1⟩; have HBx := Lib.hid (HB0.out.trans (hb1.mono HB0.out.size)); clear HB0; have HB0 := HBx; clear HBx) | ((with_reducible refine (HP2.out _ HB0.out).mono ?_); rintro e w1 ⟨rfl, hb1⟩; have HBx := Lib.hid (HB0.out.trans (hb1.mono HB0.out.size)); clear HB0; have HB0 := HBx; clear HBx) | ((with_reducible refine (HP3.out _ HB0.out).mono ?_); rintro e w1 ⟨rfl, hb1⟩; have HBx := Lib.hid (HB0.out.trans (hb1.mono HB0.out.size)); clear HB0; have HB0 := HBx; clear HBx))
  go_ret
  exact ⟨ret_str HX.out, HB0.out⟩
set_option maxRecDepth 100000 in
set_option maxHeartbeats 2000000 in
theorem clock1 (n : Nat) (w : World) (hn : n < 86400000000000) (h0 : n % 1000000000 ≠ 0) (ht : Tb w) : Calls Tryd.prog 18 #[.int .i64 n] w fun e w' => e = .returned (.string (clS n)) ∧ Below w.heap.size w w' := by
  have HP1 := Lib.hid (fun (w' : World) (hb : Below w.heap.size w w') => padded_z ((n : Int) / 3600000000000) (n / 3600000000000) 2 2 (by omega) rfl w' (by omega) (by omega) (by omega) (ht.next hb))
  have HP2 := Lib.hid (fun (w' : World) (hb : Below w.heap.size w w') => padded_z ((n : Int) % 3600000000000 / 60000000000) (n % 3600000000000 / 60000000000) 2 2 (by omega) rfl w' (by omega) (by omega) (by omega) (ht.next hb))
  have HP3 := Lib.hid (fun (w' : World) (hb : Below w.heap.size w w') => padded_z ((n : Int) % 60000000000 / 1000000000) (n % 60000000000 / 1000000000) 2 2 (by omega) rfl w' (by omega) (by omega) (by omega) (ht.next hb))
  have HP4 := Lib.hid (fun (w' : World) (hb : Below w.heap.size w w') => padded_z ((n : Int) % 1000000000) (n % 1000000000) 9 9 (by omega) rfl w' (by omega) (by omega) (by omega) (ht.next hb))
  have HB0 : Hid (Below w.heap.size w w) := Lib.hid (Below.refl _ _)
  have HT := Lib.hid (fun w => Tryd.strings_TrimRight_one (pdS 9 (n % 1000000000)) 48 (by decide) w (by rw [pdS_size]; omega))
  have HX : Hid (pdS 2 (n / 3600000000000) ++ ⟨#[58]⟩ ++ pdS 2 (n % 3600000000000 / 60000000000) ++ ⟨#[58]⟩ ++ pdS 2 (n % 60000000000 / 1000000000) ++ (⟨#[46]⟩ ++ ⟨(Lib.trimRightB (pdS 9 (n % 1000000000)).data.toList 48).toArray⟩) = clS n) := Lib.hid (by unfold clS; rw [if_neg h0]; rfl)
  have hb : ((n : Int) % 1000000000 != 0) = true := by simp; omega
  have z1 := pdS_size 2 (n / 3600000000000)
  have z2 := pdS_size 2 (n % 3600000000000 / 60000000000)
  have z3 := pdS_size 2 (n % 60000000000 / 1000000000)
  have z4 : (⟨(Lib.trimRightB (pdS 9 (n % 1000000000)).data.toList 48).toArray⟩ : ByteArray).size ≤ 9 := by
    have := tr0_size (pd 9 (n % 1000000000))
    rw [pd_len] at this
    exact this
  generalize pdS 2 (n / 3600000000000) = A at *
  generalize pdS 2 (n % 3600000000000 / 60000000000) = B at *
  generalize pdS 2 (n % 60000000000 / 1000000000) = C at *
  generalize (⟨(Lib.trimRightB (pdS 9 (n % 1000000000)).data.toList 48).toArray⟩ : ByteArray) = T at *
  generalize pdS 9 (n % 1000000000) = U at *
  clear ht h0
  go_enter Tryd.func18, Tryd.ntmps18
  go_wp2_with (first | (go_at_call 31; first | ((with_reducible refine (HP1.out _ HB0.out).mono ?_); rintro e w1 ⟨rfl, hb1⟩; have HBx := Lib.hid (HB0.out.trans (hb1.mono HB0.out.size)); clear HB0; have HB0 := HBx; clear HBx) | ((with_reducible refine (HP2.out _ HB0.out).mono ?_); rintro e w1 ⟨rfl, hb1⟩; have HBx := Lib.hid (HB0.out.trans (hb1.mono HB0.out.size)); clear HB0; have HB0 := HBx; clear HBx) | ((with_reducible refine (HP3.out _ HB0.out).mono ?_); rintro e w1 ⟨rfl, hb1⟩; have HBx := Lib.hid (HB0.out.trans (hb1.mono HB0.out.size)); clear HB0; have HB0 := HBx; clear HBx) | ((with_reducible refine (HP4.out _ HB0.out).mono ?_); rintro e w1 ⟨rfl, hb1⟩; have HBx := Lib.hid (HB0.out.trans (hb1.mono HB0.out.size)); clear HB0; have HB0 := HBx; clear HBx)) | (go_at_call 32; (with_reducible refine (HT.out _).mono ?_); rintro e w1 ⟨rfl, rfl⟩))
  go_ret
  exact ⟨ret_str HX.out, HB0.out⟩
theorem clock_any (n : Nat) (w : World) (hn : n < 86400000000000) (ht : Tb w) : Calls Tryd.prog 18 #[.int .i64 n] w fun e w' => e = .returned (.string (clS n)) ∧ Below w.heap.size w w' := by
  by_cases h0 : n % 1000000000 = 0
  · exact clock0 n w hn h0 ht
  · exact clock1 n w hn h0 ht
def znS (o : Int) : ByteArray := if o = 0 then ⟨#[90]⟩ else (if o < 0 then ⟨#[45]⟩ else ⟨#[43]⟩) ++ pdS 2 (o.natAbs / 60) ++ ⟨#[58]⟩ ++ pdS 2 (o.natAbs % 60)
set_option maxRecDepth 100000 in
set_option maxHeartbeats 2000000 in
theorem mzone_any (o : Int) (w : World) (ho : -1439 ≤ o ∧ o ≤ 1439) (ht : Tb w) : Calls Tryd.prog 19 #[.int .i64 o] w fun e w' => e = .returned (.string (znS o)) ∧ Below w.heap.size w w' := by
  obtain ⟨o1, o2⟩ := ho
  rcases (show o = 0 ∨ 0 < o ∨ o < 0 by omega) with h | h | h
  · subst h
    go_enter Tryd.func19, Tryd.ntmps19
    go_wp2
    go_ret
    exact ⟨rfl, Below.refl _ _⟩
  · skip
    obtain ⟨m, hm⟩ : ∃ m, (o).natAbs = m := ⟨_, rfl⟩
    have HX : Hid ((⟨#[43]⟩ : ByteArray) ++ pdS 2 (m / 60) ++ ⟨#[58]⟩ ++ pdS 2 (m % 60) = znS o) := Lib.hid (by unfold znS; rw [if_neg (by omega), hm]; rw [if_neg (by omega)])
    have HP1 := Lib.hid (fun (w' : World) (hb : Below w.heap.size w w') => padded_z (o / 60) (m / 60) 2 2 (by omega) rfl w' (by omega) (by omega) (by omega) (ht.next hb))
    have HP2 := Lib.hid (fun (w' : World) (hb : Below w.heap.size w w') => padded_z (o % 60) (m % 60) 2 2 (by omega) rfl w' (by omega) (by omega) (by omega) (ht.next hb))
    have HB0 : Hid (Below w.heap.size w w) := Lib.hid (Below.refl _ _)
    have z1 := pdS_size 2 (m / 60)
    have z2 := pdS_size 2 (m % 60)
    generalize pdS 2 (m / 60) = A at *
    generalize pdS 2 (m % 60) = B at *
    have hb : (o == 0) = false := by simp; omega
    clear ht hm
    go_enter Tryd.func19, Tryd.ntmps19
    go_wp2_with (go_at_call 31; first | ((with_reducible refine (HP1.out _ HB0.out).mono ?_); rintro e w1 ⟨rfl, hb1⟩; have HBx := Lib.hid (HB0.out.trans (hb1.mono HB0.out.size)); clear HB0; have HB0 := HBx; clear HBx) | ((with_reducible refine (HP2.out _ HB0.out).mono ?_); rintro e w1 ⟨rfl, hb1⟩; have HBx := Lib.hid (HB0.out.trans (hb1.mono HB0.out.size)); clear HB0; have HB0 := HBx; clear HBx))
    go_ret
    exact ⟨ret_str HX.out, HB0.out⟩
  · obtain ⟨x, rfl⟩ : ∃ x : Int, o = -x := ⟨-o, by omega⟩
    have hx : 0 < x := by omega
    obtain ⟨m, hm⟩ : ∃ m, ((-x)).natAbs = m := ⟨_, rfl⟩
    have HX : Hid ((⟨#[45]⟩ : ByteArray) ++ pdS 2 (m / 60) ++ ⟨#[58]⟩ ++ pdS 2 (m % 60) = znS (-x)) := Lib.hid (by unfold znS; rw [if_neg (by omega), hm]; rw [if_pos h])
    have HP1 := Lib.hid (fun (w' : World) (hb : Below w.heap.size w w') => padded_z (x / 60) (m / 60) 2 2 (by omega) rfl w' (by omega) (by omega) (by omega) (ht.next hb))
    have HP2 := Lib.hid (fun (w' : World) (hb : Below w.heap.size w w') => padded_z (x % 60) (m % 60) 2 2 (by omega) rfl w' (by omega) (by omega) (by omega) (ht.next hb))
    have HB0 : Hid (Below w.heap.size w w) := Lib.hid (Below.refl _ _)
    have z1 := pdS_size 2 (m / 60)
    have z2 := pdS_size 2 (m % 60)
    generalize pdS 2 (m / 60) = A at *
    generalize pdS 2 (m % 60) = B at *
    have hb : ((-x) == 0) = false := by simp; omega
    clear ht hm
    go_enter Tryd.func19, Tryd.ntmps19
    go_wp2_with (go_at_call 31; first | ((with_reducible refine (HP1.out _ HB0.out).mono ?_); rintro e w1 ⟨rfl, hb1⟩; have HBx := Lib.hid (HB0.out.trans (hb1.mono HB0.out.size)); clear HB0; have HB0 := HBx; clear HBx) | ((with_reducible refine (HP2.out _ HB0.out).mono ?_); rintro e w1 ⟨rfl, hb1⟩; have HBx := Lib.hid (HB0.out.trans (hb1.mono HB0.out.size)); clear HB0; have HB0 := HBx; clear HBx))
    go_ret
    exact ⟨ret_str HX.out, HB0.out⟩
end Go.Proofs.YtkbddelacjjapaaDoor.Mom
