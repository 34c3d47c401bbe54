/-
  Package decimal: exponent and Parse at any string.
-/
import Derived.Test.YtaphckipkaggkaaGreatDoorDecBA
import Derived.Test.YtaphckipkaggkaaGreatDoorDecD
namespace Go.Proofs.YtaphckipkaggkaaGreatDoor.Dec
open Go.RowKit
set_option linter.unusedVariables false
set_option linter.unusedSimpArgs false
open Go.Proofs.YtaphckipkaggkaaGreatDoor.Dig

theorem head_at (s : ByteArray) (h : 0 < s.size) : s.data.toList.head? = some (s[0]'h) := by
  rw [List.head?_eq_getElem?]
  exact List.getElem?_eq_getElem (show 0 < s.data.toList.length from h)
theorem u8_of {a : UInt8} {n : Nat} (hn : n < 256) (h : a.toNat = n) : a = UInt8.ofNat n := by
  rw [← UInt8.toNat_inj, UInt8.toNat_ofNat']; omega
theorem ex_from (s : ByteArray) (a : Nat) : (s.extract a s.size).data.toList = s.data.toList.drop a := by
  rw [Lib.extract_data]
  exact List.take_of_length_le (by rw [List.length_drop]; exact Nat.le_refl _)
theorem pre_one (l : List UInt8) (c : UInt8) : Lib.hasPrefix l [c] = decide (l.head? = some c) := by
  cases l with
  | nil => rfl
  | cons a t =>
    rw [Bool.eq_iff_iff]
    simp [Lib.hasPrefix, List.isPrefixOf]
    exact ⟨fun h => h.symm, fun h => h.symm⟩
theorem size_pos {s : ByteArray} (h : s.data.toList ≠ []) : 0 < s.size := by
  show 0 < s.data.toList.length
  cases hc : s.data.toList with
  | nil => exact absurd hc h
  | cons _ _ => simp
theorem isE_f {s : ByteArray} (h : s.data.toList ≠ []) : s.toList.isEmpty = false := by
  rw [ByteArray.toList_eq]
  cases hc : s.data.toList with
  | nil => exact absurd hc h
  | cons _ _ => rfl
theorem isE_t {s : ByteArray} (h : s.data.toList = []) : s.toList.isEmpty = true := by rw [ByteArray.toList_eq, h]; rfl
theorem ne_nil {s : ByteArray} (h : s.data.toList ≠ []) : ¬ s.toList = [] := by rw [ByteArray.toList_eq]; exact h
theorem eq_nil {s : ByteArray} (h : s.data.toList = []) : s.toList = [] := by rw [ByteArray.toList_eq]; exact h
set_option maxRecDepth 100000 in
set_option maxHeartbeats 4000000 in
theorem exp_other (s : ByteArray) (w : World) (h0 : s.data.toList ≠ []) (hb : ∀ hh : 0 < s.size, (s[0]'hh).toNat ≠ 101 ∧ (s[0]'hh).toNat ≠ 69) : Calls Tryz.prog 51 #[.string s] w fun e w' => e = .returned (.tuple #[.int .i64 0, .bool false]) ∧ w' = w := by
  have z0 := size_pos h0
  have z1 : (0 : Int) < s.size := by omega
  have r1 := isE_f h0
  have r2 := ne_nil h0
  obtain ⟨q1, q2⟩ := hb z0
  have t1 : ((s[0].toNat : Int) != 101) = true := by rw [bne_iff_ne]; omega
  have t2 : ((s[0].toNat : Int) != 69) = true := by rw [bne_iff_ne]; omega
  clear h0 hb q1 q2
  go_enter Tryz.func51, Tryz.ntmps51
  go_wp2
  go_ret2
  exact ⟨rfl, rfl⟩
set_option maxRecDepth 100000 in
set_option maxHeartbeats 4000000 in
theorem exp_me (s : ByteArray) (w : World) (h0 : s.data.toList ≠ []) (hb : ∀ hh : 0 < s.size, (s[0]'hh).toNat = 101 ∨ (s[0]'hh).toNat = 69) (s1 : ByteArray) (h1 : s.extract 1 s.size = s1) (hHM : Lib.hasPrefix s1.data.toList [45] = true) (q : ByteArray) (h2 : s1.extract 1 s1.size = q) (hs1 : 0 < s1.size) (hq : q.data.toList = []) (hsz : q.size ≤ 9223372036854775807) : Calls Tryz.prog 51 #[.string s] w fun e w' => e = .returned (.tuple #[.int .i64 0, .bool false]) ∧ w' = w := by
  have z0 := size_pos h0
  have z1 : (0 : Int) < s.size := by omega
  have z2 : (1 : Int) ≤ s.size := by omega
  have r1 := isE_f h0
  have r2 := ne_nil h0
  have HM : Hid (∀ w, Calls Tryz.prog 38 #[.string s1, .string ⟨#[45]⟩] w fun e w' => e = .returned (.bool true) ∧ w' = w) := Lib.hid (fun w => by
    have := Tryz.strings_HasPrefix s1 ⟨#[45]⟩ w
    rwa [show Lib.hasPrefix s1.data.toList (⟨#[45]⟩ : ByteArray).data.toList = true from hHM] at this)
  have z3 : (1 : Int) ≤ s1.size := by omega
  have r3 := isE_t hq
  have r4 := eq_nil hq
  have HBE := Lib.hid (hb z0)
  clear h0 hb hHM hq hs1
  rcases HBE.out with he | he
  · have t1 : ((s[0].toNat : Int) != 101) = false := by rw [bne_eq_false_iff_eq]; omega
    clear he HBE
    go_enter Tryz.func51, Tryz.ntmps51
    go_wp2_with (first | (go_at_call 38; first | ((with_reducible refine (HM.out _).mono ?_); rintro e w1 ⟨rfl, rfl⟩)))
    go_ret2
    exact ⟨rfl, rfl⟩
  · have t1 : ((s[0].toNat : Int) != 101) = true := by rw [bne_iff_ne]; omega
    have t2 : ((s[0].toNat : Int) != 69) = false := by rw [bne_eq_false_iff_eq]; omega
    clear he HBE
    go_enter Tryz.func51, Tryz.ntmps51
    go_wp2_with (first | (go_at_call 38; first | ((with_reducible refine (HM.out _).mono ?_); rintro e w1 ⟨rfl, rfl⟩)))
    go_ret2
    exact ⟨rfl, rfl⟩
set_option maxRecDepth 100000 in
set_option maxHeartbeats 4000000 in
theorem exp_mb (s : ByteArray) (w : World) (h0 : s.data.toList ≠ []) (hb : ∀ hh : 0 < s.size, (s[0]'hh).toNat = 101 ∨ (s[0]'hh).toNat = 69) (s1 : ByteArray) (h1 : s.extract 1 s.size = s1) (hHM : Lib.hasPrefix s1.data.toList [45] = true) (q : ByteArray) (h2 : s1.extract 1 s1.size = q) (hs1 : 0 < s1.size) (hq : q.data.toList ≠ []) (hd : digs q.data.toList = false) (hsz : q.size ≤ 9223372036854775807) : Calls Tryz.prog 51 #[.string s] w fun e w' => e = .returned (.tuple #[.int .i64 0, .bool false]) ∧ w' = w := by
  have z0 := size_pos h0
  have z1 : (0 : Int) < s.size := by omega
  have z2 : (1 : Int) ≤ s.size := by omega
  have r1 := isE_f h0
  have r2 := ne_nil h0
  have HM : Hid (∀ w, Calls Tryz.prog 38 #[.string s1, .string ⟨#[45]⟩] w fun e w' => e = .returned (.bool true) ∧ w' = w) := Lib.hid (fun w => by
    have := Tryz.strings_HasPrefix s1 ⟨#[45]⟩ w
    rwa [show Lib.hasPrefix s1.data.toList (⟨#[45]⟩ : ByteArray).data.toList = true from hHM] at this)
  have z3 : (1 : Int) ≤ s1.size := by omega
  have r3 := isE_f hq
  have r4 := ne_nil hq
  obtain ⟨D, hD⟩ : ∃ D, q.extract 0 (dl q) = D := ⟨_, rfl⟩
  have HD := Lib.hid (fun w => digitsOf_any q w hsz)
  rw [hD] at HD
  have hDq : ¬ D.toList = q.toList := fun e => by
    rw [ByteArray.toList_eq, ByteArray.toList_eq, ← hD, Lib.extract_data, List.drop_zero, Nat.sub_zero] at e
    have := dlL_digs q.data.toList
    rw [← dl_list, e, hd] at this
    cases this
  have hDb : (D.toList == q.toList) = false := beq_eq_false_iff_ne.2 hDq
  clear hD
  have HBE := Lib.hid (hb z0)
  clear h0 hb hHM hq hd hs1
  rcases HBE.out with he | he
  · have t1 : ((s[0].toNat : Int) != 101) = false := by rw [bne_eq_false_iff_eq]; omega
    clear he HBE
    go_enter Tryz.func51, Tryz.ntmps51
    go_wp2_with (first | (go_at_call 38; first | ((with_reducible refine (HM.out _).mono ?_); rintro e w1 ⟨rfl, rfl⟩)) | (go_at_call 50; ((with_reducible refine (HD.out _).mono ?_); rintro e w1 ⟨rfl, rfl⟩)))
    go_ret2
    exact ⟨rfl, rfl⟩
  · have t1 : ((s[0].toNat : Int) != 101) = true := by rw [bne_iff_ne]; omega
    have t2 : ((s[0].toNat : Int) != 69) = false := by rw [bne_eq_false_iff_eq]; omega
    clear he HBE
    go_enter Tryz.func51, Tryz.ntmps51
    go_wp2_with (first | (go_at_call 38; first | ((with_reducible refine (HM.out _).mono ?_); rintro e w1 ⟨rfl, rfl⟩)) | (go_at_call 50; ((with_reducible refine (HD.out _).mono ?_); rintro e w1 ⟨rfl, rfl⟩)))
    go_ret2
    exact ⟨rfl, rfl⟩
set_option maxRecDepth 100000 in
set_option maxHeartbeats 4000000 in
theorem exp_mk (s : ByteArray) (w : World) (h0 : s.data.toList ≠ []) (hb : ∀ hh : 0 < s.size, (s[0]'hh).toNat = 101 ∨ (s[0]'hh).toNat = 69) (s1 : ByteArray) (h1 : s.extract 1 s.size = s1) (hHM : Lib.hasPrefix s1.data.toList [45] = true) (q : ByteArray) (h2 : s1.extract 1 s1.size = q) (hs1 : 0 < s1.size) (hq : q.data.toList ≠ []) (hd : digs q.data.toList = true) (v : Nat) (hv : min (val q.data.toList) 1099511627776 = v) (hsz : q.size ≤ 9223372036854775807) : Calls Tryz.prog 51 #[.string s] w fun e w' => e = .returned (.tuple #[.int .i64 (-(v : Int)), .bool true]) ∧ w' = w := by
  have z0 := size_pos h0
  have z1 : (0 : Int) < s.size := by omega
  have z2 : (1 : Int) ≤ s.size := by omega
  have r1 := isE_f h0
  have r2 := ne_nil h0
  have HM : Hid (∀ w, Calls Tryz.prog 38 #[.string s1, .string ⟨#[45]⟩] w fun e w' => e = .returned (.bool true) ∧ w' = w) := Lib.hid (fun w => by
    have := Tryz.strings_HasPrefix s1 ⟨#[45]⟩ w
    rwa [show Lib.hasPrefix s1.data.toList (⟨#[45]⟩ : ByteArray).data.toList = true from hHM] at this)
  have z3 : (1 : Int) ≤ s1.size := by omega
  have r3 := isE_f hq
  have r4 := ne_nil hq
  have HD : Hid (∀ w, Calls Tryz.prog 50 #[.string q] w fun e w' => e = .returned (.string q) ∧ w = w') := Lib.hid (fun w => by
    have := digitsOf_any q w hsz
    rwa [dl_all hd, show q.extract 0 q.size = q from ba_ext (by rw [Lib.extract_data, List.drop_zero, Nat.sub_zero]; exact List.take_of_length_le (Nat.le_refl _))] at this)
  have HDG := Lib.hid hd
  have HV := Lib.hid hv
  have HBE := Lib.hid (hb z0)
  clear h0 hb hHM hq hd hv hs1
  rcases HBE.out with he | he
  · have t1 : ((s[0].toNat : Int) != 101) = false := by rw [bne_eq_false_iff_eq]; omega
    clear he HBE
    go_enter Tryz.func51, Tryz.ntmps51
    go_wp2_with (first | (go_at_call 38; first | ((with_reducible refine (HM.out _).mono ?_); rintro e w1 ⟨rfl, rfl⟩)) | (go_at_call 50; ((with_reducible refine (HD.out _).mono ?_); rintro e w1 ⟨rfl, rfl⟩)))
    go_loop [5, 38] (fun x i => ∃ k v : Nat, k ≤ q.size ∧ x = .int .i64 v ∧ i = .int .i64 k ∧ v ≤ 1099511627776 ∧ Hid (v = min (val (q.data.toList.take k)) 1099511627776)) (fun _ i => q.size - (intOf i).toNat)
    case atStart => exact ⟨0, 0, Nat.zero_le _, rfl, rfl, by omega, Lib.hid rfl⟩
    case round =>
      obtain ⟨k, x, hk, rfl, rfl, hx, HX⟩ := hrel
      by_cases hlt : k < q.size
      · have hi : (k : Int) < q.size := by omega
        have hlt' : k < q.data.toList.length := hlt
        have hc := isd_iff.1 (List.all_eq_true.1 HDG.out q[k] (List.getElem_mem hlt'))
        obtain ⟨c, hcd⟩ : ∃ c : Nat, q[k].toNat = 48 + c := ⟨q[k].toNat - 48, by omega⟩
        have hc9 : c ≤ 9 := by omega
        have e1 : IntKind.i64.wrap ((x : Int) * 10) = (x : Int) * 10 := IntWalk.i64_in _ (by omega)
        have e2 : IntKind.u8.wrap ((q[k].toNat : Int) - 48) = (c : Int) := by
          rw [hcd, show (((48 + c : Nat) : Int) - 48) = (c : Int) by omega]
          exact IntWalk.u8_in _ (by omega)
        have e3 : IntKind.i64.wrap (c : Int) = (c : Int) := IntWalk.i64_in _ (by omega)
        have e4 : IntKind.i64.wrap ((x : Int) * 10 + (c : Int)) = (x : Int) * 10 + (c : Int) := IntWalk.i64_in _ (by omega)
        obtain ⟨y, hy⟩ : ∃ y : Nat, min (x * 10 + c) 1099511627776 = y := ⟨_, rfl⟩
        have e5 : min ((x : Int) * 10 + (c : Int)) 1099511627776 = (y : Int) := by omega
        have hy2 : y ≤ 1099511627776 := by omega
        have HN : Hid (y = min (val (q.data.toList.take (k + 1))) 1099511627776) := Lib.hid (by
          rw [val_take_succ hlt']
          have h5 := HX.out
          have : (q.data.toList[k]'hlt').toNat = 48 + c := hcd
          omega)
        clear hc hcd HX hy
        go_wp2
        go_round
        case rel => exact ⟨k + 1, y, hlt, rfl, by go_num, hy2, HN⟩
        case measure => simp [intOf]; omega
      · have hi : ¬ (k : Int) < q.size := by omega
        have hxv : x = v := by
          have h5 := HX.out
          rw [List.take_of_length_le (by have : q.data.toList.length = q.size := rfl; omega), HV.out] at h5
          exact h5
        subst hxv
        go_wp2
        go_ret2
        exact ⟨rfl, rfl⟩
  · have t1 : ((s[0].toNat : Int) != 101) = true := by rw [bne_iff_ne]; omega
    have t2 : ((s[0].toNat : Int) != 69) = false := by rw [bne_eq_false_iff_eq]; omega
    clear he HBE
    go_enter Tryz.func51, Tryz.ntmps51
    go_wp2_with (first | (go_at_call 38; first | ((with_reducible refine (HM.out _).mono ?_); rintro e w1 ⟨rfl, rfl⟩)) | (go_at_call 50; ((with_reducible refine (HD.out _).mono ?_); rintro e w1 ⟨rfl, rfl⟩)))
    go_loop [5, 38] (fun x i => ∃ k v : Nat, k ≤ q.size ∧ x = .int .i64 v ∧ i = .int .i64 k ∧ v ≤ 1099511627776 ∧ Hid (v = min (val (q.data.toList.take k)) 1099511627776)) (fun _ i => q.size - (intOf i).toNat)
    case atStart => exact ⟨0, 0, Nat.zero_le _, rfl, rfl, by omega, Lib.hid rfl⟩
    case round =>
      obtain ⟨k, x, hk, rfl, rfl, hx, HX⟩ := hrel
      by_cases hlt : k < q.size
      · have hi : (k : Int) < q.size := by omega
        have hlt' : k < q.data.toList.length := hlt
        have hc := isd_iff.1 (List.all_eq_true.1 HDG.out q[k] (List.getElem_mem hlt'))
        obtain ⟨c, hcd⟩ : ∃ c : Nat, q[k].toNat = 48 + c := ⟨q[k].toNat - 48, by omega⟩
        have hc9 : c ≤ 9 := by omega
        have e1 : IntKind.i64.wrap ((x : Int) * 10) = (x : Int) * 10 := IntWalk.i64_in _ (by omega)
        have e2 : IntKind.u8.wrap ((q[k].toNat : Int) - 48) = (c : Int) := by
          rw [hcd, show (((48 + c : Nat) : Int) - 48) = (c : Int) by omega]
          exact IntWalk.u8_in _ (by omega)
        have e3 : IntKind.i64.wrap (c : Int) = (c : Int) := IntWalk.i64_in _ (by omega)
        have e4 : IntKind.i64.wrap ((x : Int) * 10 + (c : Int)) = (x : Int) * 10 + (c : Int) := IntWalk.i64_in _ (by omega)
        obtain ⟨y, hy⟩ : ∃ y : Nat, min (x * 10 + c) 1099511627776 = y := ⟨_, rfl⟩
        have e5 : min ((x : Int) * 10 + (c : Int)) 1099511627776 = (y : Int) := by omega
        have hy2 : y ≤ 1099511627776 := by omega
        have HN : Hid (y = min (val (q.data.toList.take (k + 1))) 1099511627776) := Lib.hid (by
          rw [val_take_succ hlt']
          have h5 := HX.out
          have : (q.data.toList[k]'hlt').toNat = 48 + c := hcd
          omega)
        clear hc hcd HX hy
        go_wp2
        go_round
        case rel => exact ⟨k + 1, y, hlt, rfl, by go_num, hy2, HN⟩
        case measure => simp [intOf]; omega
      · have hi : ¬ (k : Int) < q.size := by omega
        have hxv : x = v := by
          have h5 := HX.out
          rw [List.take_of_length_le (by have : q.data.toList.length = q.size := rfl; omega), HV.out] at h5
          exact h5
        subst hxv
        go_wp2
        go_ret2
        exact ⟨rfl, rfl⟩
set_option maxRecDepth 100000 in
set_option maxHeartbeats 4000000 in
theorem exp_pe (s : ByteArray) (w : World) (h0 : s.data.toList ≠ []) (hb : ∀ hh : 0 < s.size, (s[0]'hh).toNat = 101 ∨ (s[0]'hh).toNat = 69) (s1 : ByteArray) (h1 : s.extract 1 s.size = s1) (hHM : Lib.hasPrefix s1.data.toList [45] = false) (hHP : Lib.hasPrefix s1.data.toList [43] = true) (q : ByteArray) (h2 : s1.extract 1 s1.size = q) (hs1 : 0 < s1.size) (hq : q.data.toList = []) (hsz : q.size ≤ 9223372036854775807) : Calls Tryz.prog 51 #[.string s] w fun e w' => e = .returned (.tuple #[.int .i64 0, .bool false]) ∧ w' = w := by
  have z0 := size_pos h0
  have z1 : (0 : Int) < s.size := by omega
  have z2 : (1 : Int) ≤ s.size := by omega
  have r1 := isE_f h0
  have r2 := ne_nil h0
  have HM : Hid (∀ w, Calls Tryz.prog 38 #[.string s1, .string ⟨#[45]⟩] w fun e w' => e = .returned (.bool false) ∧ w' = w) := Lib.hid (fun w => by
    have := Tryz.strings_HasPrefix s1 ⟨#[45]⟩ w
    rwa [show Lib.hasPrefix s1.data.toList (⟨#[45]⟩ : ByteArray).data.toList = false from hHM] at this)
  have HP : Hid (∀ w, Calls Tryz.prog 38 #[.string s1, .string ⟨#[43]⟩] w fun e w' => e = .returned (.bool true) ∧ w' = w) := Lib.hid (fun w => by
    have := Tryz.strings_HasPrefix s1 ⟨#[43]⟩ w
    rwa [show Lib.hasPrefix s1.data.toList (⟨#[43]⟩ : ByteArray).data.toList = true from hHP] at this)
  have z3 : (1 : Int) ≤ s1.size := by omega
  have r3 := isE_t hq
  have r4 := eq_nil hq
  have HBE := Lib.hid (hb z0)
  clear h0 hb hHM hHP hq hs1
  rcases HBE.out with he | he
  · have t1 : ((s[0].toNat : Int) != 101) = false := by rw [bne_eq_false_iff_eq]; omega
    clear he HBE
    go_enter Tryz.func51, Tryz.ntmps51
    go_wp2_with (first | (go_at_call 38; first | ((with_reducible refine (HM.out _).mono ?_); rintro e w1 ⟨rfl, rfl⟩) | ((with_reducible refine (HP.out _).mono ?_); rintro e w1 ⟨rfl, rfl⟩)))
    go_ret2
    exact ⟨rfl, rfl⟩
  · have t1 : ((s[0].toNat : Int) != 101) = true := by rw [bne_iff_ne]; omega
    have t2 : ((s[0].toNat : Int) != 69) = false := by rw [bne_eq_false_iff_eq]; omega
    clear he HBE
    go_enter Tryz.func51, Tryz.ntmps51
    go_wp2_with (first | (go_at_call 38; first | ((with_reducible refine (HM.out _).mono ?_); rintro e w1 ⟨rfl, rfl⟩) | ((with_reducible refine (HP.out _).mono ?_); rintro e w1 ⟨rfl, rfl⟩)))
    go_ret2
    exact ⟨rfl, rfl⟩
set_option maxRecDepth 100000 in
set_option maxHeartbeats 4000000 in
theorem exp_pb (s : ByteArray) (w : World) (h0 : s.data.toList ≠ []) (hb : ∀ hh : 0 < s.size, (s[0]'hh).toNat = 101 ∨ (s[0]'hh).toNat = 69) (s1 : ByteArray) (h1 : s.extract 1 s.size = s1) (hHM : Lib.hasPrefix s1.data.toList [45] = false) (hHP : Lib.hasPrefix s1.data.toList [43] = true) (q : ByteArray) (h2 : s1.extract 1 s1.size = q) (hs1 : 0 < s1.size) (hq : q.data.toList ≠ []) (hd : digs q.data.toList = false) (hsz : q.size ≤ 9223372036854775807) : Calls Tryz.prog 51 #[.string s] w fun e w' => e = .returned (.tuple #[.int .i64 0, .bool false]) ∧ w' = w := by
  have z0 := size_pos h0
  have z1 : (0 : Int) < s.size := by omega
  have z2 : (1 : Int) ≤ s.size := by omega
  have r1 := isE_f h0
  have r2 := ne_nil h0
  have HM : Hid (∀ w, Calls Tryz.prog 38 #[.string s1, .string ⟨#[45]⟩] w fun e w' => e = .returned (.bool false) ∧ w' = w) := Lib.hid (fun w => by
    have := Tryz.strings_HasPrefix s1 ⟨#[45]⟩ w
    rwa [show Lib.hasPrefix s1.data.toList (⟨#[45]⟩ : ByteArray).data.toList = false from hHM] at this)
  have HP : Hid (∀ w, Calls Tryz.prog 38 #[.string s1, .string ⟨#[43]⟩] w fun e w' => e = .returned (.bool true) ∧ w' = w) := Lib.hid (fun w => by
    have := Tryz.strings_HasPrefix s1 ⟨#[43]⟩ w
    rwa [show Lib.hasPrefix s1.data.toList (⟨#[43]⟩ : ByteArray).data.toList = true from hHP] at this)
  have z3 : (1 : Int) ≤ s1.size := by omega
  have r3 := isE_f hq
  have r4 := ne_nil hq
  obtain ⟨D, hD⟩ : ∃ D, q.extract 0 (dl q) = D := ⟨_, rfl⟩
  have HD := Lib.hid (fun w => digitsOf_any q w hsz)
  rw [hD] at HD
  have hDq : ¬ D.toList = q.toList := fun e => by
    rw [ByteArray.toList_eq, ByteArray.toList_eq, ← hD, Lib.extract_data, List.drop_zero, Nat.sub_zero] at e
    have := dlL_digs q.data.toList
    rw [← dl_list, e, hd] at this
    cases this
  have hDb : (D.toList == q.toList) = false := beq_eq_false_iff_ne.2 hDq
  clear hD
  have HBE := Lib.hid (hb z0)
  clear h0 hb hHM hHP hq hd hs1
  rcases HBE.out with he | he
  · have t1 : ((s[0].toNat : Int) != 101) = false := by rw [bne_eq_false_iff_eq]; omega
    clear he HBE
    go_enter Tryz.func51, Tryz.ntmps51
    go_wp2_with (first | (go_at_call 38; first | ((with_reducible refine (HM.out _).mono ?_); rintro e w1 ⟨rfl, rfl⟩) | ((with_reducible refine (HP.out _).mono ?_); rintro e w1 ⟨rfl, rfl⟩)) | (go_at_call 50; ((with_reducible refine (HD.out _).mono ?_); rintro e w1 ⟨rfl, rfl⟩)))
    go_ret2
    exact ⟨rfl, rfl⟩
  · have t1 : ((s[0].toNat : Int) != 101) = true := by rw [bne_iff_ne]; omega
    have t2 : ((s[0].toNat : Int) != 69) = false := by rw [bne_eq_false_iff_eq]; omega
    clear he HBE
    go_enter Tryz.func51, Tryz.ntmps51
    go_wp2_with (first | (go_at_call 38; first | ((with_reducible refine (HM.out _).mono ?_); rintro e w1 ⟨rfl, rfl⟩) | ((with_reducible refine (HP.out _).mono ?_); rintro e w1 ⟨rfl, rfl⟩)) | (go_at_call 50; ((with_reducible refine (HD.out _).mono ?_); rintro e w1 ⟨rfl, rfl⟩)))
    go_ret2
    exact ⟨rfl, rfl⟩
set_option maxRecDepth 100000 in
set_option maxHeartbeats 4000000 in
theorem exp_pk (s : ByteArray) (w : World) (h0 : s.data.toList ≠ []) (hb : ∀ hh : 0 < s.size, (s[0]'hh).toNat = 101 ∨ (s[0]'hh).toNat = 69) (s1 : ByteArray) (h1 : s.extract 1 s.size = s1) (hHM : Lib.hasPrefix s1.data.toList [45] = false) (hHP : Lib.hasPrefix s1.data.toList [43] = true) (q : ByteArray) (h2 : s1.extract 1 s1.size = q) (hs1 : 0 < s1.size) (hq : q.data.toList ≠ []) (hd : digs q.data.toList = true) (v : Nat) (hv : min (val q.data.toList) 1099511627776 = v) (hsz : q.size ≤ 9223372036854775807) : Calls Tryz.prog 51 #[.string s] w fun e w' => e = .returned (.tuple #[.int .i64 ((v : Int)), .bool true]) ∧ w' = w := by
  have z0 := size_pos h0
  have z1 : (0 : Int) < s.size := by omega
  have z2 : (1 : Int) ≤ s.size := by omega
  have r1 := isE_f h0
  have r2 := ne_nil h0
  have HM : Hid (∀ w, Calls Tryz.prog 38 #[.string s1, .string ⟨#[45]⟩] w fun e w' => e = .returned (.bool false) ∧ w' = w) := Lib.hid (fun w => by
    have := Tryz.strings_HasPrefix s1 ⟨#[45]⟩ w
    rwa [show Lib.hasPrefix s1.data.toList (⟨#[45]⟩ : ByteArray).data.toList = false from hHM] at this)
  have HP : Hid (∀ w, Calls Tryz.prog 38 #[.string s1, .string ⟨#[43]⟩] w fun e w' => e = .returned (.bool true) ∧ w' = w) := Lib.hid (fun w => by
    have := Tryz.strings_HasPrefix s1 ⟨#[43]⟩ w
    rwa [show Lib.hasPrefix s1.data.toList (⟨#[43]⟩ : ByteArray).data.toList = true from hHP] at this)
  have z3 : (1 : Int) ≤ s1.size := by omega
  have r3 := isE_f hq
  have r4 := ne_nil hq
  have HD : Hid (∀ w, Calls Tryz.prog 50 #[.string q] w fun e w' => e = .returned (.string q) ∧ w = w') := Lib.hid (fun w => by
    have := digitsOf_any q w hsz
    rwa [dl_all hd, show q.extract 0 q.size = q from ba_ext (by rw [Lib.extract_data, List.drop_zero, Nat.sub_zero]; exact List.take_of_length_le (Nat.le_refl _))] at this)
  have HDG := Lib.hid hd
  have HV := Lib.hid hv
  have HBE := Lib.hid (hb z0)
  clear h0 hb hHM hHP hq hd hv hs1
  rcases HBE.out with he | he
  · have t1 : ((s[0].toNat : Int) != 101) = false := by rw [bne_eq_false_iff_eq]; omega
    clear he HBE
    go_enter Tryz.func51, Tryz.ntmps51
    go_wp2_with (first | (go_at_call 38; first | ((with_reducible refine (HM.out _).mono ?_); rintro e w1 ⟨rfl, rfl⟩) | ((with_reducible refine (HP.out _).mono ?_); rintro e w1 ⟨rfl, rfl⟩)) | (go_at_call 50; ((with_reducible refine (HD.out _).mono ?_); rintro e w1 ⟨rfl, rfl⟩)))
    go_loop [5, 38] (fun x i => ∃ k v : Nat, k ≤ q.size ∧ x = .int .i64 v ∧ i = .int .i64 k ∧ v ≤ 1099511627776 ∧ Hid (v = min (val (q.data.toList.take k)) 1099511627776)) (fun _ i => q.size - (intOf i).toNat)
    case atStart => exact ⟨0, 0, Nat.zero_le _, rfl, rfl, by omega, Lib.hid rfl⟩
    case round =>
      obtain ⟨k, x, hk, rfl, rfl, hx, HX⟩ := hrel
      by_cases hlt : k < q.size
      · have hi : (k : Int) < q.size := by omega
        have hlt' : k < q.data.toList.length := hlt
        have hc := isd_iff.1 (List.all_eq_true.1 HDG.out q[k] (List.getElem_mem hlt'))
        obtain ⟨c, hcd⟩ : ∃ c : Nat, q[k].toNat = 48 + c := ⟨q[k].toNat - 48, by omega⟩
        have hc9 : c ≤ 9 := by omega
        have e1 : IntKind.i64.wrap ((x : Int) * 10) = (x : Int) * 10 := IntWalk.i64_in _ (by omega)
        have e2 : IntKind.u8.wrap ((q[k].toNat : Int) - 48) = (c : Int) := by
          rw [hcd, show (((48 + c : Nat) : Int) - 48) = (c : Int) by omega]
          exact IntWalk.u8_in _ (by omega)
        have e3 : IntKind.i64.wrap (c : Int) = (c : Int) := IntWalk.i64_in _ (by omega)
        have e4 : IntKind.i64.wrap ((x : Int) * 10 + (c : Int)) = (x : Int) * 10 + (c : Int) := IntWalk.i64_in _ (by omega)
        obtain ⟨y, hy⟩ : ∃ y : Nat, min (x * 10 + c) 1099511627776 = y := ⟨_, rfl⟩
        have e5 : min ((x : Int) * 10 + (c : Int)) 1099511627776 = (y : Int) := by omega
        have hy2 : y ≤ 1099511627776 := by omega
        have HN : Hid (y = min (val (q.data.toList.take (k + 1))) 1099511627776) := Lib.hid (by
          rw [val_take_succ hlt']
          have h5 := HX.out
          have : (q.data.toList[k]'hlt').toNat = 48 + c := hcd
          omega)
        clear hc hcd HX hy
        go_wp2
        go_round
        case rel => exact ⟨k + 1, y, hlt, rfl, by go_num, hy2, HN⟩
        case measure => simp [intOf]; omega
      · have hi : ¬ (k : Int) < q.size := by omega
        have hxv : x = v := by
          have h5 := HX.out
          rw [List.take_of_length_le (by have : q.data.toList.length = q.size := rfl; omega), HV.out] at h5
          exact h5
        subst hxv
        go_wp2
        go_ret2
        exact ⟨rfl, rfl⟩
  · have t1 : ((s[0].toNat : Int) != 101) = true := by rw [bne_iff_ne]; omega
    have t2 : ((s[0].toNat : Int) != 69) = false := by rw [bne_eq_false_iff_eq]; omega
    clear he HBE
    go_enter Tryz.func51, Tryz.ntmps51
    go_wp2_with (first | (go_at_call 38; first | ((with_reducible refine (HM.out _).mono ?_); rintro e w1 ⟨rfl, rfl⟩) | ((with_reducible refine (HP.out _).mono ?_); rintro e w1 ⟨rfl, rfl⟩)) | (go_at_call 50; ((with_reducible refine (HD.out _).mono ?_); rintro e w1 ⟨rfl, rfl⟩)))
    go_loop [5, 38] (fun x i => ∃ k v : Nat, k ≤ q.size ∧ x = .int .i64 v ∧ i = .int .i64 k ∧ v ≤ 1099511627776 ∧ Hid (v = min (val (q.data.toList.take k)) 1099511627776)) (fun _ i => q.size - (intOf i).toNat)
    case atStart => exact ⟨0, 0, Nat.zero_le _, rfl, rfl, by omega, Lib.hid rfl⟩
    case round =>
      obtain ⟨k, x, hk, rfl, rfl, hx, HX⟩ := hrel
      by_cases hlt : k < q.size
      · have hi : (k : Int) < q.size := by omega
        have hlt' : k < q.data.toList.length := hlt
        have hc := isd_iff.1 (List.all_eq_true.1 HDG.out q[k] (List.getElem_mem hlt'))
        obtain ⟨c, hcd⟩ : ∃ c : Nat, q[k].toNat = 48 + c := ⟨q[k].toNat - 48, by omega⟩
        have hc9 : c ≤ 9 := by omega
        have e1 : IntKind.i64.wrap ((x : Int) * 10) = (x : Int) * 10 := IntWalk.i64_in _ (by omega)
        have e2 : IntKind.u8.wrap ((q[k].toNat : Int) - 48) = (c : Int) := by
          rw [hcd, show (((48 + c : Nat) : Int) - 48) = (c : Int) by omega]
          exact IntWalk.u8_in _ (by omega)
        have e3 : IntKind.i64.wrap (c : Int) = (c : Int) := IntWalk.i64_in _ (by omega)
        have e4 : IntKind.i64.wrap ((x : Int) * 10 + (c : Int)) = (x : Int) * 10 + (c : Int) := IntWalk.i64_in _ (by omega)
        obtain ⟨y, hy⟩ : ∃ y : Nat, min (x * 10 + c) 1099511627776 = y := ⟨_, rfl⟩
        have e5 : min ((x : Int) * 10 + (c : Int)) 1099511627776 = (y : Int) := by omega
        have hy2 : y ≤ 1099511627776 := by omega
        have HN : Hid (y = min (val (q.data.toList.take (k + 1))) 1099511627776) := Lib.hid (by
          rw [val_take_succ hlt']
          have h5 := HX.out
          have : (q.data.toList[k]'hlt').toNat = 48 + c := hcd
          omega)
        clear hc hcd HX hy
        go_wp2
        go_round
        case rel => exact ⟨k + 1, y, hlt, rfl, by go_num, hy2, HN⟩
        case measure => simp [intOf]; omega
      · have hi : ¬ (k : Int) < q.size := by omega
        have hxv : x = v := by
          have h5 := HX.out
          rw [List.take_of_length_le (by have : q.data.toList.length = q.size := rfl; omega), HV.out] at h5
          exact h5
        subst hxv
        go_wp2
        go_ret2
        exact ⟨rfl, rfl⟩
set_option maxRecDepth 100000 in
set_option maxHeartbeats 4000000 in
theorem exp_ne (s : ByteArray) (w : World) (h0 : s.data.toList ≠ []) (hb : ∀ hh : 0 < s.size, (s[0]'hh).toNat = 101 ∨ (s[0]'hh).toNat = 69) (s1 : ByteArray) (h1 : s.extract 1 s.size = s1) (hHM : Lib.hasPrefix s1.data.toList [45] = false) (hHP : Lib.hasPrefix s1.data.toList [43] = false) (hq : s1.data.toList = []) (hsz : s1.size ≤ 9223372036854775807) : Calls Tryz.prog 51 #[.string s] w fun e w' => e = .returned (.tuple #[.int .i64 0, .bool false]) ∧ w' = w := by
  have z0 := size_pos h0
  have z1 : (0 : Int) < s.size := by omega
  have z2 : (1 : Int) ≤ s.size := by omega
  have r1 := isE_f h0
  have r2 := ne_nil h0
  have HM : Hid (∀ w, Calls Tryz.prog 38 #[.string s1, .string ⟨#[45]⟩] w fun e w' => e = .returned (.bool false) ∧ w' = w) := Lib.hid (fun w => by
    have := Tryz.strings_HasPrefix s1 ⟨#[45]⟩ w
    rwa [show Lib.hasPrefix s1.data.toList (⟨#[45]⟩ : ByteArray).data.toList = false from hHM] at this)
  have HP : Hid (∀ w, Calls Tryz.prog 38 #[.string s1, .string ⟨#[43]⟩] w fun e w' => e = .returned (.bool false) ∧ w' = w) := Lib.hid (fun w => by
    have := Tryz.strings_HasPrefix s1 ⟨#[43]⟩ w
    rwa [show Lib.hasPrefix s1.data.toList (⟨#[43]⟩ : ByteArray).data.toList = false from hHP] at this)
  have r3 := isE_t hq
  have r4 := eq_nil hq
  have HBE := Lib.hid (hb z0)
  clear h0 hb hHM hHP hq
  rcases HBE.out with he | he
  · have t1 : ((s[0].toNat : Int) != 101) = false := by rw [bne_eq_false_iff_eq]; omega
    clear he HBE
    go_enter Tryz.func51, Tryz.ntmps51
    go_wp2_with (first | (go_at_call 38; first | ((with_reducible refine (HM.out _).mono ?_); rintro e w1 ⟨rfl, rfl⟩) | ((with_reducible refine (HP.out _).mono ?_); rintro e w1 ⟨rfl, rfl⟩)))
    go_ret2
    exact ⟨rfl, rfl⟩
  · have t1 : ((s[0].toNat : Int) != 101) = true := by rw [bne_iff_ne]; omega
    have t2 : ((s[0].toNat : Int) != 69) = false := by rw [bne_eq_false_iff_eq]; omega
    clear he HBE
    go_enter Tryz.func51, Tryz.ntmps51
    go_wp2_with (first | (go_at_call 38; first | ((with_reducible refine (HM.out _).mono ?_); rintro e w1 ⟨rfl, rfl⟩) | ((with_reducible refine (HP.out _).mono ?_); rintro e w1 ⟨rfl, rfl⟩)))
    go_ret2
    exact ⟨rfl, rfl⟩
set_option maxRecDepth 100000 in
set_option maxHeartbeats 4000000 in
theorem exp_nb (s : ByteArray) (w : World) (h0 : s.data.toList ≠ []) (hb : ∀ hh : 0 < s.size, (s[0]'hh).toNat = 101 ∨ (s[0]'hh).toNat = 69) (s1 : ByteArray) (h1 : s.extract 1 s.size = s1) (hHM : Lib.hasPrefix s1.data.toList [45] = false) (hHP : Lib.hasPrefix s1.data.toList [43] = false) (hq : s1.data.toList ≠ []) (hd : digs s1.data.toList = false) (hsz : s1.size ≤ 9223372036854775807) : Calls Tryz.prog 51 #[.string s] w fun e w' => e = .returned (.tuple #[.int .i64 0, .bool false]) ∧ w' = w := by
  have z0 := size_pos h0
  have z1 : (0 : Int) < s.size := by omega
  have z2 : (1 : Int) ≤ s.size := by omega
  have r1 := isE_f h0
  have r2 := ne_nil h0
  have HM : Hid (∀ w, Calls Tryz.prog 38 #[.string s1, .string ⟨#[45]⟩] w fun e w' => e = .returned (.bool false) ∧ w' = w) := Lib.hid (fun w => by
    have := Tryz.strings_HasPrefix s1 ⟨#[45]⟩ w
    rwa [show Lib.hasPrefix s1.data.toList (⟨#[45]⟩ : ByteArray).data.toList = false from hHM] at this)
  have HP : Hid (∀ w, Calls Tryz.prog 38 #[.string s1, .string ⟨#[43]⟩] w fun e w' => e = .returned (.bool false) ∧ w' = w) := Lib.hid (fun w => by
    have := Tryz.strings_HasPrefix s1 ⟨#[43]⟩ w
    rwa [show Lib.hasPrefix s1.data.toList (⟨#[43]⟩ : ByteArray).data.toList = false from hHP] at this)
  have r3 := isE_f hq
  have r4 := ne_nil hq
  obtain ⟨D, hD⟩ : ∃ D, s1.extract 0 (dl s1) = D := ⟨_, rfl⟩
  have HD := Lib.hid (fun w => digitsOf_any s1 w hsz)
  rw [hD] at HD
  have hDq : ¬ D.toList = s1.toList := fun e => by
    rw [ByteArray.toList_eq, ByteArray.toList_eq, ← hD, Lib.extract_data, List.drop_zero, Nat.sub_zero] at e
    have := dlL_digs s1.data.toList
    rw [← dl_list, e, hd] at this
    cases this
  have hDb : (D.toList == s1.toList) = false := beq_eq_false_iff_ne.2 hDq
  clear hD
  have HBE := Lib.hid (hb z0)
  clear h0 hb hHM hHP hq hd
  rcases HBE.out with he | he
  · have t1 : ((s[0].toNat : Int) != 101) = false := by rw [bne_eq_false_iff_eq]; omega
    clear he HBE
    go_enter Tryz.func51, Tryz.ntmps51
    go_wp2_with (first | (go_at_call 38; first | ((with_reducible refine (HM.out _).mono ?_); rintro e w1 ⟨rfl, rfl⟩) | ((with_reducible refine (HP.out _).mono ?_); rintro e w1 ⟨rfl, rfl⟩)) | (go_at_call 50; ((with_reducible refine (HD.out _).mono ?_); rintro e w1 ⟨rfl, rfl⟩)))
    go_ret2
    exact ⟨rfl, rfl⟩
  · have t1 : ((s[0].toNat : Int) != 101) = true := by rw [bne_iff_ne]; omega
    have t2 : ((s[0].toNat : Int) != 69) = false := by rw [bne_eq_false_iff_eq]; omega
    clear he HBE
    go_enter Tryz.func51, Tryz.ntmps51
    go_wp2_with (first | (go_at_call 38; first | ((with_reducible refine (HM.out _).mono ?_); rintro e w1 ⟨rfl, rfl⟩) | ((with_reducible refine (HP.out _).mono ?_); rintro e w1 ⟨rfl, rfl⟩)) | (go_at_call 50; ((with_reducible refine (HD.out _).mono ?_); rintro e w1 ⟨rfl, rfl⟩)))
    go_ret2
    exact ⟨rfl, rfl⟩
set_option maxRecDepth 100000 in
set_option maxHeartbeats 4000000 in
theorem exp_nk (s : ByteArray) (w : World) (h0 : s.data.toList ≠ []) (hb : ∀ hh : 0 < s.size, (s[0]'hh).toNat = 101 ∨ (s[0]'hh).toNat = 69) (s1 : ByteArray) (h1 : s.extract 1 s.size = s1) (hHM : Lib.hasPrefix s1.data.toList [45] = false) (hHP : Lib.hasPrefix s1.data.toList [43] = false) (hq : s1.data.toList ≠ []) (hd : digs s1.data.toList = true) (v : Nat) (hv : min (val s1.data.toList) 1099511627776 = v) (hsz : s1.size ≤ 9223372036854775807) : Calls Tryz.prog 51 #[.string s] w fun e w' => e = .returned (.tuple #[.int .i64 ((v : Int)), .bool true]) ∧ w' = w := by
  have z0 := size_pos h0
  have z1 : (0 : Int) < s.size := by omega
  have z2 : (1 : Int) ≤ s.size := by omega
  have r1 := isE_f h0
  have r2 := ne_nil h0
  have HM : Hid (∀ w, Calls Tryz.prog 38 #[.string s1, .string ⟨#[45]⟩] w fun e w' => e = .returned (.bool false) ∧ w' = w) := Lib.hid (fun w => by
    have := Tryz.strings_HasPrefix s1 ⟨#[45]⟩ w
    rwa [show Lib.hasPrefix s1.data.toList (⟨#[45]⟩ : ByteArray).data.toList = false from hHM] at this)
  have HP : Hid (∀ w, Calls Tryz.prog 38 #[.string s1, .string ⟨#[43]⟩] w fun e w' => e = .returned (.bool false) ∧ w' = w) := Lib.hid (fun w => by
    have := Tryz.strings_HasPrefix s1 ⟨#[43]⟩ w
    rwa [show Lib.hasPrefix s1.data.toList (⟨#[43]⟩ : ByteArray).data.toList = false from hHP] at this)
  have r3 := isE_f hq
  have r4 := ne_nil hq
  have HD : Hid (∀ w, Calls Tryz.prog 50 #[.string s1] w fun e w' => e = .returned (.string s1) ∧ w = w') := Lib.hid (fun w => by
    have := digitsOf_any s1 w hsz
    rwa [dl_all hd, show s1.extract 0 s1.size = s1 from ba_ext (by rw [Lib.extract_data, List.drop_zero, Nat.sub_zero]; exact List.take_of_length_le (Nat.le_refl _))] at this)
  have HDG := Lib.hid hd
  have HV := Lib.hid hv
  have HBE := Lib.hid (hb z0)
  clear h0 hb hHM hHP hq hd hv
  rcases HBE.out with he | he
  · have t1 : ((s[0].toNat : Int) != 101) = false := by rw [bne_eq_false_iff_eq]; omega
    clear he HBE
    go_enter Tryz.func51, Tryz.ntmps51
    go_wp2_with (first | (go_at_call 38; first | ((with_reducible refine (HM.out _).mono ?_); rintro e w1 ⟨rfl, rfl⟩) | ((with_reducible refine (HP.out _).mono ?_); rintro e w1 ⟨rfl, rfl⟩)) | (go_at_call 50; ((with_reducible refine (HD.out _).mono ?_); rintro e w1 ⟨rfl, rfl⟩)))
    go_loop [5, 38] (fun x i => ∃ k v : Nat, k ≤ s1.size ∧ x = .int .i64 v ∧ i = .int .i64 k ∧ v ≤ 1099511627776 ∧ Hid (v = min (val (s1.data.toList.take k)) 1099511627776)) (fun _ i => s1.size - (intOf i).toNat)
    case atStart => exact ⟨0, 0, Nat.zero_le _, rfl, rfl, by omega, Lib.hid rfl⟩
    case round =>
      obtain ⟨k, x, hk, rfl, rfl, hx, HX⟩ := hrel
      by_cases hlt : k < s1.size
      · have hi : (k : Int) < s1.size := by omega
        have hlt' : k < s1.data.toList.length := hlt
        have hc := isd_iff.1 (List.all_eq_true.1 HDG.out s1[k] (List.getElem_mem hlt'))
        obtain ⟨c, hcd⟩ : ∃ c : Nat, s1[k].toNat = 48 + c := ⟨s1[k].toNat - 48, by omega⟩
        have hc9 : c ≤ 9 := by omega
        have e1 : IntKind.i64.wrap ((x : Int) * 10) = (x : Int) * 10 := IntWalk.i64_in _ (by omega)
        have e2 : IntKind.u8.wrap ((s1[k].toNat : Int) - 48) = (c : Int) := by
          rw [hcd, show (((48 + c : Nat) : Int) - 48) = (c : Int) by omega]
          exact IntWalk.u8_in _ (by omega)
        have e3 : IntKind.i64.wrap (c : Int) = (c : Int) := IntWalk.i64_in _ (by omega)
        have e4 : IntKind.i64.wrap ((x : Int) * 10 + (c : Int)) = (x : Int) * 10 + (c : Int) := IntWalk.i64_in _ (by omega)
        obtain ⟨y, hy⟩ : ∃ y : Nat, min (x * 10 + c) 1099511627776 = y := ⟨_, rfl⟩
        have e5 : min ((x : Int) * 10 + (c : Int)) 1099511627776 = (y : Int) := by omega
        have hy2 : y ≤ 1099511627776 := by omega
        have HN : Hid (y = min (val (s1.data.toList.take (k + 1))) 1099511627776) := Lib.hid (by
          rw [val_take_succ hlt']
          have h5 := HX.out
          have : (s1.data.toList[k]'hlt').toNat = 48 + c := hcd
          omega)
        clear hc hcd HX hy
        go_wp2
        go_round
        case rel => exact ⟨k + 1, y, hlt, rfl, by go_num, hy2, HN⟩
        case measure => simp [intOf]; omega
      · have hi : ¬ (k : Int) < s1.size := by omega
        have hxv : x = v := by
          have h5 := HX.out
          rw [List.take_of_length_le (by have : s1.data.toList.length = s1.size := rfl; omega), HV.out] at h5
          exact h5
        subst hxv
        go_wp2
        go_ret2
        exact ⟨rfl, rfl⟩
  · have t1 : ((s[0].toNat : Int) != 101) = true := by rw [bne_iff_ne]; omega
    have t2 : ((s[0].toNat : Int) != 69) = false := by rw [bne_eq_false_iff_eq]; omega
    clear he HBE
    go_enter Tryz.func51, Tryz.ntmps51
    go_wp2_with (first | (go_at_call 38; first | ((with_reducible refine (HM.out _).mono ?_); rintro e w1 ⟨rfl, rfl⟩) | ((with_reducible refine (HP.out _).mono ?_); rintro e w1 ⟨rfl, rfl⟩)) | (go_at_call 50; ((with_reducible refine (HD.out _).mono ?_); rintro e w1 ⟨rfl, rfl⟩)))
    go_loop [5, 38] (fun x i => ∃ k v : Nat, k ≤ s1.size ∧ x = .int .i64 v ∧ i = .int .i64 k ∧ v ≤ 1099511627776 ∧ Hid (v = min (val (s1.data.toList.take k)) 1099511627776)) (fun _ i => s1.size - (intOf i).toNat)
    case atStart => exact ⟨0, 0, Nat.zero_le _, rfl, rfl, by omega, Lib.hid rfl⟩
    case round =>
      obtain ⟨k, x, hk, rfl, rfl, hx, HX⟩ := hrel
      by_cases hlt : k < s1.size
      · have hi : (k : Int) < s1.size := by omega
        have hlt' : k < s1.data.toList.length := hlt
        have hc := isd_iff.1 (List.all_eq_true.1 HDG.out s1[k] (List.getElem_mem hlt'))
        obtain ⟨c, hcd⟩ : ∃ c : Nat, s1[k].toNat = 48 + c := ⟨s1[k].toNat - 48, by omega⟩
        have hc9 : c ≤ 9 := by omega
        have e1 : IntKind.i64.wrap ((x : Int) * 10) = (x : Int) * 10 := IntWalk.i64_in _ (by omega)
        have e2 : IntKind.u8.wrap ((s1[k].toNat : Int) - 48) = (c : Int) := by
          rw [hcd, show (((48 + c : Nat) : Int) - 48) = (c : Int) by omega]
          exact IntWalk.u8_in _ (by omega)
        have e3 : IntKind.i64.wrap (c : Int) = (c : Int) := IntWalk.i64_in _ (by omega)
        have e4 : IntKind.i64.wrap ((x : Int) * 10 + (c : Int)) = (x : Int) * 10 + (c : Int) := IntWalk.i64_in _ (by omega)
        obtain ⟨y, hy⟩ : ∃ y : Nat, min (x * 10 + c) 1099511627776 = y := ⟨_, rfl⟩
        have e5 : min ((x : Int) * 10 + (c : Int)) 1099511627776 = (y : Int) := by omega
        have hy2 : y ≤ 1099511627776 := by omega
        have HN : Hid (y = min (val (s1.data.toList.take (k + 1))) 1099511627776) := Lib.hid (by
          rw [val_take_succ hlt']
          have h5 := HX.out
          have : (s1.data.toList[k]'hlt').toNat = 48 + c := hcd
          omega)
        clear hc hcd HX hy
        go_wp2
        go_round
        case rel => exact ⟨k + 1, y, hlt, rfl, by go_num, hy2, HN⟩
        case measure => simp [intOf]; omega
      · have hi : ¬ (k : Int) < s1.size := by omega
        have hxv : x = v := by
          have h5 := HX.out
          rw [List.take_of_length_le (by have : s1.data.toList.length = s1.size := rfl; omega), HV.out] at h5
          exact h5
        subst hxv
        go_wp2
        go_ret2
        exact ⟨rfl, rfl⟩
def EXpost (w : World) : Option Int → Ending → World → Prop
  | none, e, w' => e = .returned (.tuple #[.int .i64 0, .bool false]) ∧ w' = w
  | some x, e, w' => e = .returned (.tuple #[.int .i64 x, .bool true]) ∧ w' = w
theorem exponent_any (s : ByteArray) (w : World) (hs : s.size ≤ 9223372036854775807) : Calls Tryz.prog 51 #[.string s] w fun e w' => EXpost w (expo 1099511627776 s.data.toList) e w' := by
  by_cases h0 : s.data.toList = []
  · have e : expo 1099511627776 s.data.toList = some 0 := by unfold expo; rw [if_pos h0]
    rw [e]
    have hs0 : s = ⟨#[]⟩ := ba_ext h0
    rw [hs0]
    exact exp_nil w
  · have z0 := size_pos h0
    have hh := head_at s z0
    by_cases hb : s.data.toList.head? = some 101 ∨ s.data.toList.head? = some 69
    · have hb2 : ∀ hh : 0 < s.size, (s[0]'hh).toNat = 101 ∨ (s[0]'hh).toNat = 69 := fun _ => by
        rw [hh] at hb
        simp only [Option.some.injEq] at hb
        rcases hb with q | q
        · exact .inl (by rw [q]; rfl)
        · exact .inr (by rw [q]; rfl)
      obtain ⟨s1, h1⟩ : ∃ s1, s.extract 1 s.size = s1 := ⟨_, rfl⟩
      have e1 : s.data.toList.drop 1 = s1.data.toList := by rw [← h1, ex_from]
      have hz1 : s1.size ≤ 9223372036854775807 := by rw [← h1, ByteArray.size_extract]; omega
      obtain ⟨q, h2⟩ : ∃ q, s1.extract 1 s1.size = q := ⟨_, rfl⟩
      have e2 : s.data.toList.drop 2 = q.data.toList := by rw [← h2, ex_from, ← e1, List.drop_drop]
      have hz2 : q.size ≤ 9223372036854775807 := by rw [← h2, ByteArray.size_extract]; omega
      have hM := pre_one s1.data.toList 45
      have hP := pre_one s1.data.toList 43
      have hpos : ∀ c : UInt8, s1.data.toList.head? = some c → 0 < s1.size := fun c h => size_pos (fun e => by rw [e] at h; cases h)
      unfold expo
      rw [if_neg h0, if_pos hb]
      unfold qx
      rw [e1, e2]
      by_cases m1 : s1.data.toList.head? = some 45
      · rw [decide_eq_true m1] at hM
        simp only [m1, true_or, if_true]
        by_cases hq : q.data.toList = []
        · rw [if_pos (.inl hq)]; exact exp_me s w h0 hb2 s1 h1 hM q h2 (hpos _ m1) hq hz2
        · by_cases hd : digs q.data.toList = false
          · rw [if_pos (.inr hd)]; exact exp_mb s w h0 hb2 s1 h1 hM q h2 (hpos _ m1) hq hd hz2
          · rw [if_neg (fun h => h.elim hq hd)]; exact exp_mk s w h0 hb2 s1 h1 hM q h2 (hpos _ m1) hq (by simpa using hd) _ rfl hz2
      · rw [decide_eq_false m1] at hM
        by_cases p1 : s1.data.toList.head? = some 43
        · rw [decide_eq_true p1] at hP
          have hno : ¬ (some (43 : UInt8) = some 45) := by decide
          simp only [p1, or_true, if_true, hno, if_false]
          by_cases hq : q.data.toList = []
          · rw [if_pos (.inl hq)]; exact exp_pe s w h0 hb2 s1 h1 hM hP q h2 (hpos _ p1) hq hz2
          · by_cases hd : digs q.data.toList = false
            · rw [if_pos (.inr hd)]; exact exp_pb s w h0 hb2 s1 h1 hM hP q h2 (hpos _ p1) hq hd hz2
            · rw [if_neg (fun h => h.elim hq hd)]; exact exp_pk s w h0 hb2 s1 h1 hM hP q h2 (hpos _ p1) hq (by simpa using hd) _ rfl hz2
        · rw [decide_eq_false p1] at hP
          simp only [m1, p1, or_self, if_false]
          by_cases hq : s1.data.toList = []
          · rw [if_pos (.inl hq)]; exact exp_ne s w h0 hb2 s1 h1 hM hP hq hz1
          · by_cases hd : digs s1.data.toList = false
            · rw [if_pos (.inr hd)]; exact exp_nb s w h0 hb2 s1 h1 hM hP hq hd hz1
            · rw [if_neg (fun h => h.elim hq hd)]; exact exp_nk s w h0 hb2 s1 h1 hM hP hq (by simpa using hd) _ rfl hz1
    · have e : expo 1099511627776 s.data.toList = none := by unfold expo; rw [if_neg h0, if_neg hb]
      rw [e]
      refine exp_other s w h0 (fun _ => ?_)
      rw [hh] at hb
      simp only [Option.some.injEq] at hb
      exact ⟨fun q => hb (.inl (u8_of (by decide) q)), fun q => hb (.inr (u8_of (by decide) q))⟩
end Go.Proofs.YtaphckipkaggkaaGreatDoor.Dec
