/-
  Contracts of package base and its reference: strings in pieces.
-/
import Derived.Test.YtacmallcfaokpaaBasL
import Derived.Test.YtacmallcfaokpaaStrRow
namespace Go.Proofs.Ytacmallcfaokpaa.Bas
open Go.RowKit SR

/-- Where piece k begins. -/
def pf (s : ByteArray) (W k : Nat) : Nat := min (k * W) s.size
def pc (s : ByteArray) (W k : Nat) : ByteArray := s.extract (pf s W k) (pf s W (k + 1))
def pieces (s : ByteArray) (W k : Nat) : List ByteArray := (List.range k).map (pc s W)
theorem pieces_succ (s : ByteArray) (W k : Nat) : pieces s W (k + 1) = pieces s W k ++ [pc s W k] := by simp [pieces, List.range_succ]
theorem pieces_len (s : ByteArray) (W k : Nat) : (pieces s W k).length = k := by simp [pieces]
theorem pf_le (s : ByteArray) (W k : Nat) : pf s W k ≤ s.size := Nat.min_le_right _ _
theorem pf_succ {s : ByteArray} {W k : Nat} (h : pf s W k < s.size) : pf s W (k + 1) = pf s W k + min W (s.size - pf s W k) := by
  unfold pf at *
  rw [Nat.add_mul]
  omega
theorem pf_ge {s : ByteArray} {W k : Nat} (hW : 1 ≤ W) (h : ∀ j, j < k → pf s W j < s.size) : k ≤ pf s W k := by
  induction k with
  | zero => exact Nat.zero_le _
  | succ k ih =>
    have h1 := h k (by omega)
    have := ih fun j hj => h j (by omega)
    rw [pf_succ h1]; omega
theorem pf_one {s : ByteArray} {W m n : Nat} (h1 : pf s W m = s.size) (h2 : ∀ j, j < m → pf s W j < s.size) (h3 : pf s W n = s.size) (h4 : ∀ j, j < n → pf s W j < s.size) : m = n := by
  rcases Nat.lt_trichotomy m n with h | h | h
  · have := h4 m h; omega
  · exact h
  · have := h2 n h; omega
def FPost (s : ByteArray) (W : Nat) (w : World) (e : Ending) (w' : World) : Prop := ∃ (k : Nat) (v : Value), e = .returned v ∧ Below w.heap.size w w' ∧ SBuf w' w.heap.size v (pieces s W k) ∧ pf s W k = s.size ∧ ∀ j, j < k → pf s W j < s.size
theorem ext_ext0 (s : ByteArray) {p e : Nat} (h : p + e ≤ s.size) : (s.extract p s.size).extract 0 e = s.extract p (p + e) := by
  apply ba_ext
  rw [ext_list, ext_list, ext_list, List.drop_zero, Nat.sub_zero, List.take_take, Nat.min_eq_left (by omega), Nat.add_sub_cancel_left]
theorem ext_ext1 (s : ByteArray) {p e : Nat} (h : p + e ≤ s.size) : (s.extract p s.size).extract e (s.size - p) = s.extract (p + e) s.size := by
  apply ba_ext
  rw [ext_list, ext_list, ext_list, List.drop_take, List.drop_drop, List.take_take]
  congr 1; omega
theorem ext_0 (s : ByteArray) : s.extract 0 s.size = s := ba_ext (by rw [ext_drop]; rfl)
theorem ext_end (s : ByteArray) : s.extract s.size s.size = ByteArray.empty := ba_ext (by rw [ext_list]; simp)
set_option maxRecDepth 100000 in
set_option maxHeartbeats 8000000 in
theorem fold_any (s : ByteArray) (y : Int) (W : Nat) (w : World) (hs : s.size ≤ 4000) (h0 : 0 < s.size) (hy : -9223372036854775808 ≤ y ∧ y ≤ 9223372036854775807) (hW : (y < 1 ∧ W = s.size) ∨ (1 ≤ y ∧ y = (W : Int))) : Calls Try.prog 22 #[.string s, .int .i64 y] w (FPost s W w) := by
  have hW1 : 1 ≤ W := by omega
  have hWm : W ≤ 9223372036854775807 := by omega
  have hy1 := hy.1
  have hy2 := hy.2
  clear hy
  rcases hW with ⟨h1, rfl⟩ | ⟨h1, rfl⟩
  · go_enter Try.func22, Try.ntmps22
    go_wp2
    go_loopw [0, 5] (fun x v wr => ∃ k : Nat, x = .string (s.extract (pf s s.size k) s.size) ∧ Hid (∀ j, j < k → pf s s.size j < s.size) ∧ Below w.heap.size w wr ∧ w.heap.size ≤ wr.heap.size ∧ Hid (SBuf wr w.heap.size v (pieces s s.size k))) (fun x _ _ => match x with | .string x => x.size | _ => 0)
    case atStart =>
      refine ⟨0, ?_, Lib.hid fun j hj => by omega, Below.refl _ _, Nat.le_refl _, Lib.hid (SBuf.nil _ _)⟩
      rw [show pf s s.size 0 = 0 by unfold pf; simp, ext_0]
    case round =>
      obtain ⟨k, rfl, HK, hb, hbs, HB⟩ := hrel
      have hle := pf_le s s.size k
      have hge := pf_ge hW1 HK.out
      have HS := Lib.hid (pieces_succ s s.size k)
      have HU := Lib.hid (fun h => pf_succ (s := s) (W := s.size) (k := k) h)
      have HPC : Hid (pc s s.size k = s.extract (pf s s.size k) (pf s s.size (k + 1))) := Lib.hid rfl
      obtain ⟨p, HP⟩ : ∃ p, Hid (pf s s.size k = p) := ⟨_, Lib.hid rfl⟩
      rw [HP.out] at hle hge HU HPC ⊢
      by_cases hlt : p < s.size
      · have hu := HU.out hlt
        obtain ⟨e, he⟩ : ∃ e, min s.size (s.size - p) = e := ⟨_, rfl⟩
        rw [he] at hu
        have hpe : p + e ≤ s.size := by omega
        have he1 : 1 ≤ e := by omega
        have HK' : Hid (∀ j, j < k + 1 → pf s s.size j < s.size) := Lib.hid fun j hj => by
          by_cases h : j = k
          · rw [h, HP.out]; exact hlt
          · exact HK.out j (by omega)
        have hx0 := ext_ext0 s hpe
        have hx1 := ext_ext1 s hpe
        have hne := ext_ne hlt
        have hzz : (s.extract p s.size).size = s.size - p := by rw [ByteArray.size_extract]; omega
        rw [← hzz] at hx1
        rw [hu, ← hx0] at HPC
        have HU2 := Lib.hid hu
        obtain ⟨S, HSs⟩ : ∃ S, Hid (s.extract p s.size = S) := ⟨_, Lib.hid rfl⟩
        rw [HSs.out] at HPC hx1 hne hzz ⊢
        have hmn : min (s.size : Int) (S.size : Int) = (e : Int) := by rw [hzz]; omega
        have hS4 : S.size ≤ 4000 := by omega
        have heS : e ≤ S.size := by omega
        have HZZ := Lib.hid hzz
        have HX1 : Hid (∀ x : ByteArray, x = S.extract e S.size → x = s.extract (p + e) s.size) := Lib.hid fun x h => by rw [h, hx1]
        clear hu he hzz HU hx0 hx1
        by_cases hES : e = S.size
        · subst hES
          have HPC2 : Hid (pc s s.size k = S) := Lib.hid (by rw [HPC.out, ext_0])
          have HX2 : Hid (ByteArray.empty = s.extract (pf s s.size (k + 1)) s.size) := Lib.hid (by rw [HU2.out]; exact HX1.out _ (ext_end S).symm)
          go_wp2_with (at_builtin; refine wpList_apps (by rfl) (.tmp 17) (.tmp 21) (by rfl) (by rfl) HB.out hb hbs (by rfl) (by rw [pieces_len]; omega) ?_; intro v' w' hB' hb' hbs'; have HB' := Lib.hid hB'; clear hB')
          go_roundw
          case rel => exact ⟨k + 1, by rw [HX2.out], HK', hb', hbs', Lib.hid (by rw [HS.out, HPC2.out]; exact HB'.out)⟩
          case measure => simp; omega
        · have HX2 : Hid (S.extract e S.size = s.extract (pf s s.size (k + 1)) s.size) := Lib.hid (by rw [HU2.out]; exact HX1.out _ rfl)
          go_wp2_with (at_builtin; refine wpList_apps (by rfl) (.tmp 17) (.tmp 21) (by rfl) (by rfl) HB.out hb hbs (by rfl) (by rw [pieces_len]; omega) ?_; intro v' w' hB' hb' hbs'; have HB' := Lib.hid hB'; clear hB')
          go_roundw
          case rel => exact ⟨k + 1, by rw [HX2.out], HK', hb', hbs', Lib.hid (by rw [HS.out, HPC.out]; exact HB'.out)⟩
          case measure => simp [ByteArray.size_extract]; omega
      · have hpz : p = s.size := by omega
        rw [hpz, ext_end]
        have hne : ByteArray.empty.toList.isEmpty = true := by rw [toList_data]; rfl
        have HM : Hid (pf s s.size k = s.size) := Lib.hid (HP.out.trans hpz)
        clear hpz
        go_wp2
        go_ret
        exact ⟨k, _, rfl, hb, HB.out, HM.out, HK.out⟩
  · have hdf := decide_eq_false (show ¬ (W : Int) < 1 by omega)
    go_enter Try.func22, Try.ntmps22
    go_wp2
    go_loopw [0, 5] (fun x v wr => ∃ k : Nat, x = .string (s.extract (pf s W k) s.size) ∧ Hid (∀ j, j < k → pf s W j < s.size) ∧ Below w.heap.size w wr ∧ w.heap.size ≤ wr.heap.size ∧ Hid (SBuf wr w.heap.size v (pieces s W k))) (fun x _ _ => match x with | .string x => x.size | _ => 0)
    case atStart =>
      refine ⟨0, ?_, Lib.hid fun j hj => by omega, Below.refl _ _, Nat.le_refl _, Lib.hid (SBuf.nil _ _)⟩
      rw [show pf s W 0 = 0 by unfold pf; simp, ext_0]
    case round =>
      obtain ⟨k, rfl, HK, hb, hbs, HB⟩ := hrel
      have hle := pf_le s W k
      have hge := pf_ge hW1 HK.out
      have HS := Lib.hid (pieces_succ s W k)
      have HU := Lib.hid (fun h => pf_succ (s := s) (W := W) (k := k) h)
      have HPC : Hid (pc s W k = s.extract (pf s W k) (pf s W (k + 1))) := Lib.hid rfl
      obtain ⟨p, HP⟩ : ∃ p, Hid (pf s W k = p) := ⟨_, Lib.hid rfl⟩
      rw [HP.out] at hle hge HU HPC ⊢
      by_cases hlt : p < s.size
      · have hu := HU.out hlt
        obtain ⟨e, he⟩ : ∃ e, min W (s.size - p) = e := ⟨_, rfl⟩
        rw [he] at hu
        have hpe : p + e ≤ s.size := by omega
        have he1 : 1 ≤ e := by omega
        have HK' : Hid (∀ j, j < k + 1 → pf s W j < s.size) := Lib.hid fun j hj => by
          by_cases h : j = k
          · rw [h, HP.out]; exact hlt
          · exact HK.out j (by omega)
        have hx0 := ext_ext0 s hpe
        have hx1 := ext_ext1 s hpe
        have hne := ext_ne hlt
        have hzz : (s.extract p s.size).size = s.size - p := by rw [ByteArray.size_extract]; omega
        rw [← hzz] at hx1
        rw [hu, ← hx0] at HPC
        have HU2 := Lib.hid hu
        obtain ⟨S, HSs⟩ : ∃ S, Hid (s.extract p s.size = S) := ⟨_, Lib.hid rfl⟩
        rw [HSs.out] at HPC hx1 hne hzz ⊢
        have hmn : min (W : Int) (S.size : Int) = (e : Int) := by rw [hzz]; omega
        have hS4 : S.size ≤ 4000 := by omega
        have heS : e ≤ S.size := by omega
        have HZZ := Lib.hid hzz
        have HX1 : Hid (∀ x : ByteArray, x = S.extract e S.size → x = s.extract (p + e) s.size) := Lib.hid fun x h => by rw [h, hx1]
        clear hu he hzz HU hx0 hx1
        by_cases hES : e = S.size
        · subst hES
          have HPC2 : Hid (pc s W k = S) := Lib.hid (by rw [HPC.out, ext_0])
          have HX2 : Hid (ByteArray.empty = s.extract (pf s W (k + 1)) s.size) := Lib.hid (by rw [HU2.out]; exact HX1.out _ (ext_end S).symm)
          go_wp2_with (at_builtin; refine wpList_apps (by rfl) (.tmp 17) (.tmp 21) (by rfl) (by rfl) HB.out hb hbs (by rfl) (by rw [pieces_len]; omega) ?_; intro v' w' hB' hb' hbs'; have HB' := Lib.hid hB'; clear hB')
          go_roundw
          case rel => exact ⟨k + 1, by rw [HX2.out], HK', hb', hbs', Lib.hid (by rw [HS.out, HPC2.out]; exact HB'.out)⟩
          case measure => simp; omega
        · have HX2 : Hid (S.extract e S.size = s.extract (pf s W (k + 1)) s.size) := Lib.hid (by rw [HU2.out]; exact HX1.out _ rfl)
          go_wp2_with (at_builtin; refine wpList_apps (by rfl) (.tmp 17) (.tmp 21) (by rfl) (by rfl) HB.out hb hbs (by rfl) (by rw [pieces_len]; omega) ?_; intro v' w' hB' hb' hbs'; have HB' := Lib.hid hB'; clear hB')
          go_roundw
          case rel => exact ⟨k + 1, by rw [HX2.out], HK', hb', hbs', Lib.hid (by rw [HS.out, HPC.out]; exact HB'.out)⟩
          case measure => simp [ByteArray.size_extract]; omega
      · have hpz : p = s.size := by omega
        rw [hpz, ext_end]
        have hne : ByteArray.empty.toList.isEmpty = true := by rw [toList_data]; rfl
        have HM : Hid (pf s W k = s.size) := Lib.hid (HP.out.trans hpz)
        clear hpz
        go_wp2
        go_ret
        exact ⟨k, _, rfl, hb, HB.out, HM.out, HK.out⟩
set_option maxRecDepth 100000 in
set_option maxHeartbeats 8000000 in
theorem rfold_any (s : ByteArray) (y : Int) (W : Nat) (w : World) (hs : s.size ≤ 4000) (h0 : 0 < s.size) (hy : -9223372036854775808 ≤ y ∧ y ≤ 9223372036854775807) (hW : (y < 1 ∧ W = s.size) ∨ (1 ≤ y ∧ y = (W : Int))) : Calls Try.prog 23 #[.string s, .int .i64 y] w (FPost s W w) := by
  have hW1 : 1 ≤ W := by omega
  have hWm : W ≤ 9223372036854775807 := by omega
  have hy1 := hy.1
  have hy2 := hy.2
  clear hy
  rcases hW with ⟨h1, rfl⟩ | ⟨h1, rfl⟩
  · have hmx : max (1 : Int) (s.size : Int) = (s.size : Int) := by omega
    go_enter Try.func23, Try.ntmps23
    go_wp2
    clear hmx
    go_loopw [0, 5] (fun x v wr => ∃ k : Nat, x = .string (s.extract (pf s s.size k) s.size) ∧ Hid (∀ j, j < k → pf s s.size j < s.size) ∧ Below w.heap.size w wr ∧ w.heap.size ≤ wr.heap.size ∧ Hid (SBuf wr w.heap.size v (pieces s s.size k))) (fun x _ _ => match x with | .string x => x.size | _ => 0)
    case atStart =>
      refine ⟨0, ?_, Lib.hid fun j hj => by omega, Below.refl _ _, Nat.le_refl _, Lib.hid (SBuf.nil _ _)⟩
      rw [show pf s s.size 0 = 0 by unfold pf; simp, ext_0]
    case round =>
      obtain ⟨k, rfl, HK, hb, hbs, HB⟩ := hrel
      have hle := pf_le s s.size k
      have hge := pf_ge hW1 HK.out
      have HS := Lib.hid (pieces_succ s s.size k)
      have HU := Lib.hid (fun h => pf_succ (s := s) (W := s.size) (k := k) h)
      have HPC : Hid (pc s s.size k = s.extract (pf s s.size k) (pf s s.size (k + 1))) := Lib.hid rfl
      obtain ⟨p, HP⟩ : ∃ p, Hid (pf s s.size k = p) := ⟨_, Lib.hid rfl⟩
      rw [HP.out] at hle hge HU HPC ⊢
      by_cases hlt : p < s.size
      · have hu := HU.out hlt
        obtain ⟨e, he⟩ : ∃ e, min s.size (s.size - p) = e := ⟨_, rfl⟩
        rw [he] at hu
        have hpe : p + e ≤ s.size := by omega
        have he1 : 1 ≤ e := by omega
        have HK' : Hid (∀ j, j < k + 1 → pf s s.size j < s.size) := Lib.hid fun j hj => by
          by_cases h : j = k
          · rw [h, HP.out]; exact hlt
          · exact HK.out j (by omega)
        have hx0 := ext_ext0 s hpe
        have hx1 := ext_ext1 s hpe
        have hne := ext_ne hlt
        have hzz : (s.extract p s.size).size = s.size - p := by rw [ByteArray.size_extract]; omega
        rw [← hzz] at hx1
        rw [hu, ← hx0] at HPC
        have HU2 := Lib.hid hu
        obtain ⟨S, HSs⟩ : ∃ S, Hid (s.extract p s.size = S) := ⟨_, Lib.hid rfl⟩
        rw [HSs.out] at HPC hx1 hne hzz ⊢
        have hmn : min (s.size : Int) (S.size : Int) = (e : Int) := by rw [hzz]; omega
        have hS4 : S.size ≤ 4000 := by omega
        have heS : e ≤ S.size := by omega
        have HZZ := Lib.hid hzz
        have HX1 : Hid (∀ x : ByteArray, x = S.extract e S.size → x = s.extract (p + e) s.size) := Lib.hid fun x h => by rw [h, hx1]
        have hgt : decide ((0 : Int) < (S.size : Int)) = true := by simp; omega
        clear hu he hzz HU hx0 hx1
        by_cases hES : e = S.size
        · subst hES
          have HPC2 : Hid (pc s s.size k = S) := Lib.hid (by rw [HPC.out, ext_0])
          have HX2 : Hid (ByteArray.empty = s.extract (pf s s.size (k + 1)) s.size) := Lib.hid (by rw [HU2.out]; exact HX1.out _ (ext_end S).symm)
          go_wp2_with (at_builtin; refine wpList_apps (by rfl) (.tmp 19) (.tmp 23) (by rfl) (by rfl) HB.out hb hbs (by rfl) (by rw [pieces_len]; omega) ?_; intro v' w' hB' hb' hbs'; have HB' := Lib.hid hB'; clear hB')
          go_roundw
          case rel => exact ⟨k + 1, by rw [HX2.out], HK', hb', hbs', Lib.hid (by rw [HS.out, HPC2.out]; exact HB'.out)⟩
          case measure => simp; omega
        · have HX2 : Hid (S.extract e S.size = s.extract (pf s s.size (k + 1)) s.size) := Lib.hid (by rw [HU2.out]; exact HX1.out _ rfl)
          go_wp2_with (at_builtin; refine wpList_apps (by rfl) (.tmp 19) (.tmp 23) (by rfl) (by rfl) HB.out hb hbs (by rfl) (by rw [pieces_len]; omega) ?_; intro v' w' hB' hb' hbs'; have HB' := Lib.hid hB'; clear hB')
          go_roundw
          case rel => exact ⟨k + 1, by rw [HX2.out], HK', hb', hbs', Lib.hid (by rw [HS.out, HPC.out]; exact HB'.out)⟩
          case measure => simp [ByteArray.size_extract]; omega
      · have hpz : p = s.size := by omega
        rw [hpz, ext_end]
        have hne : ByteArray.empty.toList.isEmpty = true := by rw [toList_data]; rfl
        have HM : Hid (pf s s.size k = s.size) := Lib.hid (HP.out.trans hpz)
        clear hpz
        go_wp2
        go_ret
        exact ⟨k, _, rfl, hb, HB.out, HM.out, HK.out⟩
  · have hdf := decide_eq_false (show ¬ (W : Int) < 1 by omega)
    go_enter Try.func23, Try.ntmps23
    go_wp2
    go_loopw [0, 5] (fun x v wr => ∃ k : Nat, x = .string (s.extract (pf s W k) s.size) ∧ Hid (∀ j, j < k → pf s W j < s.size) ∧ Below w.heap.size w wr ∧ w.heap.size ≤ wr.heap.size ∧ Hid (SBuf wr w.heap.size v (pieces s W k))) (fun x _ _ => match x with | .string x => x.size | _ => 0)
    case atStart =>
      refine ⟨0, ?_, Lib.hid fun j hj => by omega, Below.refl _ _, Nat.le_refl _, Lib.hid (SBuf.nil _ _)⟩
      rw [show pf s W 0 = 0 by unfold pf; simp, ext_0]
    case round =>
      obtain ⟨k, rfl, HK, hb, hbs, HB⟩ := hrel
      have hle := pf_le s W k
      have hge := pf_ge hW1 HK.out
      have HS := Lib.hid (pieces_succ s W k)
      have HU := Lib.hid (fun h => pf_succ (s := s) (W := W) (k := k) h)
      have HPC : Hid (pc s W k = s.extract (pf s W k) (pf s W (k + 1))) := Lib.hid rfl
      obtain ⟨p, HP⟩ : ∃ p, Hid (pf s W k = p) := ⟨_, Lib.hid rfl⟩
      rw [HP.out] at hle hge HU HPC ⊢
      by_cases hlt : p < s.size
      · have hu := HU.out hlt
        obtain ⟨e, he⟩ : ∃ e, min W (s.size - p) = e := ⟨_, rfl⟩
        rw [he] at hu
        have hpe : p + e ≤ s.size := by omega
        have he1 : 1 ≤ e := by omega
        have HK' : Hid (∀ j, j < k + 1 → pf s W j < s.size) := Lib.hid fun j hj => by
          by_cases h : j = k
          · rw [h, HP.out]; exact hlt
          · exact HK.out j (by omega)
        have hx0 := ext_ext0 s hpe
        have hx1 := ext_ext1 s hpe
        have hne := ext_ne hlt
        have hzz : (s.extract p s.size).size = s.size - p := by rw [ByteArray.size_extract]; omega
        rw [← hzz] at hx1
        rw [hu, ← hx0] at HPC
        have HU2 := Lib.hid hu
        obtain ⟨S, HSs⟩ : ∃ S, Hid (s.extract p s.size = S) := ⟨_, Lib.hid rfl⟩
        rw [HSs.out] at HPC hx1 hne hzz ⊢
        have hmn : min (W : Int) (S.size : Int) = (e : Int) := by rw [hzz]; omega
        have hS4 : S.size ≤ 4000 := by omega
        have heS : e ≤ S.size := by omega
        have HZZ := Lib.hid hzz
        have HX1 : Hid (∀ x : ByteArray, x = S.extract e S.size → x = s.extract (p + e) s.size) := Lib.hid fun x h => by rw [h, hx1]
        have hgt : decide ((0 : Int) < (S.size : Int)) = true := by simp; omega
        clear hu he hzz HU hx0 hx1
        by_cases hES : e = S.size
        · subst hES
          have HPC2 : Hid (pc s W k = S) := Lib.hid (by rw [HPC.out, ext_0])
          have HX2 : Hid (ByteArray.empty = s.extract (pf s W (k + 1)) s.size) := Lib.hid (by rw [HU2.out]; exact HX1.out _ (ext_end S).symm)
          go_wp2_with (at_builtin; refine wpList_apps (by rfl) (.tmp 19) (.tmp 23) (by rfl) (by rfl) HB.out hb hbs (by rfl) (by rw [pieces_len]; omega) ?_; intro v' w' hB' hb' hbs'; have HB' := Lib.hid hB'; clear hB')
          go_roundw
          case rel => exact ⟨k + 1, by rw [HX2.out], HK', hb', hbs', Lib.hid (by rw [HS.out, HPC2.out]; exact HB'.out)⟩
          case measure => simp; omega
        · have HX2 : Hid (S.extract e S.size = s.extract (pf s W (k + 1)) s.size) := Lib.hid (by rw [HU2.out]; exact HX1.out _ rfl)
          go_wp2_with (at_builtin; refine wpList_apps (by rfl) (.tmp 19) (.tmp 23) (by rfl) (by rfl) HB.out hb hbs (by rfl) (by rw [pieces_len]; omega) ?_; intro v' w' hB' hb' hbs'; have HB' := Lib.hid hB'; clear hB')
          go_roundw
          case rel => exact ⟨k + 1, by rw [HX2.out], HK', hb', hbs', Lib.hid (by rw [HS.out, HPC.out]; exact HB'.out)⟩
          case measure => simp [ByteArray.size_extract]; omega
      · have hpz : p = s.size := by omega
        rw [hpz, ext_end]
        have hne : ByteArray.empty.toList.isEmpty = true := by rw [toList_data]; rfl
        have HM : Hid (pf s W k = s.size) := Lib.hid (HP.out.trans hpz)
        clear hpz
        go_wp2
        go_ret
        exact ⟨k, _, rfl, hb, HB.out, HM.out, HK.out⟩
theorem fold_nil (y : Int) (w : World) (hy : -9223372036854775808 ≤ y ∧ y ≤ 9223372036854775807) : Calls Try.prog 22 #[.string ByteArray.empty, .int .i64 y] w fun e w' => e = .returned (.slice none 0 0) ∧ w = w' := by
  have hne : ByteArray.empty.toList.isEmpty = true := by rw [toList_data]; rfl
  have hsz : ByteArray.empty.size = 0 := rfl
  have hy1 := hy.1
  have hy2 := hy.2
  clear hy
  by_cases h : y < 1
  all_goals
    go_enter Try.func22, Try.ntmps22
    go_wp2
    go_loop [0, 5] (fun x v => x = .string ByteArray.empty ∧ v = .slice none 0 0) (fun _ _ => 0)
    case atStart => exact ⟨rfl, rfl⟩
    case round =>
      obtain ⟨rfl, rfl⟩ := hrel
      go_wp2
      go_ret
      exact ⟨rfl, rfl⟩
theorem rfold_nil (y : Int) (w : World) (hy : -9223372036854775808 ≤ y ∧ y ≤ 9223372036854775807) : Calls Try.prog 23 #[.string ByteArray.empty, .int .i64 y] w fun e w' => e = .returned (.slice none 0 0) ∧ w = w' := by
  have hne : ByteArray.empty.toList.isEmpty = true := by rw [toList_data]; rfl
  have hsz : ByteArray.empty.size = 0 := rfl
  have hy1 := hy.1
  have hy2 := hy.2
  clear hy
  by_cases h : y < 1
  all_goals
    go_enter Try.func23, Try.ntmps23
    go_wp2
    go_loop [0, 5] (fun x v => x = .string ByteArray.empty ∧ v = .slice none 0 0) (fun _ _ => 0)
    case atStart => exact ⟨rfl, rfl⟩
    case round =>
      obtain ⟨rfl, rfl⟩ := hrel
      go_wp2
      go_ret
      exact ⟨rfl, rfl⟩
end Go.Proofs.Ytacmallcfaokpaa.Bas
