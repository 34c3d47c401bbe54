/-
  Contracts of package utf and its reference: lines.
-/
import Derived.Test.YtpoenakijbbegaaDoorUtfH
import Derived.Test.YtpoenakijbbegaaDoorShelf3
namespace Go.Proofs.YtpoenakijbbegaaDoor.Utf
open Go.RowKit
set_option linter.unusedVariables false
set_option linter.unusedSimpArgs false

theorem toList_data (s : ByteArray) : s.toList = s.data.toList := by
  obtain ⟨⟨l⟩⟩ := s
  rw [show (ByteArray.mk { toList := l }) = ByteArray.mk l.toArray from rfl, ByteArray.toList_mk]
/-- The length of the first line, with its end. -/
def fln : List UInt8 → Nat
  | [] => 0
  | c :: t => if c = 10 then 1 else fln t + 1
theorem fln_le (l : List UInt8) : fln l ≤ l.length := by
  induction l with
  | nil => exact Nat.le_refl _
  | cons c t ih => 
    unfold fln
    rw [List.length_cons]
    split <;> omega
theorem fln_pos {l : List UInt8} (h : l ≠ []) : 1 ≤ fln l := by
  cases l with
  | nil => exact absurd rfl h
  | cons c t => unfold fln; split <;> omega
theorem index_fln (l : List UInt8) : (Lib.indexByte l 10 = -1 ∧ fln l = l.length) ∨ ∃ k : Nat, Lib.indexByte l 10 = (k : Int) ∧ fln l = k + 1 := by
  induction l with
  | nil => exact .inl ⟨rfl, rfl⟩
  | cons c t ih =>
    unfold Lib.indexByte fln
    by_cases h : c = 10
    · right; exact ⟨0, by rw [if_pos (by rw [h]; rfl)]; first | rfl | skip, by rw [if_pos h]⟩
    · rw [if_neg (by simpa using h), if_neg h]
      rcases ih with ⟨h1, h2⟩ | ⟨k, h1, h2⟩
      · left; exact ⟨by rw [h1]; rfl, by rw [h2]; rfl⟩
      · right
        refine ⟨k + 1, ?_, by rw [h2]⟩
        rw [h1, if_neg (by simp; try omega)]; rfl
/-- A first line that ends at j. -/
theorem fln_at {l : List UInt8} {j : Nat} (hj : l[j]? = some 10) (h : ∀ i, i < j → l[i]? ≠ some 10) : fln l = j + 1 := by
  induction l generalizing j with
  | nil => simp at hj
  | cons c t ih =>
    unfold fln
    cases j with
    | zero => rw [if_pos (by simpa using hj)]
    | succ j =>
      rw [if_neg (by have := h 0 (by omega); simpa using this), ih (j := j) (by simpa using hj) (fun i hi => by have := h (i + 1) (by omega); simpa using this)]
theorem fln_end {l : List UInt8} (h : ∀ i, i < l.length → l[i]? ≠ some 10) : fln l = l.length := by
  induction l with
  | nil => rfl
  | cons c t ih =>
    unfold fln
    rw [if_neg (by have := h 0 (by simp); simpa using this), ih (fun i hi => by have := h (i + 1) (by simpa using hi); simpa using this)]; rfl
theorem fln_last {l : List UInt8} (h : fln l < l.length) : l[fln l - 1]? = some 10 := by
  induction l with
  | nil => simp [fln] at h
  | cons c t ih =>
    unfold fln at h ⊢
    by_cases hc : c = 10
    · rw [if_pos hc]; simp [hc]
    · rw [if_neg hc] at h ⊢
      have h' : fln t < t.length := by simpa using h
      have hp : 1 ≤ fln t := fln_pos (by rintro rfl; simp at h')
      have e : fln t + 1 - 1 = (fln t - 1) + 1 := by omega
      rw [e, List.getElem?_cons_succ]; exact ih h'
/-- Where line k begins. -/
def loff (l : List UInt8) : Nat → Nat
  | 0 => 0
  | k + 1 => loff l k + fln (l.drop (loff l k))
theorem loff_succ (l : List UInt8) (k : Nat) : loff l (k + 1) = loff l k + fln (l.drop (loff l k)) := rfl
theorem loff_le (l : List UInt8) (k : Nat) : loff l k ≤ l.length := by
  induction k with
  | zero => exact Nat.zero_le _
  | succ k ih =>
    have := fln_le (l.drop (loff l k))
    rw [List.length_drop] at this
    rw [loff_succ]; omega
theorem loff_lt {l : List UInt8} {k : Nat} (h : loff l k < l.length) : loff l k < loff l (k + 1) := by
  have := fln_pos (l := l.drop (loff l k)) (by intro e; have := congrArg List.length e; rw [List.length_drop] at this; simp at this; omega)
  rw [loff_succ]; omega
theorem loff_ge {l : List UInt8} {k : Nat} (h : ∀ j, j < k → loff l j < l.length) : k ≤ loff l k := by
  induction k with
  | zero => exact Nat.zero_le _
  | succ k ih =>
    have := ih fun j hj => h j (by omega)
    have := loff_lt (h k (by omega))
    omega
theorem loff_one {l : List UInt8} {m n : Nat} (hm : loff l m = l.length) (hn : loff l n = l.length) (h1 : ∀ j, j < m → loff l j < l.length) (h2 : ∀ j, j < n → loff l j < l.length) : m = n := by
  rcases Nat.lt_trichotomy m n with h | h | h
  · have := h2 m h; omega
  · exact h
  · have := h1 n h; omega
/-- Line i. -/
def lin (s : ByteArray) (i : Nat) : ByteArray := s.extract (loff s.data.toList i) (loff s.data.toList (i + 1))
def lcells (s : ByteArray) (n : Nat) : List Value := (List.range n).map fun i => .string (lin s i)
theorem lcells_succ (s : ByteArray) (n : Nat) : lcells s n ++ [.string (lin s n)] = lcells s (n + 1) := by
  unfold lcells; rw [List.range_succ, List.map_append]; rfl
def LPost (s : ByteArray) (w : World) (e : Ending) (w' : World) : Prop :=
  ∃ (m : Nat) (v : Value), e = .returned v ∧ Below w.heap.size w w' ∧ w'.ownsRow w.heap.size 9 1 v m (lcells s m) ∧ loff s.data.toList m = s.size ∧ ∀ j, j < m → loff s.data.toList j < s.size
theorem ext_ext0 (s : ByteArray) {p e : Nat} (h : p + e ≤ s.size) : (s.extract p s.size).extract 0 e = s.extract p (p + e) := by
  apply ba_ext
  rw [ext_list, ext_list, ext_list, List.drop_zero, Nat.sub_zero, List.take_take]
  congr 1; omega
theorem ext_ext1 (s : ByteArray) {p e : Nat} (h : p + e ≤ s.size) : (s.extract p s.size).extract e (s.size - p) = s.extract (p + e) s.size := by
  apply ba_ext
  rw [ext_list, ext_list, ext_list, List.drop_take, List.drop_drop, List.take_take]
  congr 1; omega
theorem new_str (w : World) (x : Value) : (w.alloc (.cells #[x] 9)).cell? ((⟨w.heap.size, 0, none⟩ : Addr).add 0) = some x :=
  World.rowIs.cell (World.rowIs_alloc w #[x] 9 (fun _ => x) (fun i hi => by
    have h0 : i = 0 := by simp at hi; omega
    subst h0; rfl)) (i := 0) (by simp)
theorem info_str : (Tryd.prog.info? 9).map (fun i => (i.zero, i.size, i.bytes)) = some (some (.string ⟨#[]⟩), 1, 16) := by kernel_rfl
theorem ib_is {s : ByteArray} {x : Int} {w : World} (h : Hid (Lib.indexByte s.data.toList 10 = x)) : Calls Tryd.prog 45 #[.string s, .int .u8 10] w fun e w' => e = .returned (.int .i64 x) ∧ w' = w := by
  have := Tryd.strings_IndexByte s 10 w
  rwa [show ((10 : Int).toNat.toUInt8) = 10 from rfl, h.out] at this
set_option maxRecDepth 100000 in
set_option maxHeartbeats 2000000 in
theorem lines_any (s : ByteArray) (w : World) (hs : s.size ≤ 4096) : Calls Tryd.prog 31 #[.string s] w (LPost s w) := by
  obtain ⟨i0, hi, hz0, hz1, hz2⟩ := info_parts info_str
  have HI := Lib.hid hi
  have HZ0 := Lib.hid hz0
  have HZ1 := Lib.hid hz1
  have HZ2 := Lib.hid hz2
  clear hi hz0 hz1 hz2
  go_enter Tryd.func31, Tryd.ntmps31
  go_wp2
  go_loopw [0, 3] (fun x v wr => ∃ k : Nat, x = .string (s.extract (loff s.data.toList k) s.size) ∧ Hid (∀ j, j < k → loff s.data.toList j < s.size) ∧ Below w.heap.size w wr ∧ Hid (wr.ownsRow w.heap.size 9 1 v k (lcells s k))) (fun x _ _ => match x with | .string x => x.size | _ => 0)
  case atStart =>
    refine ⟨0, ?_, Lib.hid fun j hj => by omega, Below.refl _ _, Lib.hid (World.ownsRow_nil _ _ _ _)⟩
    exact congrArg Value.string (ba_ext (ext_drop s 0)).symm
  case round =>
    obtain ⟨k, rfl, HK, hb, HO⟩ := hrel
    have hle := loff_le s.data.toList k
    have hge := loff_ge HK.out
    have hst := loff_succ s.data.toList k
    have hle1 := loff_le s.data.toList (k + 1)
    have HL1 := Lib.hid (lcells_succ s k)
    rw [size_list] at hle hle1
    obtain ⟨p, HP⟩ : ∃ p, Hid (loff s.data.toList k = p) := ⟨_, rfl⟩
    obtain ⟨q, HQ⟩ : ∃ q, Hid (loff s.data.toList (k + 1) = q) := ⟨_, rfl⟩
    rw [HP.out] at hle hge hst ⊢
    rw [HQ.out] at hst hle1
    by_cases hlt : p < s.size
    · have HE0 := Lib.hid (fun e (h : p + e ≤ s.size) => ext_ext0 s h)
      have HE1 := Lib.hid (fun e (h : p + e ≤ s.size) => ext_ext1 s h)
      have hl := ext_drop s p
      have hq := loff_lt (l := s.data.toList) (k := k) (by rw [HP.out]; exact hlt)
      rw [HP.out, HQ.out] at hq
      have hzz : (s.extract p s.size).size = s.size - p := by rw [← size_list, ext_drop, List.length_drop]; rfl
      obtain ⟨S, HS⟩ : ∃ S, Hid (s.extract p s.size = S) := ⟨_, rfl⟩
      rw [HS.out] at hl HE0 HE1 hzz ⊢
      have hne : S.toList.isEmpty = false := by
        cases h : S.toList.isEmpty with
        | false => rfl
        | true =>
          have h2 : S.toList = [] := by simpa using h
          rw [toList_data] at h2
          have h3 : S.data.toList.length = 0 := by rw [h2]; rfl
          rw [size_list] at h3; omega
      have hLin : Hid (lin s k = s.extract p q) := Lib.hid (by unfold lin; rw [HP.out, HQ.out])
      rw [← hl] at hst
      have hw : ∃ x e, Hid (Lib.indexByte S.data.toList 10 = x) ∧ Hid (p + e = q) ∧ e ≤ S.size ∧ 1 ≤ e ∧ ((x = -1 ∧ e = S.size) ∨ (0 ≤ x ∧ x + 1 = (e : Int))) := by
        have hz2 : S.data.toList.length = S.size := rfl
        rcases index_fln S.data.toList with ⟨hx, hf⟩ | ⟨j, hx, hf⟩
        · exact ⟨-1, S.size, hx, Lib.hid (by omega), by omega, by omega, .inl ⟨rfl, rfl⟩⟩
        · exact ⟨j, j + 1, hx, Lib.hid (by omega), by omega, by omega, .inr ⟨by omega, by omega⟩⟩
      obtain ⟨x, e, HX, HE, he, he1, hcase⟩ := hw
      have hpe : p + e ≤ s.size := by omega
      have H0 := Lib.hid (HE0.out e hpe)
      have H1 := Lib.hid (HE1.out e hpe)
      rw [HE.out] at H0 H1
      rw [← hLin.out] at H0
      rw [← hzz] at H1
      have HK' : Hid (∀ j, j < k + 1 → loff s.data.toList j < s.size) := Lib.hid fun j hj => by
        by_cases h : j = k
        · rw [h, HP.out]; exact hlt
        · exact HK.out j (by omega)
      have hq2 : q ≤ s.size := hle1
      have hS4 : S.size ≤ 4096 := by omega
      have HZZ := Lib.hid hzz
      clear HE0 HE1 hl hst HE hLin hle1 hzz
      rcases hcase with ⟨rfl, rfl⟩ | ⟨hx0, hx1⟩
      · have HS0 : Hid (S = lin s k) := Lib.hid (by rw [← H0.out]; exact (ba_ext (by rw [ext_list]; exact (List.take_of_length_le (Nat.le_refl _)))).symm)
        have HS1 : Hid (ByteArray.empty = s.extract q s.size) := Lib.hid (by rw [← H1.out]; exact (ba_ext (by rw [ext_list, Nat.sub_self]; rfl)).symm)
        clear H0 H1
        go_wp2_with (first | (go_at_call 45; (with_reducible refine (ib_is HX).mono ?_); rintro e' w1 ⟨rfl, rfl⟩) | (at_builtin; refine wpList_append_own _ rfl _ _ 53 rfl w.heap.size 9 i0 (.string ⟨#[]⟩) 1 16 Tryd.underlying53 HI.out HZ0.out HZ1.out HZ2.out rfl (by decide) _ _ _ rfl (HO.out.alloc _) ⟨w1.heap.size, 0, none⟩ 1 1 [.string (S)] rfl rfl ?c1 ?c2 ?c3 ?c4 ?c5 ?_; rotate_left 5; intro v' w2 hown2 hgrow _))
        case c1 =>
          intro i u hu
          have h0 : i = 0 := by
            rcases Nat.eq_zero_or_pos i with h | h
            · exact h
            · rw [List.getElem?_eq_none (by simp; omega)] at hu; cases hu
          subst h0
          have hu' : Value.string (S) = u := by simpa using hu
          rw [← hu']
          exact new_str w1 _
        case c2 =>
          intro u hu
          rw [List.mem_singleton] at hu
          subst hu; rfl
        case c3 => unfold maxLen; omega
        case c4 => omega
        case c5 => have := hb.size; simp; omega
        go_wp2
        go_roundw
        case rel =>
          refine ⟨k + 1, by rw [HQ.out, HS1.out], HK', (hb.alloc hb.size _).grown hgrow (by have := hb.size; simp; omega) (fun g hg => (HO.out.lt g hg).1), ?_⟩
          have h2 := hown2
          rw [HS0.out, HL1.out] at h2
          exact Lib.hid h2
        case measure => simp [ByteArray.size_extract]; omega
      · skip
        go_wp2_with (first | (go_at_call 45; (with_reducible refine (ib_is HX).mono ?_); rintro e' w1 ⟨rfl, rfl⟩) | (at_builtin; refine wpList_append_own _ rfl _ _ 53 rfl w.heap.size 9 i0 (.string ⟨#[]⟩) 1 16 Tryd.underlying53 HI.out HZ0.out HZ1.out HZ2.out rfl (by decide) _ _ _ rfl (HO.out.alloc _) ⟨w1.heap.size, 0, none⟩ 1 1 [.string (S.extract 0 e)] rfl rfl ?c1 ?c2 ?c3 ?c4 ?c5 ?_; rotate_left 5; intro v' w2 hown2 hgrow _))
        case c1 =>
          intro i u hu
          have h0 : i = 0 := by
            rcases Nat.eq_zero_or_pos i with h | h
            · exact h
            · rw [List.getElem?_eq_none (by simp; omega)] at hu; cases hu
          subst h0
          have hu' : Value.string (S.extract 0 e) = u := by simpa using hu
          rw [← hu']
          exact new_str w1 _
        case c2 =>
          intro u hu
          rw [List.mem_singleton] at hu
          subst hu; rfl
        case c3 => unfold maxLen; omega
        case c4 => omega
        case c5 => have := hb.size; simp; omega
        go_wp2
        go_roundw
        case rel =>
          refine ⟨k + 1, by rw [H1.out, HQ.out], HK', (hb.alloc hb.size _).grown hgrow (by have := hb.size; simp; omega) (fun g hg => (HO.out.lt g hg).1), ?_⟩
          have h2 := hown2
          rw [H0.out, HL1.out] at h2
          exact Lib.hid h2
        case measure => simp [ByteArray.size_extract]; omega
    · have hpz : p = s.size := by omega
      have hem : s.extract p s.size = ByteArray.empty := ba_ext (by rw [ext_list, hpz, Nat.sub_self]; rfl)
      rw [hem]
      have hne : ByteArray.empty.toList.isEmpty = true := by rw [toList_data]; rfl
      have HM : Hid (loff s.data.toList k = s.size) := Lib.hid (HP.out.trans hpz)
      clear hem hst
      go_wp2
      go_ret
      exact ⟨k, _, rfl, hb, HO.out, HM.out, HK.out⟩
set_option maxRecDepth 100000 in
set_option maxHeartbeats 2000000 in
theorem rlines_any (s : ByteArray) (w : World) (hs : s.size ≤ 4096) : Calls Tryd.prog 32 #[.string s] w (LPost s w) := by
  obtain ⟨i0, hi, hz0, hz1, hz2⟩ := info_parts info_str
  have HI := Lib.hid hi
  have HZ0 := Lib.hid hz0
  have HZ1 := Lib.hid hz1
  have HZ2 := Lib.hid hz2
  clear hi hz0 hz1 hz2
  go_enter Tryd.func32, Tryd.ntmps32
  go_wp2
  go_loopw [3, 4, 5] (fun v a i wr => ∃ k j : Nat, a = .int .i64 (loff s.data.toList k : Nat) ∧ i = .int .i64 j ∧ loff s.data.toList k ≤ j ∧ j ≤ s.size ∧ Hid (∀ x, loff s.data.toList k ≤ x → x < j → s.data.toList[x]? ≠ some 10) ∧ Hid (∀ j, j < k → loff s.data.toList j < s.size) ∧ Below w.heap.size w wr ∧ Hid (wr.ownsRow w.heap.size 9 1 v k (lcells s k))) (fun _ _ i _ => s.size - (intOf i).toNat)
  case atStart => exact ⟨0, 0, rfl, rfl, Nat.le_refl _, Nat.zero_le _, Lib.hid fun x _ h => by omega, Lib.hid fun j hj => by omega, Below.refl _ _, Lib.hid (World.ownsRow_nil _ _ _ _)⟩
  case round =>
    obtain ⟨k, j, rfl, rfl, h1, h2, HN, HK, hb, HO⟩ := hrel
    have hge := loff_ge HK.out
    have HL1 := Lib.hid (lcells_succ s k)
    by_cases hlt : j < s.size
    · by_cases hc : s.data.toList[j]? = some 10
      · have hq := fln_at (l := s.data.toList.drop (loff s.data.toList k)) (j := j - loff s.data.toList k) (by rw [List.getElem?_drop, Nat.add_sub_cancel' h1]; exact hc) (fun i hi => by rw [List.getElem?_drop]; exact HN.out _ (by omega) (by omega))
        have HQ : Hid (loff s.data.toList (k + 1) = j + 1) := Lib.hid (by rw [loff_succ, hq]; omega)
        have HLin : Hid (lin s k = s.extract (loff s.data.toList k) (j + 1)) := Lib.hid (by unfold lin; rw [HQ.out])
        have HK' : Hid (∀ j, j < k + 1 → loff s.data.toList j < s.size) := Lib.hid fun i hi => by
          by_cases h : i = k
          · rw [h]; omega
          · exact HK.out i (by omega)
        clear hq HK
        obtain ⟨p, HP⟩ : ∃ p, Hid (loff s.data.toList k = p) := ⟨_, rfl⟩
        rw [HP.out] at h1 hge HLin ⊢
        have h10 : (((s[j]'hlt).toNat : Int) == 10) = true := by
          rw [List.getElem?_eq_getElem (by rw [size_list]; exact hlt)] at hc
          have h : s[j]'hlt = 10 := Option.some.inj hc
          rw [h]; rfl
        go_wp2_with (at_builtin; refine wpList_append_own _ rfl _ _ 53 rfl w.heap.size 9 i0 (.string ⟨#[]⟩) 1 16 Tryd.underlying53 HI.out HZ0.out HZ1.out HZ2.out rfl (by decide) _ _ _ rfl (HO.out.alloc _) ⟨wr.heap.size, 0, none⟩ 1 1 [.string (s.extract p (j + 1))] rfl rfl ?c1 ?c2 ?c3 ?c4 ?c5 ?_; rotate_left 5; intro v' w2 hown2 hgrow _)
        case c1 =>
          intro i u hu
          have h0 : i = 0 := by
            rcases Nat.eq_zero_or_pos i with h | h
            · exact h
            · rw [List.getElem?_eq_none (by simp; omega)] at hu; cases hu
          subst h0
          have hu' : Value.string (s.extract p (j + 1)) = u := by simpa using hu
          rw [← hu']
          exact new_str wr _
        case c2 =>
          intro u hu
          rw [List.mem_singleton] at hu
          subst hu; rfl
        case c3 => unfold maxLen; omega
        case c4 => omega
        case c5 => have := hb.size; simp; omega
        go_wp2
        go_roundw
        case rel =>
          refine ⟨k + 1, j + 1, by rw [HQ.out]; rfl, rfl, by rw [HQ.out]; exact Nat.le_refl _, by omega, Lib.hid fun x hx h => by rw [HQ.out] at hx; omega, HK', (hb.alloc hb.size _).grown hgrow (by have := hb.size; simp; omega) (fun g hg => (HO.out.lt g hg).1), ?_⟩
          have h2 := hown2
          rw [← HLin.out, HL1.out] at h2
          exact Lib.hid h2
        case measure => simp [intOf]; omega
      · have h10 : (((s[j]'hlt).toNat : Int) == 10) = false := by
          rw [List.getElem?_eq_getElem (by rw [size_list]; exact hlt)] at hc
          have h : ¬ s[j]'hlt = 10 := fun h => hc (congrArg some h)
          rw [beq_eq_false_iff_ne]
          intro e
          exact h (UInt8.toNat_inj.1 (by have : (10 : UInt8).toNat = 10 := rfl; omega))
        have HC := Lib.hid hc
        clear hc
        obtain ⟨p, HP⟩ : ∃ p, Hid (loff s.data.toList k = p) := ⟨_, rfl⟩
        rw [HP.out] at h1 hge ⊢
        go_wp2
        go_roundw
        case rel =>
          refine ⟨k, j + 1, by rw [HP.out], rfl, by rw [HP.out]; omega, by omega, Lib.hid fun x hx h => ?_, HK, hb, HO⟩
          by_cases e : x = j
          · rw [e]; exact HC.out
          · exact HN.out x hx (by omega)
        case measure => simp [intOf]; omega
    · have hjz : j = s.size := by omega
      by_cases hp : loff s.data.toList k < s.size
      · have hq := fln_end (l := s.data.toList.drop (loff s.data.toList k)) (fun i hi => by rw [List.length_drop, size_list] at hi; rw [List.getElem?_drop]; exact HN.out _ (by omega) (by omega))
        have HQ : Hid (loff s.data.toList (k + 1) = s.size) := Lib.hid (by rw [loff_succ, hq, List.length_drop, size_list]; omega)
        have HLin : Hid (lin s k = s.extract (loff s.data.toList k) s.size) := Lib.hid (by unfold lin; rw [HQ.out])
        have HK' : Hid (∀ j, j < k + 1 → loff s.data.toList j < s.size) := Lib.hid fun i hi => by
          by_cases h : i = k
          · rw [h]; omega
          · exact HK.out i (by omega)
        clear hq HK
        obtain ⟨p, HP⟩ : ∃ p, Hid (loff s.data.toList k = p) := ⟨_, rfl⟩
        rw [HP.out] at h1 hge HLin hp ⊢
        go_wp2_with (at_builtin; refine wpList_append_own _ rfl _ _ 53 rfl w.heap.size 9 i0 (.string ⟨#[]⟩) 1 16 Tryd.underlying53 HI.out HZ0.out HZ1.out HZ2.out rfl (by decide) _ _ _ rfl (HO.out.alloc _) ⟨wr.heap.size, 0, none⟩ 1 1 [.string (s.extract p s.size)] rfl rfl ?c1 ?c2 ?c3 ?c4 ?c5 ?_; rotate_left 5; intro v' w2 hown2 hgrow _)
        case c1 =>
          intro i u hu
          have h0 : i = 0 := by
            rcases Nat.eq_zero_or_pos i with h | h
            · exact h
            · rw [List.getElem?_eq_none (by simp; omega)] at hu; cases hu
          subst h0
          have hu' : Value.string (s.extract p s.size) = u := by simpa using hu
          rw [← hu']
          exact new_str wr _
        case c2 =>
          intro u hu
          rw [List.mem_singleton] at hu
          subst hu; rfl
        case c3 => unfold maxLen; omega
        case c4 => omega
        case c5 => have := hb.size; simp; omega
        go_wp2
        go_ret
        refine ⟨k + 1, v', rfl, (hb.alloc hb.size _).grown hgrow (by have := hb.size; simp; omega) (fun g hg => (HO.out.lt g hg).1), ?_, HQ.out, HK'.out⟩
        have h2 := hown2
        rw [← HLin.out, HL1.out] at h2
        exact h2
      · have HM : Hid (loff s.data.toList k = s.size) := Lib.hid (by omega)
        rw [HM.out]
        clear hp h1
        go_wp2
        go_ret
        exact ⟨k, _, rfl, hb, HO.out, HM.out, HK.out⟩
end Go.Proofs.YtpoenakijbbegaaDoor.Utf
