/-
  Package path: the text of a path, where the text of each of its steps is known.
-/
import Derived.Test.YtfdfncffogjbdaaDoorPsD
import Derived.Lib.ItoaNum
import Derived.Lib.AppendIntMem
import Derived.Lib.LaidTab
namespace Go.Proofs.YtfdfncffogjbdaaDoor.Ps
open Go.RowKit
set_option linter.unusedVariables false
set_option linter.unusedSimpArgs false
open RO

def Tb (w : World) : Prop := Lib.TabIs Tryd.prog w "internal/strconv.uint64pow10" .u64 Lib.pow10Tab
theorem Tb.next {w w' : World} (h : Tb w) (hb : Below w.heap.size w w') : Tb w' :=
  Joins.tab_stays (g := 3) (by kernel_rfl) h hb (Nat.le_refl _)
/-- The text of a step. -/
def TS (d : St) (t : List UInt8) : Prop :=
  (d.b = true ∧ t = 91 :: (Lib.itoa d.x ++ [93])) ∨
  (d.b = false ∧ (∀ w, Calls Tryd.prog 35 #[.string d.s] w fun e w' => e = .returned (.bool true) ∧ w = w') ∧ t = 46 :: d.s.data.toList) ∨
  (d.b = false ∧ (∀ w, Calls Tryd.prog 35 #[.string d.s] w fun e w' => e = .returned (.bool false) ∧ w = w') ∧ ∃ E : ByteArray, (∀ w, Calls Tryd.prog 36 #[.string d.s] w fun e w' => e = .returned (.string E) ∧ Below w.heap.size w w') ∧ t = 46 :: 34 :: (E.data.toList ++ [34]))
def pre (L : List St) : List UInt8 := match L with
  | [] => []
  | d :: _ => if d.b = true then [46] else []
def acc (T : St → List UInt8) (L : List St) (k : Nat) : List UInt8 := pre L ++ (L.take k).flatMap T
def txL (T : St → List UInt8) (L : List St) : List UInt8 := if L = [] then [46] else pre L ++ L.flatMap T
theorem acc_succ {T : St → List UInt8} {L : List St} {k : Nat} {d : St} (h : L[k]? = some d) : acc T L (k + 1) = acc T L k ++ T d := by
  unfold acc
  rw [List.take_add_one, h]
  simp
theorem acc_end {T : St → List UInt8} {L : List St} {n : Nat} (hn : L.length = n) (h0 : 0 < n) : acc T L n = txL T L := by
  unfold acc txL
  rw [List.take_of_length_le (by omega), if_neg (by intro h; rw [h] at hn; simp at hn; omega)]
theorem acc_len {T : St → List UInt8} {L : List St} (hT : ∀ d ∈ L, (T d).length ≤ 20000) (k : Nat) (hk : k ≤ L.length) : (acc T L k).length ≤ 1 + k * 20000 := by
  induction k with
  | zero =>
    unfold acc pre
    cases L with
    | nil => simp
    | cons d l => simp only [List.take_zero, List.flatMap_nil, List.append_nil]; split <;> simp
  | succ k ih =>
    have hd : L[k]? = some (L[k]'(by omega)) := List.getElem?_eq_getElem _
    rw [acc_succ hd, List.length_append]
    have := hT _ (List.mem_of_getElem? hd)
    have := ih (by omega)
    rw [Nat.add_mul, Nat.one_mul]; omega
theorem cat_list (a b : ByteArray) : (a ++ b).data.toList = a.data.toList ++ b.data.toList := by rw [ByteArray.data_append, Array.toList_append]
theorem sz_list (a : ByteArray) : a.data.toList.length = a.size := rfl
theorem sz_cat (a b : ByteArray) : (a ++ b).size = a.size + b.size := by rw [← sz_list, cat_list, List.length_append, sz_list, sz_list]
theorem itoa_any (n : Int) (w : World) (hn : -9223372036854775808 ≤ n ∧ n ≤ 9223372036854775807) (ht : Tb w) : Calls Tryd.prog 34 #[.int .i64 n] w fun e w' => e = .returned (.string ⟨(Lib.itoa n).toArray⟩) ∧ Below w.heap.size w w' :=
  (Tryd.strconv_Itoa n hn.1 hn.2 w ht).mono fun _ _ ⟨he, k, os, hw⟩ => ⟨he, by rw [hw]; exact Lib.below_grow _ _ (Nat.le_refl _) _ _⟩
theorem head_st {L : List St} {d : St} (h : L[0]? = some d) : pre L = if d.b = true then [46] else [] := by
  cases L with
  | nil => simp at h
  | cons a l => simp at h; subst h; rfl
set_option maxRecDepth 100000 in
set_option maxHeartbeats 4000000 in
theorem text_nil (v : Value) (w : World) (hv : Ss w w.heap.size v []) : Calls Tryd.prog 16 #[v] w fun e w' => e = .returned (.string ⟨#[46]⟩) ∧ Below w.heap.size w w' := by
  obtain ⟨a, cap, rfl, hn9⟩ := Rd.slice hv (n := 0) rfl
  clear hv hn9
  go_enter Tryd.func16, Tryd.ntmps16
  go_wp2
  go_ret
  exact ⟨rfl, Below.refl _ _⟩
set_option maxRecDepth 100000 in
set_option maxHeartbeats 4000000 in
theorem text_any (T : St → List UInt8) (v : Value) (L : List St) (w : World) (hv : Ss w w.heap.size v L) (hL : ∀ d ∈ L, d.ok) (hl : L.length ≤ 48) (hT : ∀ d ∈ L, TS d (T d)) (hTl : ∀ d ∈ L, (T d).length ≤ 20000) (ht : Tb w) : Calls Tryd.prog 16 #[v] w fun e w' => e = .returned (.string ⟨(txL T L).toArray⟩) ∧ Below w.heap.size w w' := by
  obtain ⟨n, hn⟩ : ∃ n, L.length = n := ⟨_, rfl⟩
  rcases Nat.eq_zero_or_pos n with h0 | h0
  · obtain rfl := List.length_eq_zero_iff.1 (hn.trans h0)
    exact text_nil v w hv
  obtain ⟨a, cap, rfl, hn9⟩ := Rd.slice hv hn
  have C1 := Lib.hid (Ss.cellsAt hv hn)
  have HOK := Lib.hid hL
  have HT := Lib.hid hT
  have HTL := Lib.hid hTl
  have HAL := Lib.hid (fun k (h : k ≤ n) => acc_len hTl k (by omega))
  have HEND := Lib.hid (acc_end (T := T) hn h0)
  have HTB := Lib.hid (fun (w' : World) (hb : Below w.heap.size w w') => ht.next hb)
  have HWB := Lib.hid wbyte_any
  have HWS := Lib.hid wstr_any
  have HBS := Lib.hid bstr_any
  have HH := Lib.hid (fun (d : St) (h : L[0]? = some d) => head_st h)
  obtain ⟨g1, o1, d0, ha0, hd0, q0, q1, q2, hg1⟩ := C1.out w (Below.refl _ _) 0 h0
  subst ha0
  have HD0 := Lib.hid hd0
  have hn48 : n ≤ 48 := by omega
  have hn0 : ((n : Int) == 0) = false := by rw [beq_eq_false_iff_ne]; omega
  obtain ⟨b0, s0, x0⟩ := d0
  simp only [Nat.zero_mul, Nat.add_zero] at q0
  have bl : Below w.heap.size w (w.alloc (.cells #[.pointer none, .slice none 0 0] 48)) := (Below.refl _ _).alloc (Nat.le_refl _) _
  have q0 := (bl.cell (p := ⟨g1, o1, none⟩) hg1).trans q0
  have B0 := Lib.hid (Bu.new w)
  clear hn hv hL hT hTl hl hd0 q1 q2 ht
  cases b0
  all_goals
    go_enter Tryd.func16, Tryd.ntmps16
    go_wp2_with (go_at_call 32; (refine (HWB.out w.heap.size [] 46 _ _ rfl B0.out (by decide)).mono ?_); rintro e w1 ⟨rfl, hB, hX⟩; have B1 := Lib.hid hB; have bl := bl.trans hX; clear hX hB)
    go_loopw [16] (fun i wr => ∃ k : Nat, k ≤ n ∧ i = .int .i64 k ∧ Hid (Bu wr w.heap.size (acc T L k)) ∧ Below w.heap.size w wr) (fun i _ => n - (intOf i).toNat)
    case atStart => exact ⟨0, by omega, rfl, Lib.hid (by have := HH.out _ HD0.out; unfold acc; rw [this]; first | exact B0.out | exact B1.out), bl⟩
    case round =>
      obtain ⟨k, hk, rfl, HB, hb⟩ := hrel
      by_cases hlt : k < n
      · obtain ⟨g2, o2, d, ha2, hd, e0, e1, e2, hg2⟩ := C1.out _ hb k hlt
        injection ha2 with ha2
        injection ha2 with i1 i2 i3
        subst i1 i2
        obtain ⟨ok1, ok2, ok3⟩ := HOK.out d (List.mem_of_getElem? hd)
        have hTd := HT.out d (List.mem_of_getElem? hd)
        have hTl := HTL.out d (List.mem_of_getElem? hd)
        have HAS := Lib.hid (acc_succ (T := T) hd)
        have hal := HAL.out k (by omega)
        clear hd
        obtain ⟨db, ds, dx⟩ := d
        simp only at e0 e1 e2 ok1 ok2 ok3
        have hal2 : (acc T L k).length + 20000 ≤ 1000000 := by omega
        have A := SC.new wr db ds dx
        have bl2 : Below wr.heap.size wr (wr.alloc (.cells #[.bool db, .string ds, .int .i64 dx] 26)) := (Below.refl _ _).alloc (Nat.le_refl _) _
        have bl := hb.trans (bl2.mono hb.size)
        have HBa := Lib.hid (HB.out.alloc (.cells #[.bool db, .string ds, .int .i64 dx] 26))
        obtain ⟨a0, a1, a2⟩ := A.cells
        rcases hTd with ⟨hbt, hE⟩ | ⟨hbt, hN, hE⟩ | ⟨hbt, hN, E, hEs, hE⟩
        · simp only at hbt
          subst hbt
          have HI := Lib.hid (fun (w' : World) (hb : Below w.heap.size w w') => itoa_any dx w' ⟨ok2, ok3⟩ (HTB.out _ hb))
          rw [hE] at hTl
          simp only [List.length_cons, List.length_append, List.length_nil] at hTl
          have hIs : (⟨(Lib.itoa dx).toArray⟩ : ByteArray).size = (Lib.itoa dx).length := by simp [ByteArray.size]
          have hS : ((⟨#[91]⟩ : ByteArray) ++ ⟨(Lib.itoa dx).toArray⟩ ++ ⟨#[93]⟩).data.toList = T ⟨true, ds, dx⟩ := by
            rw [hE, cat_list, cat_list]; simp
          obtain ⟨I, hI⟩ : ∃ I, (⟨(Lib.itoa dx).toArray⟩ : ByteArray) = I := ⟨_, rfl⟩
          rw [hI] at HI hIs hS
          have z1 : (⟨#[91]⟩ : ByteArray).size = 1 := rfl
          have z2 : (⟨#[93]⟩ : ByteArray).size = 1 := rfl
          have zc1 := sz_cat ⟨#[91]⟩ I
          have zc2 := sz_cat (⟨#[91]⟩ ++ I) ⟨#[93]⟩
          have hh1 : ¬ 9223372036854775807 < (⟨#[91]⟩ : ByteArray).size + I.size := by omega
          have hh2 : (⟨#[91]⟩ : ByteArray).size + I.size ≤ 9223372036854775807 := by omega
          have hh3 : ¬ 9223372036854775807 < (⟨#[91]⟩ ++ I : ByteArray).size + (⟨#[93]⟩ : ByteArray).size := by omega
          have hh4 : (⟨#[91]⟩ ++ I : ByteArray).size + (⟨#[93]⟩ : ByteArray).size ≤ 9223372036854775807 := by omega
          have HS := Lib.hid hS
          clear hS hE
          go_wp2_with (first | (go_at_call 34; (with_reducible refine (HI.out _ bl).mono ?_); rintro e w5 ⟨rfl, hX⟩; have HB5 := Lib.hid (HBa.out.below hX); have bl := bl.trans (hX.mono bl.size); clear hX) | (go_at_call 33; (with_reducible refine (HWS.out w.heap.size (acc T L k) (⟨#[91]⟩ ++ I ++ ⟨#[93]⟩) _ HB5.out (by omega)).mono ?_); rintro e wz ⟨rfl, hB, hX⟩; have bl := bl.trans hX; clear hX))
          have HBN : Hid (Bu wz w.heap.size (acc T L (k + 1))) := Lib.hid (by rw [HAS.out, ← HS.out]; exact hB)
          first
            | exact ⟨⟨k + 1, by omega, by go_num, HBN, bl⟩, by simp [intOf]; omega⟩
            | (go_roundw <;> first | exact ⟨k + 1, by omega, by go_num, HBN, bl⟩ | (simp [intOf]; omega))
        · simp only at hbt
          subst hbt
          have HN := Lib.hid hN
          rw [hE] at hTl
          simp only [List.length_cons] at hTl
          rw [sz_list] at hTl
          have hS : ((⟨#[46]⟩ : ByteArray) ++ ds).data.toList = T ⟨false, ds, dx⟩ := by
            rw [hE, cat_list]; simp
          have z1 : (⟨#[46]⟩ : ByteArray).size = 1 := rfl
          have zc1 := sz_cat ⟨#[46]⟩ ds
          have hh1 : ¬ 9223372036854775807 < (⟨#[46]⟩ : ByteArray).size + ds.size := by omega
          have hh2 : (⟨#[46]⟩ : ByteArray).size + ds.size ≤ 9223372036854775807 := by omega
          have HS := Lib.hid hS
          clear hS hE hN
          go_wp2_with (first | (go_at_call 35; (with_reducible refine (HN.out _).mono ?_); rintro e w5 ⟨rfl, rfl⟩) | (go_at_call 33; (with_reducible refine (HWS.out w.heap.size (acc T L k) (⟨#[46]⟩ ++ ds) _ HBa.out (by omega)).mono ?_); rintro e wz ⟨rfl, hB, hX⟩; have bl := bl.trans hX; clear hX))
          have HBN : Hid (Bu wz w.heap.size (acc T L (k + 1))) := Lib.hid (by rw [HAS.out, ← HS.out]; exact hB)
          first
            | exact ⟨⟨k + 1, by omega, by go_num, HBN, bl⟩, by simp [intOf]; omega⟩
            | (go_roundw <;> first | exact ⟨k + 1, by omega, by go_num, HBN, bl⟩ | (simp [intOf]; omega))
        · simp only at hbt
          subst hbt
          have HN := Lib.hid hN
          have HEs := Lib.hid hEs
          rw [hE] at hTl
          simp only [List.length_cons, List.length_append, List.length_nil] at hTl
          rw [sz_list] at hTl
          have hS : ((⟨#[46, 34]⟩ : ByteArray) ++ E ++ ⟨#[34]⟩).data.toList = T ⟨false, ds, dx⟩ := by
            rw [hE, cat_list, cat_list]; simp
          have z1 : (⟨#[46, 34]⟩ : ByteArray).size = 2 := rfl
          have z2 : (⟨#[34]⟩ : ByteArray).size = 1 := rfl
          have zc1 := sz_cat ⟨#[46, 34]⟩ E
          have zc2 := sz_cat (⟨#[46, 34]⟩ ++ E) ⟨#[34]⟩
          have hh1 : ¬ 9223372036854775807 < (⟨#[46, 34]⟩ : ByteArray).size + E.size := by omega
          have hh2 : (⟨#[46, 34]⟩ : ByteArray).size + E.size ≤ 9223372036854775807 := by omega
          have hh3 : ¬ 9223372036854775807 < (⟨#[46, 34]⟩ ++ E : ByteArray).size + (⟨#[34]⟩ : ByteArray).size := by omega
          have hh4 : (⟨#[46, 34]⟩ ++ E : ByteArray).size + (⟨#[34]⟩ : ByteArray).size ≤ 9223372036854775807 := by omega
          have HS := Lib.hid hS
          clear hS hE hN hEs
          go_wp2_with (first | (go_at_call 35; (with_reducible refine (HN.out _).mono ?_); rintro e w5 ⟨rfl, rfl⟩) | (go_at_call 36; (with_reducible refine (HEs.out _).mono ?_); rintro e w6 ⟨rfl, hX⟩; have HB6 := Lib.hid (HBa.out.below hX); have bl := bl.trans (hX.mono bl.size); clear hX) | (go_at_call 33; (with_reducible refine (HWS.out w.heap.size (acc T L k) (⟨#[46, 34]⟩ ++ E ++ ⟨#[34]⟩) _ HB6.out (by omega)).mono ?_); rintro e wz ⟨rfl, hB, hX⟩; have bl := bl.trans hX; clear hX))
          have HBN : Hid (Bu wz w.heap.size (acc T L (k + 1))) := Lib.hid (by rw [HAS.out, ← HS.out]; exact hB)
          first
            | exact ⟨⟨k + 1, by omega, by go_num, HBN, bl⟩, by simp [intOf]; omega⟩
            | (go_roundw <;> first | exact ⟨k + 1, by omega, by go_num, HBN, bl⟩ | (simp [intOf]; omega))
      · obtain rfl : k = n := by omega
        go_wp2_with (go_at_call 37; (with_reducible refine (HBS.out w.heap.size _ _ HB.out).mono ?_); rintro e w4 ⟨rfl, hB, hX⟩; have hb := hb.trans hX; clear hX hB)
        go_ret
        exact ⟨by first | rfl | (rw [HEND.out]; rfl), hb⟩
end Go.Proofs.YtfdfncffogjbdaaDoor.Ps
