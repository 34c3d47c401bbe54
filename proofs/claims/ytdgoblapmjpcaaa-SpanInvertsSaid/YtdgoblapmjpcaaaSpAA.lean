/-
  Package span: the reference's Invert, walked.
-/
import Derived.Test.YtdgoblapmjpcaaaSpZ
namespace Go.Proofs.Ytdgoblapmjpcaaa.Sp
open Go.RowKit
set_option linter.unusedVariables false
set_option linter.unusedSimpArgs false
open RO

/-- Block b is a row of just these integers. -/
def ZRow (w : World) (b : Nat) (l : List Int) : Prop := w.rowIs b 3 l.length (fun i => .int .i64 (l.getD i 0))
section
variable {w w' : World} {b : Nat} {l : List Int}
theorem ZRow.cell (h : ZRow w b l) {i : Nat} {z : Int} (hi : l[i]? = some z) : w.cell? ⟨b, i, none⟩ = some (.int .i64 z) := by
  have hl := (List.getElem?_eq_some_iff.1 hi).1
  have := World.rowIs.cell h hl
  rwa [List.getD_eq_getElem?_getD, hi] at this
theorem ZRow.frozen (h : ZRow w b l) (i : Nat) : w.frozen? ⟨b, i, none⟩ = false := World.rowIs.frozen h i
theorem ZRow.set (h : ZRow w b l) {i : Nat} {v : Int} : ZRow (w.setCell ⟨b, i, none⟩ (.int .i64 v)) b (l.set i v) := by
  unfold ZRow
  rw [List.length_set]
  refine (World.rowIs.set h i _).congr fun j hj => ?_
  by_cases e : j = i
  · subst e; simp [List.getD_eq_getElem?_getD, hj]
  · simp [List.getD_eq_getElem?_getD, e, List.getElem?_set_ne (Ne.symm e)]
theorem ZRow.lt (h : ZRow w b l) : b < w.heap.size := World.rowIs.lt h
theorem ZRow.below {B : Nat} (h : ZRow w b l) (hb : Below B w w') (hg : b < B) : ZRow w' b l := World.rowIs.of_block h (hb.block b hg)
theorem ZRow.made (w : World) (n : Nat) : ZRow (w.alloc (.cells (madeCells #[.int .i64 0] n) 3)) w.heap.size (List.replicate n 0) := by
  unfold ZRow
  rw [List.length_replicate]
  refine (World.rowIs_made w (.int .i64 0) n 3).congr fun i hi => ?_
  simp [List.getD_eq_getElem?_getD, hi]
theorem ZRow.rd (h : ZRow w b l) {n : Nat} (hn : l.length = n) (hm : n ≤ 100000000) : Rd ic 1 w w.heap.size (.slice (some ⟨b, 0, none⟩) n n) l := by
  subst hn
  refine .inr ⟨b, 0, l.length, rfl, h.lt, Nat.le_refl _, by unfold maxLen; omega, fun i x j u hi hj => ?_⟩
  have hj1 := (List.getElem?_eq_some_iff.1 hj).1
  simp [ic] at hj1
  subst hj1
  have : Value.int .i64 x = u := by simpa [ic] using hj
  rw [← this, Nat.zero_add, Nat.mul_one, Nat.add_zero]
  exact h.cell hi
end
theorem mk_ints (n : Nat) (h : n ≤ 200000000) (w : World) : (Instr.makeSlice 68 (.int .i64 (n : Int)) (.int .i64 (n : Int))).run Try.prog w = .ok (.slice (some ⟨w.heap.size, 0, none⟩) n n) (w.alloc (.cells (madeCells #[.int .i64 0] n) 3)) :=
  run_make_row' (P := Try.prog) 68 3 (.int .i64 0) 8 Try.underlying68 info_int rfl .i64 .i64 n (by omega) (by omega) w
/-- Where each byte of the edited text comes from, the first bytes asked. -/
def bkL (κ : Nat → Int) (D : Nat) : Nat → List Int
  | 0 => List.replicate D (-1)
  | i + 1 => if κ i < 0 then bkL κ D i else (bkL κ D i).set (κ i).toNat i
theorem bk_len (κ : Nat → Int) (D : Nat) : ∀ k, (bkL κ D k).length = D := by
  intro k
  induction k with
  | zero => exact List.length_replicate
  | succ k ih =>
    unfold bkL
    split
    · exact ih
    · rw [List.length_set]; exact ih
theorem bk_char (κ : Nat → Int) (D : Nat) : ∀ k, (∀ i, i < k → κ i < D) → ∀ v : Nat, v < D → ((bkL κ D k)[v]? = some (-1) ∧ ∀ i, i < k → κ i ≠ v) ∨ ∃ i : Nat, i < k ∧ κ i = v ∧ (bkL κ D k)[v]? = some (i : Int) := by
  intro k
  induction k with
  | zero =>
    intro _ v hv
    refine .inl ⟨?_, fun i hi => by omega⟩
    show (List.replicate D (-1))[v]? = _
    rw [List.getElem?_replicate, if_pos hv]
  | succ k ih =>
    intro hk v hv
    have hkD := hk k (by omega)
    unfold bkL
    by_cases hz : κ k < 0
    · rw [if_pos hz]
      rcases ih (fun i hi => hk i (by omega)) v hv with ⟨h1, h2⟩ | ⟨i, h1, h2, h3⟩
      · refine .inl ⟨h1, fun i hi => ?_⟩
        by_cases e : i = k
        · subst e; omega
        · exact h2 i (by omega)
      · exact .inr ⟨i, by omega, h2, h3⟩
    · rw [if_neg hz]
      by_cases e : κ k = v
      · refine .inr ⟨k, by omega, e, ?_⟩
        rw [show (κ k).toNat = v by omega, List.getElem?_set_self (by rw [bk_len]; exact hv)]
      · have hne : (κ k).toNat ≠ v := by omega
        rw [List.getElem?_set_ne hne]
        rcases ih (fun i hi => hk i (by omega)) v hv with ⟨h1, h2⟩ | ⟨i, h1, h2, h3⟩
        · refine .inl ⟨h1, fun i hi => ?_⟩
          by_cases e' : i = k
          · subst e'; exact e
          · exact h2 i (by omega)
        · exact .inr ⟨i, by omega, h2, h3⟩
def bk (κ : Nat → Int) (D k : Nat) (v : Nat) : Int := (bkL κ D k).getD v (-1)
theorem bk_get {κ : Nat → Int} {D k v : Nat} {x : Int} (h : (bkL κ D k)[v]? = some x) : bk κ D k v = x := by unfold bk; rw [List.getD_eq_getElem?_getD, h]; rfl
theorem cov_bk {κ : Nat → Int} {n D : Nat} {R : List Ru} (h : Cov κ n D R) : Cov (bk κ D n) D n (R.map sw) := by
  have hlt : ∀ i, i < n → κ i < D := fun i hi => by
    by_cases h0 : 0 ≤ κ i
    · exact h.lt hi h0
    · omega
  refine h.sw (fun v i hi e => ?_) (fun v hv h0 => ?_)
  · have hv := hlt i hi
    rcases bk_char κ D n hlt v (by omega) with ⟨_, h2⟩ | ⟨j, h1, h2, h3⟩
    · exact absurd e (h2 i hi)
    · rw [bk_get h3]
      by_cases c : i < j
      · have := h.rise c h1 (by omega) (by omega); omega
      · by_cases c' : j < i
        · have := h.rise c' hi (by omega) (by omega); omega
        · omega
  · rcases bk_char κ D n hlt v hv with ⟨h1, _⟩ | ⟨j, h1, h2, _⟩
    · rw [bk_get h1] at h0; omega
    · exact ⟨j, h1, h2⟩
theorem bk_lo {κ : Nat → Int} {n D : Nat} {R : List Ru} (h : Cov κ n D R) (v : Nat) : -1 ≤ bk κ D n v ∧ (bk κ D n v < n ∨ bk κ D n v = -1) := by
  have hlt : ∀ i, i < n → κ i < D := fun i hi => by
    by_cases h0 : 0 ≤ κ i
    · exact h.lt hi h0
    · omega
  by_cases hv : v < D
  · rcases bk_char κ D n hlt v hv with ⟨h1, _⟩ | ⟨j, h1, h2, h3⟩
    · rw [bk_get h1]; omega
    · rw [bk_get h3]; omega
  · have : bk κ D n v = -1 := by unfold bk; rw [List.getD_eq_getElem?_getD, List.getElem?_eq_none (by rw [bk_len]; omega)]; rfl
    omega
theorem rep_set {a n : Nat} (h : a < n) : (List.replicate a (-1 : Int) ++ List.replicate (n - a) 0).set a (-1) = List.replicate (a + 1) (-1) ++ List.replicate (n - (a + 1)) 0 := by
  rw [List.set_append_right _ _ (by simp), List.length_replicate, Nat.sub_self, show n - a = (n - (a + 1)) + 1 by omega, List.replicate_succ, List.set_cons_zero, List.replicate_succ', List.append_assoc]
  rfl
set_option maxRecDepth 100000 in
set_option maxHeartbeats 8000000 in
theorem rinvert_any (s : ByteArray) (u : Value) (L : List Ed) (w : World) (hu : Es w w.heap.size u L) (hL : ∀ d ∈ L, d.ok) (hs : s.size ≤ 300) (hl : L.length ≤ 60) (hS : ∀ d ∈ L, d.x.size ≤ 300) : Calls Try.prog 21 #[.string s, u] w (InvPost s L w) := by
  have hSh : Short L := fun d hd => by have := hS d hd; omega
  have HA := Lib.hid (rapply_any s u L w hu hL (by omega) hSh)
  obtain ⟨T, hT⟩ : ∃ T, appR s.data.toList L = T := ⟨_, rfl⟩
  by_cases hE : appE s.data.toList L = 0
  · obtain ⟨cA, _, gA, zA⟩ := cov_app hE hSh
    rw [hT] at HA cA zA
    have hi : invL s L = nm s T.size 0 0 ((rg s.size true 0 0 L).map sw) := by unfold invL; rw [if_pos hE, hT]
    have cB := cov_bk cA
    have HK := Lib.hid (fun (w' : World) (h : Below w.heap.size w w') => rkept_any u L s.size w' (Rd.next hu h) gA (sml2_of hl hS gA (by omega)) (by omega))
    have hF := fit_of gA hSh
    have hkl := kp_len L 0 0 hF
    have HKS : Hid (∀ j, j < s.size → (kpL s.size 0 0 L)[j]? = some (kk s.size L j)) := Lib.hid fun j hj => kk_some hF hj
    have hbl := bk_len (kk s.size L) T.size s.size
    have HBT := Lib.hid (fun (v : Value) (w' : World) (h : Rd ic 1 w' w'.heap.size v (bkL (kk s.size L) T.size s.size)) => rbetween_any T s v _ w' h hbl zA (by omega) (bk (kk s.size L) T.size s.size) (fun j x hx => bk_get hx) (fun j _ => by have := (bk_lo cA j).2; omega) (fun j _ => (bk_lo cA j).1) (fun i j hij hj h1 h2 => cB.rise hij hj h1 h2))
    have hbt := bt_nm (tx := s) _ 0 0 0 cB.kr
    rw [Nat.sub_zero] at hbt
    rw [hbt, ← hi] at HBT
    obtain ⟨K, hK⟩ : ∃ K, kpL s.size 0 0 L = K := ⟨_, rfl⟩
    rw [hK] at HK hkl HKS
    have HLT : Hid (∀ j, j < s.size → kk s.size L j < T.size) := Lib.hid fun j hj => by
      by_cases h0 : 0 ≤ kk s.size L j
      · exact cA.lt hj h0
      · omega
    obtain ⟨κ, hκ⟩ : ∃ κ, kk s.size L = κ := ⟨_, rfl⟩
    rw [hκ] at HKS HBT HLT
    obtain ⟨IL, hIL⟩ : ∃ IL, invL s L = IL := ⟨_, rfl⟩
    rw [hIL] at HBT
    obtain ⟨D, hD⟩ : ∃ D, T.size = D := ⟨_, rfl⟩
    obtain ⟨n, hn⟩ : ∃ n, s.size = n := ⟨_, rfl⟩
    rw [hD] at zA HBT HLT
    rw [hn] at HK hkl HKS HBT HLT hs
    have hmk := mk_ints D (by omega)
    have HE := Lib.hid hE
    have HKL := Lib.hid (show K.length = n by omega)
    rw [HE.out] at HA
    unfold InvPost
    rw [HE.out, hIL]
    have HB0 : Hid (Below w.heap.size w w) := Lib.hid (Below.refl _ _)
    clear hE hT cA gA hi cB hF hkl hbl hbt hK hκ hIL hu hL hS hSh
    go_enter Try.func21, Try.ntmps21
    go_wp2_with (first | (go_at_call 19; (with_reducible refine HA.out.mono ?_); rintro e w1 ⟨rfl, hb1⟩; have HB1 := Lib.hid hb1) | (go_at_call 34; (with_reducible refine (HK.out _ HB1.out).mono ?_); rintro e w2 ⟨v2, rfl, hb2, hO2⟩; have HO2 := Lib.hid (Ow.rd ic_len hO2); have HB2 := Lib.hid (HB1.out.trans (hb2.mono HB1.out.size)); clear hO2 hb2))
    have HC : Hid (∀ wq, Below w2.heap.size w2 wq → ∀ j, j < n → ∃ (g o cap : Nat), v2 = .slice (some ⟨g, o, none⟩) n cap ∧ n ≤ cap ∧ g < w2.heap.size ∧ wq.cell? ⟨g, o + j, none⟩ = some (.int .i64 (κ j))) := Lib.hid (by
      intro wq hb j hj
      obtain ⟨g, o, cap, hvv, hg, hc, _, hcell⟩ := Rd.at_ HO2.out (by rw [HKL.out]; omega)
      rw [HKL.out] at hvv hc
      have hcc := hcell j _ 0 _ (HKS.out j hj) rfl
      rw [Nat.mul_one, Nat.add_zero] at hcc
      exact ⟨g, o, cap, hvv, hc, hg, (hb.cell (p := ⟨g, o + j, none⟩) hg).trans hcc⟩)
    clear hb1 HB1 HA HK HO2 hmk HKS HKL HE
    go_loopw [10] (fun i wr => ∃ k : Nat, k ≤ D ∧ i = .int .i64 k ∧ Hid (Below w2.heap.size w2 wr) ∧ w2.heap.size < wr.heap.size ∧ Hid (ZRow wr w2.heap.size (List.replicate k (-1) ++ List.replicate (D - k) 0))) (fun i _ => D - (intOf i).toNat)
    case atStart => exact ⟨0, by omega, rfl, Lib.hid ((Below.refl _ _).alloc (Nat.le_refl _) _), by simp, Lib.hid (by simpa using ZRow.made w2 D)⟩
    case round =>
      obtain ⟨k, hk, rfl, HBr, hlr, HZ⟩ := hrel
      by_cases hlt : k < D
      · have hfro := HZ.out.frozen k
        have hcell := HZ.out.cell (i := k) (z := 0) (by rw [List.getElem?_append_right (by simp), List.length_replicate, Nat.sub_self, List.getElem?_replicate, if_pos (by omega)])
        have HRS := Lib.hid (rep_set hlt)
        go_wp2
        exact ⟨⟨k + 1, by omega, by go_num, Lib.hid (HBr.out.setCell (Nat.le_refl _) _), by simp; omega, Lib.hid (by rw [← HRS.out]; exact HZ.out.set)⟩, by simp [intOf] <;> omega⟩
      · obtain rfl : k = D := by omega
        have HZ0 : Hid (ZRow wr w2.heap.size (bkL κ k 0)) := Lib.hid (by have := HZ.out; rw [Nat.sub_self] at this; simpa [bkL] using this)
        clear HZ
        go_wp2
        go_loopw [11] (fun i wq => ∃ j : Nat, j ≤ n ∧ i = .int .i64 j ∧ Hid (Below w2.heap.size w2 wq) ∧ w2.heap.size < wq.heap.size ∧ Hid (ZRow wq w2.heap.size (bkL κ k j))) (fun i _ => n - (intOf i).toNat)
        case atStart => exact ⟨0, by omega, rfl, HBr, hlr, HZ0⟩
        case round =>
          obtain ⟨j, hj, rfl, HBq, hlq, HZ⟩ := hrel
          by_cases hjn : j < n
          · obtain ⟨g, o, cap, rfl, hcap, hg, c0⟩ := HC.out _ HBq.out j hjn
            have hzD := HLT.out j hjn
            by_cases hneg : κ j < 0
            · have HZ2 : Hid (ZRow _ w2.heap.size (bkL κ k (j + 1))) := Lib.hid (by unfold bkL; rw [if_pos hneg]; exact HZ.out)
              go_wp2
              exact ⟨⟨j + 1, by omega, by go_num, HBq, hlq, HZ2⟩, by simp [intOf] <;> omega⟩
            · obtain ⟨z, hz⟩ : ∃ z : Nat, κ j = z := ⟨(κ j).toNat, by omega⟩
              have HS2 : Hid (bkL κ k (j + 1) = (bkL κ k j).set z j) := Lib.hid (by
                conv => lhs; unfold bkL
                rw [if_neg hneg, hz]; rfl)
              rw [hz] at c0 hzD
              have hfro := HZ.out.frozen z
              obtain ⟨q, hq⟩ : ∃ q, (bkL κ k j)[z]? = some q := ⟨_, List.getElem?_eq_getElem (by rw [bk_len]; omega)⟩
              have hcell := HZ.out.cell hq
              clear hq hz hneg
              go_wp2
              exact ⟨⟨j + 1, by omega, by go_num, Lib.hid (HBq.out.setCell (Nat.le_refl _) _), by simp; omega, Lib.hid (by rw [HS2.out]; exact HZ.out.set)⟩, by simp [intOf] <;> omega⟩
          · obtain rfl : j = n := by omega
            go_wp2_with (go_at_call 35; (with_reducible refine (HBT.out _ _ (HZ.out.rd (bk_len _ _ _) (by omega))).mono ?_); rintro e w5 ⟨v5, rfl, hb5, hO5⟩; have HO5 := Lib.hid hO5; clear hO5)
            go_ret2
            exact ⟨_, rfl, HB2.out.trans ((HBq.out.mono HB2.out.size).trans (hb5.mono (Nat.le_trans HB2.out.size (Nat.le_of_lt hlq)))), ow_le HO5.out (Nat.le_trans HB2.out.size (Nat.le_of_lt hlq))⟩
  · obtain ⟨E, hE'⟩ : ∃ E, appE s.data.toList L = E := ⟨_, rfl⟩
    have hi : invL s L = [] := if_neg hE
    unfold InvPost
    rw [hi]
    rw [hT] at HA
    rw [hE'] at HA hE ⊢
    have hne : (E == 0) = false := by rw [beq_eq_false_iff_ne]; exact hE
    clear hE' hu
    go_enter Try.func21, Try.ntmps21
    go_wp2_with (go_at_call 19; (with_reducible refine HA.out.mono ?_); rintro e w1 ⟨rfl, hb1⟩)
    go_ret2
    exact ⟨_, rfl, hb1, Ow.nil _ _⟩
end Go.Proofs.Ytdgoblapmjpcaaa.Sp
