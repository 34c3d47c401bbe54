/-
  Contracts of package span and its reference: lists of edits checked.
-/
import Derived.Test.YtdgoblapmjpcaaaSpA
namespace Go.Proofs.Ytdgoblapmjpcaaa.Sp
open Go.RowKit
set_option linter.unusedVariables false
set_option linter.unusedSimpArgs false
open RO

/-- The check of edits behind an edit. -/
def chkL (s : Int) : Option Ed → List Ed → Int
  | _, [] => 0
  | p, x :: L => if vld x.f x.t s = true then (match p with
    | none => chkL s (some x) L
    | some q => if x.f < q.t ∨ q.f = x.t then 25 else chkL s (some x) L) else 2
def prev (L : List Ed) (k : Nat) : Option Ed := if k = 0 then none else L[k - 1]?
def chk (L : List Ed) (s : Int) : Int := if 4096 < L.length then 10 else chkL s none L
theorem drop_get {L : List Ed} {k : Nat} {d : Ed} (h : L[k]? = some d) : L.drop k = d :: L.drop (k + 1) := by
  obtain ⟨hk, rfl⟩ := List.getElem?_eq_some_iff.1 h
  exact List.drop_eq_getElem_cons hk
theorem chk_bad {L : List Ed} {k : Nat} {d : Ed} {s : Int} {p : Option Ed} (h : L[k]? = some d) (hv : vld d.f d.t s = false) : chkL s p (L.drop k) = 2 := by
  rw [drop_get h]; unfold chkL; rw [if_neg (by rw [hv]; simp)]
theorem chk_zero {L : List Ed} {d : Ed} {s : Int} (h : L[0]? = some d) (hv : vld d.f d.t s = true) : chkL s (prev L 0) (L.drop 0) = chkL s (prev L 1) (L.drop 1) := by
  rw [drop_get h]; conv => lhs; unfold chkL
  rw [if_pos hv]
  show chkL s (some d) _ = _
  unfold prev
  rw [if_neg (by decide), h]
theorem chk_con {L : List Ed} {k : Nat} {d q : Ed} {s : Int} (h : L[k]? = some d) (hk : 0 < k) (hq : L[k - 1]? = some q) (hv : vld d.f d.t s = true) (hc : d.f < q.t ∨ q.f = d.t) : chkL s (prev L k) (L.drop k) = 25 := by
  have : prev L k = some q := by unfold prev; rw [if_neg (by omega), hq]
  rw [this, drop_get h]; unfold chkL
  rw [if_pos hv]
  simp only
  rw [if_pos hc]
theorem chk_next {L : List Ed} {k : Nat} {d q : Ed} {s : Int} (h : L[k]? = some d) (hk : 0 < k) (hq : L[k - 1]? = some q) (hv : vld d.f d.t s = true) (hc : ¬ (d.f < q.t ∨ q.f = d.t)) : chkL s (prev L k) (L.drop k) = chkL s (prev L (k + 1)) (L.drop (k + 1)) := by
  have : prev L k = some q := by unfold prev; rw [if_neg (by omega), hq]
  rw [this, drop_get h]; conv => lhs; unfold chkL
  rw [if_pos hv]
  simp only
  rw [if_neg hc]
  unfold prev
  rw [if_neg (by omega), Nat.add_sub_cancel, h]
theorem chk_end {L : List Ed} {k : Nat} {s : Int} {p : Option Ed} (h : L.length ≤ k) : chkL s p (L.drop k) = 0 := by
  rw [List.drop_eq_nil_of_le h]; unfold chkL; rfl
theorem vld_iff {f t s : Int} : vld f t s = true ↔ 0 ≤ f ∧ f ≤ t ∧ t ≤ s := by unfold vld; simp [and_assoc]
theorem get_in {L : List Ed} {n k : Nat} (hn : L.length = n) (h : k < n) : ∃ d, L[k]? = some d := ⟨L[k]'(by omega), List.getElem?_eq_getElem _⟩
set_option maxRecDepth 100000 in
set_option maxHeartbeats 4000000 in
theorem check_any (v : Value) (L : List Ed) (s : Int) (w : World) (hv : Es w w.heap.size v L) (hL : ∀ d ∈ L, d.ok) (hs : I64 s) : Calls Try.prog 15 #[v, .int .i64 s] w fun e w' => e = .returned (.int .i64 (chk L s)) ∧ Below w.heap.size w w' := by
  obtain ⟨n, hn⟩ : ∃ n, L.length = n := ⟨_, rfl⟩
  obtain ⟨a, cap, rfl, hn9⟩ := Rd.slice hv hn
  have hs1 := hs.1
  have hs2 := hs.2
  by_cases h4 : 4096 < n
  · have HE : Hid (chk L s = 10) := Lib.hid (by unfold chk; rw [if_pos (by omega)])
    clear hn hv hL
    go_enter Try.func15, Try.ntmps15
    go_wp2
    go_ret
    exact ⟨ret_int HE.out.symm, Below.refl _ _⟩
  have HE : Hid (chk L s = chkL s (prev L 0) (L.drop 0)) := Lib.hid (by unfold chk; rw [if_neg (by omega)]; rfl)
  rcases Nat.eq_zero_or_pos n with h0 | h0
  · subst h0
    have HZ : Hid (chk L s = 0) := Lib.hid (HE.out.trans (chk_end (by omega)))
    clear hn hv hL
    go_enter Try.func15, Try.ntmps15
    go_wp2
    go_loop [13] (fun i => i = .int .i64 0) (fun _ => 0)
    case atStart => rfl
    case round =>
      subst hrel
      go_wp2
      go_ret
      exact ⟨ret_int HZ.out.symm, Below.refl _ _⟩
  obtain ⟨g, o, cap', hvv, hg, hcap, hcap9, hcell⟩ := Es.at_ hv hn h0
  injection hvv with hv1 hv2 hv3
  subst hv1 hv3
  have HC := Lib.hid hcell
  have HN := Lib.hid hn
  have HOK := Lib.hid hL
  have HS := Lib.hid hs
  have VC := Lib.hid (fun (d : Ed) (w : World) (h : d.ok) => valid_any d.f d.t s w h.1 h.2.1 hs)
  clear hcell hn hL hv hs
  go_enter Try.func15, Try.ntmps15
  go_wp2
  go_loopw [13] (fun i wr => ∃ k : Nat, k ≤ n ∧ i = .int .i64 k ∧ Below w.heap.size w wr ∧ w.heap.size ≤ wr.heap.size ∧ Hid (∀ q, 0 < k → L[k - 1]? = some q → vld q.f q.t s = true) ∧ Hid (chk L s = chkL s (prev L k) (L.drop k))) (fun i _ => n - (intOf i).toNat)
  case atStart => exact ⟨0, by omega, rfl, Below.refl _ _, Nat.le_refl _, Lib.hid (fun q h => by omega), HE⟩
  case round =>
    obtain ⟨k, hk, rfl, hb, hbs, HP, HX⟩ := hrel
    by_cases hlt : k < n
    · obtain ⟨d, hd⟩ := get_in HN.out hlt
      obtain ⟨e0, e1, e2⟩ := HC.out k d hd
      have e0 := (hb.cell (p := ⟨g, o + k * 3, none⟩) hg).trans e0
      have e1 := (hb.cell (p := ⟨g, o + k * 3 + 1, none⟩) hg).trans e1
      have e2 := (hb.cell (p := ⟨g, o + k * 3 + 2, none⟩) hg).trans e2
      have hok := HOK.out d (List.mem_of_getElem? hd)
      have HD := Lib.hid hd
      have HO := Lib.hid hok
      obtain ⟨⟨hf1, hf2⟩, ⟨ht1, ht2⟩, hx⟩ := hok
      have VD := Lib.hid (fun w => VC.out d w HO.out)
      clear hd
      obtain ⟨df, dt, dx⟩ := d
      by_cases hvd : vld df dt s = true
      · rw [show vld (Ed.mk df dt dx).f (Ed.mk df dt dx).t s = true from hvd] at VD
        rcases Nat.eq_zero_or_pos k with hk0 | hk0
        · have HX2 : Hid (chk L s = chkL s (prev L (k + 1)) (L.drop (k + 1))) := Lib.hid (by rw [HX.out, hk0]; exact chk_zero (by rw [← hk0]; exact HD.out) hvd)
          have HP2 : Hid (∀ q, 0 < k + 1 → L[k + 1 - 1]? = some q → vld q.f q.t s = true) := Lib.hid (fun q _ hq => by rw [Nat.add_sub_cancel, HD.out] at hq; rw [← Option.some.inj hq]; exact hvd)
          have hk1 : ((k : Int) == 0) = true := by simp [hk0]
          clear hvd hk0
          go_wp2_with (go_at_call 13; (with_reducible refine (VD.out _).mono ?_); rintro e w1 ⟨rfl, hb1⟩; have hb2 : Below w.heap.size w w1 := (hb.alloc hbs _).trans (hb1.mono (by simp; omega)); have hbs2 := Nat.le_trans hbs (Nat.le_trans (by simp) hb1.size); obtain ⟨hc1, hf1'⟩ := bcell hb1; have k0 := hc1 wr.heap.size 0 (by simp); have k1 := hc1 wr.heap.size 1 (by simp); have hsz : wr.heap.size < w1.heap.size := Nat.lt_of_lt_of_le (by simp) hb1.size; clear hc1 hf1' hb1)
          exact ⟨⟨k + 1, by omega, by go_num, hb2, hbs2, HP2, HX2⟩, by simp [intOf]; omega⟩
        · obtain ⟨q, hq⟩ := get_in HN.out (show k - 1 < n by omega)
          obtain ⟨p0, p1, _⟩ := HC.out (k - 1) q hq
          have hqv := HP.out q hk0 hq
          have hqo := HOK.out q (List.mem_of_getElem? hq)
          have HQ := Lib.hid hq
          clear hq
          have hk1 : ((k : Int) == 0) = false := by rw [beq_eq_false_iff_ne]; omega
          have s1 : ((k : Int) - 1).toNat = k - 1 := by omega
          have HP2 : Hid (∀ q, 0 < k + 1 → L[k + 1 - 1]? = some q → vld q.f q.t s = true) := Lib.hid (fun q _ hq => by rw [Nat.add_sub_cancel, HD.out] at hq; rw [← Option.some.inj hq]; exact hvd)
          obtain ⟨⟨qf1, qf2⟩, ⟨qt1, qt2⟩, _⟩ := hqo
          obtain ⟨qf, qt, qx⟩ := q
          rw [vld_iff] at hqv
          obtain ⟨v1, v2, v3⟩ := hqv
          have hdv := vld_iff.1 hvd
          obtain ⟨u1, u2, u3⟩ := hdv
          simp only at p0 p1 qf1 qf2 qt1 qt2 v1 v2 v3 u1 u2 u3
          by_cases hc1 : df < qt
          · have HZ : Hid (chk L s = 25) := Lib.hid (HX.out.trans (chk_con HD.out hk0 HQ.out hvd (.inl hc1)))
            clear hvd
            go_wp2_with (go_at_call 13; (with_reducible refine (VD.out _).mono ?_); rintro e w1 ⟨rfl, hb1⟩; have hb2 : Below w.heap.size w w1 := (hb.alloc hbs _).trans (hb1.mono (by simp; omega)); have hbs2 := Nat.le_trans hbs (Nat.le_trans (by simp) hb1.size); obtain ⟨hc1', hf1'⟩ := bcell hb1; have k0 := hc1' wr.heap.size 0 (by simp); have k1 := hc1' wr.heap.size 1 (by simp); have hsz : wr.heap.size < w1.heap.size := Nat.lt_of_lt_of_le (by simp) hb1.size; have p0 := (hb2.cell (p := ⟨g, o + (k - 1) * 3, none⟩) hg).trans p0; have p1 := (hb2.cell (p := ⟨g, o + (k - 1) * 3 + 1, none⟩) hg).trans p1; clear hc1' hf1' hb1)
            go_ret
            exact ⟨ret_int HZ.out.symm, hb2.alloc (by omega) _⟩
          · by_cases hc2 : qf = dt
            · have HZ : Hid (chk L s = 25) := Lib.hid (HX.out.trans (chk_con HD.out hk0 HQ.out hvd (.inr hc2)))
              clear hvd
              obtain rfl : qt = qf := by omega
              obtain rfl : df = qt := by omega
              obtain rfl : dt = df := by omega
              go_wp2_with (go_at_call 13; (with_reducible refine (VD.out _).mono ?_); rintro e w1 ⟨rfl, hb1⟩; have hb2 : Below w.heap.size w w1 := (hb.alloc hbs _).trans (hb1.mono (by simp; omega)); have hbs2 := Nat.le_trans hbs (Nat.le_trans (by simp) hb1.size); obtain ⟨hc1', hf1'⟩ := bcell hb1; have k0 := hc1' wr.heap.size 0 (by simp); have k1 := hc1' wr.heap.size 1 (by simp); have hsz : wr.heap.size < w1.heap.size := Nat.lt_of_lt_of_le (by simp) hb1.size; have p0 := (hb2.cell (p := ⟨g, o + (k - 1) * 3, none⟩) hg).trans p0; have p1 := (hb2.cell (p := ⟨g, o + (k - 1) * 3 + 1, none⟩) hg).trans p1; clear hc1' hf1' hb1)
              go_ret
              exact ⟨ret_int HZ.out.symm, hb2.alloc (by omega) _⟩
            · have HX2 : Hid (chk L s = chkL s (prev L (k + 1)) (L.drop (k + 1))) := Lib.hid (HX.out.trans (chk_next HD.out hk0 HQ.out hvd (by simp only; omega)))
              clear hvd
              by_cases h3 : df = qf
              · have h4 : ¬ dt = qt := by omega
                have h6 : (dt == qt) = false := by rw [beq_eq_false_iff_ne]; exact h4
                subst h3
                go_wp2_with (go_at_call 13; (with_reducible refine (VD.out _).mono ?_); rintro e w1 ⟨rfl, hb1⟩; have hb2 : Below w.heap.size w w1 := (hb.alloc hbs _).trans (hb1.mono (by simp; omega)); have hbs2 := Nat.le_trans hbs (Nat.le_trans (by simp) hb1.size); obtain ⟨hc1', hf1'⟩ := bcell hb1; have k0 := hc1' wr.heap.size 0 (by simp); have k1 := hc1' wr.heap.size 1 (by simp); have hsz : wr.heap.size < w1.heap.size := Nat.lt_of_lt_of_le (by simp) hb1.size; have p0 := (hb2.cell (p := ⟨g, o + (k - 1) * 3, none⟩) hg).trans p0; have p1 := (hb2.cell (p := ⟨g, o + (k - 1) * 3 + 1, none⟩) hg).trans p1; clear hc1' hf1' hb1)
                exact ⟨⟨k + 1, by omega, by go_num, hb2.alloc (by omega) _, by simp; omega, HP2, HX2⟩, by simp [intOf]; omega⟩
              · have h6 : (df == qf) = false := by rw [beq_eq_false_iff_ne]; exact h3
                go_wp2_with (go_at_call 13; (with_reducible refine (VD.out _).mono ?_); rintro e w1 ⟨rfl, hb1⟩; have hb2 : Below w.heap.size w w1 := (hb.alloc hbs _).trans (hb1.mono (by simp; omega)); have hbs2 := Nat.le_trans hbs (Nat.le_trans (by simp) hb1.size); obtain ⟨hc1', hf1'⟩ := bcell hb1; have k0 := hc1' wr.heap.size 0 (by simp); have k1 := hc1' wr.heap.size 1 (by simp); have hsz : wr.heap.size < w1.heap.size := Nat.lt_of_lt_of_le (by simp) hb1.size; have p0 := (hb2.cell (p := ⟨g, o + (k - 1) * 3, none⟩) hg).trans p0; have p1 := (hb2.cell (p := ⟨g, o + (k - 1) * 3 + 1, none⟩) hg).trans p1; clear hc1' hf1' hb1)
                exact ⟨⟨k + 1, by omega, by go_num, hb2.alloc (by omega) _, by simp; omega, HP2, HX2⟩, by simp [intOf]; omega⟩
      · have HZ : Hid (chk L s = 2) := Lib.hid (HX.out.trans (chk_bad HD.out (by simpa using hvd)))
        rw [show vld (Ed.mk df dt dx).f (Ed.mk df dt dx).t s = false by simpa using hvd] at VD
        clear hvd
        go_wp2_with (go_at_call 13; (with_reducible refine (VD.out _).mono ?_); rintro e w1 ⟨rfl, hb1⟩; have hb2 : Below w.heap.size w w1 := (hb.alloc hbs _).trans (hb1.mono (by simp; omega)); clear hb1)
        go_ret
        exact ⟨ret_int HZ.out.symm, hb2⟩
    · have HZ : Hid (chk L s = 0) := Lib.hid (HX.out.trans (chk_end (by rw [HN.out]; omega)))
      go_wp2
      go_ret
      exact ⟨ret_int HZ.out.symm, hb⟩
set_option maxRecDepth 100000 in
set_option maxHeartbeats 4000000 in
theorem rcheck_any (v : Value) (L : List Ed) (s : Int) (w : World) (hv : Es w w.heap.size v L) (hL : ∀ d ∈ L, d.ok) (hs : I64 s) : Calls Try.prog 16 #[v, .int .i64 s] w fun e w' => e = .returned (.int .i64 (chk L s)) ∧ Below w.heap.size w w' := by
  obtain ⟨n, hn⟩ : ∃ n, L.length = n := ⟨_, rfl⟩
  obtain ⟨a, cap, rfl, hn9⟩ := Rd.slice hv hn
  have hs1 := hs.1
  have hs2 := hs.2
  by_cases h4 : 4096 < n
  · have HE : Hid (chk L s = 10) := Lib.hid (by unfold chk; rw [if_pos (by omega)])
    clear hn hv hL
    go_enter Try.func16, Try.ntmps16
    go_wp2
    go_ret
    exact ⟨ret_int HE.out.symm, Below.refl _ _⟩
  have HE : Hid (chk L s = chkL s (prev L 0) (L.drop 0)) := Lib.hid (by unfold chk; rw [if_neg (by omega)]; rfl)
  rcases Nat.eq_zero_or_pos n with h0 | h0
  · subst h0
    have HZ : Hid (chk L s = 0) := Lib.hid (HE.out.trans (chk_end (by omega)))
    clear hn hv hL
    go_enter Try.func16, Try.ntmps16
    go_wp2
    go_loop [5] (fun i => i = .int .i64 0) (fun _ => 0)
    case atStart => rfl
    case round =>
      subst hrel
      go_wp2
      go_ret
      exact ⟨ret_int HZ.out.symm, Below.refl _ _⟩
  obtain ⟨g, o, cap', hvv, hg, hcap, hcap9, hcell⟩ := Es.at_ hv hn h0
  injection hvv with hv1 hv2 hv3
  subst hv1 hv3
  have HC := Lib.hid hcell
  have HN := Lib.hid hn
  have HOK := Lib.hid hL
  have HS := Lib.hid hs
  have VC := Lib.hid (fun (d : Ed) (w : World) (h : d.ok) => rvalid_any d.f d.t s w h.1 h.2.1 hs)
  clear hcell hn hL hv hs
  go_enter Try.func16, Try.ntmps16
  go_wp2
  go_loopw [5] (fun i wr => ∃ k : Nat, k ≤ n ∧ i = .int .i64 k ∧ Below w.heap.size w wr ∧ w.heap.size ≤ wr.heap.size ∧ Hid (∀ q, 0 < k → L[k - 1]? = some q → vld q.f q.t s = true) ∧ Hid (chk L s = chkL s (prev L k) (L.drop k))) (fun i _ => n - (intOf i).toNat)
  case atStart => exact ⟨0, by omega, rfl, Below.refl _ _, Nat.le_refl _, Lib.hid (fun q h => by omega), HE⟩
  case round =>
    obtain ⟨k, hk, rfl, hb, hbs, HP, HX⟩ := hrel
    by_cases hlt : k < n
    · obtain ⟨d, hd⟩ := get_in HN.out hlt
      obtain ⟨e0, e1, e2⟩ := HC.out k d hd
      have e0 := (hb.cell (p := ⟨g, o + k * 3, none⟩) hg).trans e0
      have e1 := (hb.cell (p := ⟨g, o + k * 3 + 1, none⟩) hg).trans e1
      have e2 := (hb.cell (p := ⟨g, o + k * 3 + 2, none⟩) hg).trans e2
      have hok := HOK.out d (List.mem_of_getElem? hd)
      have HD := Lib.hid hd
      have HO := Lib.hid hok
      obtain ⟨⟨hf1, hf2⟩, ⟨ht1, ht2⟩, hx⟩ := hok
      have VD := Lib.hid (fun w => VC.out d w HO.out)
      clear hd
      obtain ⟨df, dt, dx⟩ := d
      by_cases hvd : vld df dt s = true
      · rw [show vld (Ed.mk df dt dx).f (Ed.mk df dt dx).t s = true from hvd] at VD
        rcases Nat.eq_zero_or_pos k with hk0 | hk0
        · have HX2 : Hid (chk L s = chkL s (prev L (k + 1)) (L.drop (k + 1))) := Lib.hid (by rw [HX.out, hk0]; exact chk_zero (by rw [← hk0]; exact HD.out) hvd)
          have HP2 : Hid (∀ q, 0 < k + 1 → L[k + 1 - 1]? = some q → vld q.f q.t s = true) := Lib.hid (fun q _ hq => by rw [Nat.add_sub_cancel, HD.out] at hq; rw [← Option.some.inj hq]; exact hvd)
          have hk1 : ((k : Int) == 0) = true := by simp [hk0]
          clear hvd hk0
          go_wp2_with (go_at_call 14; (with_reducible refine (VD.out _).mono ?_); rintro e w1 ⟨rfl, hb1⟩; have hb2 : Below w.heap.size w w1 := hb.trans (hb1.mono hbs); have hbs2 := Nat.le_trans hbs hb1.size; have e0 := (hb1.cell (p := ⟨g, o + k * 3, none⟩) (by simp; omega)).trans e0; have e1 := (hb1.cell (p := ⟨g, o + k * 3 + 1, none⟩) (by simp; omega)).trans e1; clear hb1)
          exact ⟨⟨k + 1, by omega, by go_num, hb2, hbs2, HP2, HX2⟩, by simp [intOf]; omega⟩
        · obtain ⟨q, hq⟩ := get_in HN.out (show k - 1 < n by omega)
          obtain ⟨p0, p1, _⟩ := HC.out (k - 1) q hq
          have hqv := HP.out q hk0 hq
          have hqo := HOK.out q (List.mem_of_getElem? hq)
          have HQ := Lib.hid hq
          clear hq
          have hk1 : ((k : Int) == 0) = false := by rw [beq_eq_false_iff_ne]; omega
          have s1 : ((k : Int) - 1).toNat = k - 1 := by omega
          have HP2 : Hid (∀ q, 0 < k + 1 → L[k + 1 - 1]? = some q → vld q.f q.t s = true) := Lib.hid (fun q _ hq => by rw [Nat.add_sub_cancel, HD.out] at hq; rw [← Option.some.inj hq]; exact hvd)
          obtain ⟨⟨qf1, qf2⟩, ⟨qt1, qt2⟩, _⟩ := hqo
          obtain ⟨qf, qt, qx⟩ := q
          rw [vld_iff] at hqv
          obtain ⟨v1, v2, v3⟩ := hqv
          have hdv := vld_iff.1 hvd
          obtain ⟨u1, u2, u3⟩ := hdv
          simp only at p0 p1 qf1 qf2 qt1 qt2 v1 v2 v3 u1 u2 u3
          by_cases hc1 : df < qt
          · have HZ : Hid (chk L s = 25) := Lib.hid (HX.out.trans (chk_con HD.out hk0 HQ.out hvd (.inl hc1)))
            have d1 := decide_eq_true hc1
            clear hvd
            go_wp2_with (go_at_call 14; (with_reducible refine (VD.out _).mono ?_); rintro e w1 ⟨rfl, hb1⟩; have hb2 : Below w.heap.size w w1 := hb.trans (hb1.mono hbs); have hbs2 := Nat.le_trans hbs hb1.size; have e0 := (hb1.cell (p := ⟨g, o + k * 3, none⟩) (by simp; omega)).trans e0; have e1 := (hb1.cell (p := ⟨g, o + k * 3 + 1, none⟩) (by simp; omega)).trans e1; have hgl : g < w1.heap.size := (by omega); have p0 := (hb2.cell (p := ⟨g, o + (k - 1) * 3, none⟩) hg).trans p0; have p1 := (hb2.cell (p := ⟨g, o + (k - 1) * 3 + 1, none⟩) hg).trans p1; clear hb1)
            go_quiet (fail)
            go_wp2
            go_ret
            exact ⟨ret_int HZ.out.symm, (hb2.alloc (by omega) _).trans ⟨rfl, rfl, rfl, Nat.le_refl _, fun _ _ => rfl⟩⟩
          · have d1 := decide_eq_false hc1
            by_cases hc2 : qf = dt
            · have HZ : Hid (chk L s = 25) := Lib.hid (HX.out.trans (chk_con HD.out hk0 HQ.out hvd (.inr hc2)))
              have d2 : (qf == dt) = true := by rw [beq_iff_eq]; exact hc2
              have HC2 := Lib.hid hc2
              clear hvd hc2
              go_wp2_with (go_at_call 14; (with_reducible refine (VD.out _).mono ?_); rintro e w1 ⟨rfl, hb1⟩; have hb2 : Below w.heap.size w w1 := hb.trans (hb1.mono hbs); have hbs2 := Nat.le_trans hbs hb1.size; have e0 := (hb1.cell (p := ⟨g, o + k * 3, none⟩) (by simp; omega)).trans e0; have e1 := (hb1.cell (p := ⟨g, o + k * 3 + 1, none⟩) (by simp; omega)).trans e1; have hgl : g < w1.heap.size := (by omega); have p0 := (hb2.cell (p := ⟨g, o + (k - 1) * 3, none⟩) hg).trans p0; have p1 := (hb2.cell (p := ⟨g, o + (k - 1) * 3 + 1, none⟩) hg).trans p1; clear hb1)
              go_quiet (fail)
              go_wp2
              go_ret
              exact ⟨ret_int HZ.out.symm, (hb2.alloc (by omega) _).trans ⟨rfl, rfl, rfl, Nat.le_refl _, fun _ _ => rfl⟩⟩
            · have HX2 : Hid (chk L s = chkL s (prev L (k + 1)) (L.drop (k + 1))) := Lib.hid (HX.out.trans (chk_next HD.out hk0 HQ.out hvd (by simp only; omega)))
              have d2 : (qf == dt) = false := by rw [beq_eq_false_iff_ne]; exact hc2
              clear hvd
              go_wp2_with (go_at_call 14; (with_reducible refine (VD.out _).mono ?_); rintro e w1 ⟨rfl, hb1⟩; have hb2 : Below w.heap.size w w1 := hb.trans (hb1.mono hbs); have hbs2 := Nat.le_trans hbs hb1.size; have e0 := (hb1.cell (p := ⟨g, o + k * 3, none⟩) (by simp; omega)).trans e0; have e1 := (hb1.cell (p := ⟨g, o + k * 3 + 1, none⟩) (by simp; omega)).trans e1; have hgl : g < w1.heap.size := (by omega); have p0 := (hb2.cell (p := ⟨g, o + (k - 1) * 3, none⟩) hg).trans p0; have p1 := (hb2.cell (p := ⟨g, o + (k - 1) * 3 + 1, none⟩) hg).trans p1; clear hb1)
              go_quiet (fail)
              go_wp2
              exact ⟨⟨k + 1, by omega, by go_num, (hb2.alloc (by omega) _).trans ⟨rfl, rfl, rfl, Nat.le_refl _, fun _ _ => rfl⟩, by simp; omega, HP2, HX2⟩, by simp [intOf]; omega⟩
      · have HZ : Hid (chk L s = 2) := Lib.hid (HX.out.trans (chk_bad HD.out (by simpa using hvd)))
        rw [show vld (Ed.mk df dt dx).f (Ed.mk df dt dx).t s = false by simpa using hvd] at VD
        clear hvd
        go_wp2_with (go_at_call 14; (with_reducible refine (VD.out _).mono ?_); rintro e w1 ⟨rfl, hb1⟩; have hb2 : Below w.heap.size w w1 := hb.trans (hb1.mono hbs); clear hb1)
        go_ret
        exact ⟨ret_int HZ.out.symm, hb2⟩
    · have HZ : Hid (chk L s = 0) := Lib.hid (HX.out.trans (chk_end (by rw [HN.out]; omega)))
      go_wp2
      go_ret
      exact ⟨ret_int HZ.out.symm, hb⟩
end Go.Proofs.Ytdgoblapmjpcaaa.Sp
