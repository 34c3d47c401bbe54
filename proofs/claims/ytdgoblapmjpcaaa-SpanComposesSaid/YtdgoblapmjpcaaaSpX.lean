/-
  Package span, plain: what the reference's Kept says is what the runs say; what edits in normal form make.
-/
import Derived.Test.YtdgoblapmjpcaaaSpW
import Derived.Test.YtdgoblapmjpcaaaSpU
namespace Go.Proofs.Ytdgoblapmjpcaaa.Sp
open Go.RowKit
set_option linter.unusedVariables false
set_option linter.unusedSimpArgs false

theorem run_get {y : Int} {a m j : Nat} : (run y a m)[j]? = if j < m then some (((a + j : Nat) : Int) + y) else none := by
  unfold run
  rw [List.getElem?_map]
  by_cases h : j < m
  · rw [List.getElem?_range h, if_pos h]; rfl
  · rw [if_neg h, List.getElem?_eq_none (by simp; omega)]; rfl
/-- By how much edits make a text longer. -/
def dlt : List Ed → Int
  | [] => 0
  | d :: L => d.x.size - (d.t - d.f) + dlt L
theorem kp_len {S : Nat} : ∀ (L : List Ed) (y : Int) (a : Nat), Fit S a L → (kpL S y a L).length = S - a := by
  intro L
  induction L with
  | nil => intro y a _; exact run_length _ _ _
  | cons d L ih =>
    intro y a h
    obtain ⟨h1, h2, h3, _, h5⟩ := h
    have hle := Fit.le h5
    unfold kpL
    rw [List.length_append, List.length_append, run_length, List.length_replicate, ih _ _ (by rw [show ((d.t.toNat : Nat) : Int) = d.t by omega]; exact h5)]
    omega
/-- The three parts of what Kept says. -/
theorem kp_get {S : Nat} {L : List Ed} {d : Ed} {y : Int} {a F T : Nat} (hF : d.f = F) (hT : d.t = T) (h1 : a ≤ F) (h2 : F ≤ T) (j : Nat) : (kpL S y a (d :: L))[j]? = if j < F - a then some (((a + j : Nat) : Int) + y) else if j < T - a then some (-1) else (kpL S (y + (d.x.size - ((T : Int) - F))) T L)[j - (T - a)]? := by
  show (run y a (d.f.toNat - a) ++ (List.replicate (d.t.toNat - d.f.toNat) (-1) ++ kpL S (y + (d.x.size - (d.t - d.f))) d.t.toNat L))[j]? = _
  rw [hF, hT]
  simp only [Int.toNat_natCast]
  by_cases c1 : j < F - a
  · rw [if_pos c1, List.getElem?_append_left (by rw [run_length]; exact c1), run_get, if_pos c1]
  · rw [if_neg c1, List.getElem?_append_right (by rw [run_length]; omega), run_length]
    by_cases c2 : j < T - a
    · rw [if_pos c2, List.getElem?_append_left (by rw [List.length_replicate]; omega), List.getElem?_replicate, if_pos (by omega)]
    · rw [if_neg c2, List.getElem?_append_right (by rw [List.length_replicate]; omega), List.length_replicate, show j - (F - a) - (T - F) = j - (T - a) by omega]
theorem rg_kp {S : Nat} : ∀ (L : List Ed) (fl : Bool) (a : Nat) (y : Int), 0 ≤ (a : Int) + y → Fit S a L →
    (rg S fl a (a + y) L).Pairwise (fun r q => r.a + r.c ≤ q.a ∧ r.b + r.c ≤ q.b) ∧
    (∀ r ∈ rg S fl a (a + y) L, (a : Int) ≤ r.a ∧ (a : Int) + y ≤ r.b ∧ 0 ≤ r.c ∧ r.a + r.c ≤ S ∧ r.b + r.c ≤ S + y + dlt L) ∧
    (∀ r ∈ rg S fl a (a + y) L, ∀ j : Nat, r.a ≤ j → j < r.a + r.c → (kpL S y a L)[j - a]? = some (r.b + (j - r.a))) ∧
    (∀ (j : Nat) (v : Int), (kpL S y a L)[j]? = some v → 0 ≤ v → ∃ r ∈ rg S fl a (a + y) L, r.a ≤ a + j ∧ (a : Int) + j < r.a + r.c) := by
  intro L
  induction L with
  | nil =>
    intro fl a y h0 hF
    obtain ⟨_, hF⟩ := hF
    have e : rg S fl a (a + y) [] = [⟨a, a + y, S - a⟩] := by cases fl <;> rfl
    rw [e]
    refine ⟨List.pairwise_singleton _ _, ?_, ?_, ?_⟩
    · intro r hr
      rw [List.mem_singleton] at hr; subst hr
      simp only [dlt]; omega
    · intro r hr j j1 j2
      rw [List.mem_singleton] at hr; subst hr
      simp only at j1 j2 ⊢
      show (run y a (S - a))[j - a]? = _
      rw [run_get, if_pos (by omega)]
      congr 1
      omega
    · intro j v hv _
      have hv : (run y a (S - a))[j]? = some v := hv
      rw [run_get] at hv
      by_cases hj : j < S - a
      · exact ⟨_, List.mem_singleton.2 rfl, by simp only; omega, by simp only; omega⟩
      · rw [if_neg hj] at hv; cases hv
  | cons d L ih =>
    intro fl a y h0 hF
    obtain ⟨h1, h2, h3, _, h5⟩ := hF
    have hle := Fit.le h5
    obtain ⟨F, hFn⟩ : ∃ F : Nat, d.f = F := ⟨d.f.toNat, by omega⟩
    obtain ⟨T, hTn⟩ : ∃ T : Nat, d.t = T := ⟨d.t.toNat, by omega⟩
    have hx : (0 : Int) ≤ d.x.size := Int.natCast_nonneg _
    obtain ⟨X, hX⟩ : ∃ X : Int, (d.x.size : Int) = X := ⟨_, rfl⟩
    rw [hTn] at h5
    obtain ⟨i1, i2, i3, i4⟩ := ih false T (y + (d.x.size - ((T : Int) - F))) (by omega) h5
    have hk := fun j => kp_get (S := S) (L := L) (d := d) (y := y) (a := a) hFn hTn (by omega) (by omega) j
    have hdl : dlt (d :: L) = d.x.size - (d.t - d.f) + dlt L := rfl
    have ej : (T : Int) + (y + (d.x.size - ((T : Int) - F))) = a + y + (F - a) + d.x.size := by omega
    rw [ej] at i1 i2 i3 i4
    simp only [hX] at ej i1 i2 i3 i4 hk hdl hx
    rw [hFn, hTn] at hdl
    have tail3 : ∀ r ∈ rg S false T (a + y + (F - a) + X) L, ∀ j : Nat, r.a ≤ j → j < r.a + r.c → (kpL S y a (d :: L))[j - a]? = some (r.b + (j - r.a)) := by
      intro r hr j j1 j2
      have := i2 r hr
      rw [hk, if_neg (by omega), if_neg (by omega), show j - a - (T - a) = j - T by omega]
      exact i3 r hr j j1 j2
    by_cases hg : (fl || decide (d.f ≠ (a : Int))) = true
    · have e : rg S fl a (a + y) (d :: L) = ⟨a, a + y, F - a⟩ :: rg S false T (a + y + (F - a) + X) L := by
        conv => lhs; unfold rg
        rw [if_pos hg, hFn, hTn, hX]
      rw [e]
      refine ⟨?_, ?_, ?_, ?_⟩
      · rw [List.pairwise_cons]
        refine ⟨fun q hq => ?_, i1⟩
        have := i2 q hq
        simp only; omega
      · intro r hr
        rcases List.mem_cons.1 hr with rfl | hr
        · have hd0 : S + y + dlt (d :: L) ≥ F + y := by
            have : ∀ (M : List Ed) (t : Int), Fit S t M → t ≤ S + dlt M := by
              intro M
              induction M with
              | nil => intro t ht; simp only [dlt]; have := Fit.le ht; omega
              | cons m M im =>
                intro t ht
                obtain ⟨g1, g2, g3, _, g5⟩ := ht
                have := im _ g5
                simp only [dlt]
                have : (0 : Int) ≤ m.x.size := Int.natCast_nonneg _
                omega
            have := this L T h5
            omega
          simp only; omega
        · have := i2 r hr; omega
      · intro r hr j j1 j2
        rcases List.mem_cons.1 hr with rfl | hr
        · simp only at j1 j2 ⊢
          rw [hk, if_pos (by omega)]
          congr 1
          omega
        · exact tail3 r hr j j1 j2
      · intro j v hv v0
        rw [hk] at hv
        by_cases c1 : j < F - a
        · exact ⟨_, List.mem_cons_self .., by simp only; omega, by simp only; omega⟩
        · rw [if_neg c1] at hv
          by_cases c2 : j < T - a
          · rw [if_pos c2] at hv; injection hv; omega
          · rw [if_neg c2] at hv
            obtain ⟨r, hr, r1, r2⟩ := i4 _ v hv v0
            exact ⟨r, List.mem_cons_of_mem _ hr, by omega, by omega⟩
    · have haF : F = a := by
        by_cases hq : d.f = (a : Int)
        · omega
        · exact absurd (by rw [Bool.or_eq_true]; exact .inr (by simpa using hq)) hg
      subst haF
      have e : rg S fl F (F + y) (d :: L) = rg S false T (F + y + (F - F) + X) L := by
        conv => lhs; unfold rg
        rw [if_neg hg, hTn, hX]
        congr 1
        omega
      rw [e]
      refine ⟨i1, fun r hr => ?_, tail3, fun j v hv v0 => ?_⟩
      · have := i2 r hr; omega
      · rw [hk, if_neg (by omega)] at hv
        by_cases c2 : j < T - F
        · rw [if_pos c2] at hv; injection hv; omega
        · rw [if_neg c2] at hv
          obtain ⟨r, hr, r1, r2⟩ := i4 _ v hv v0
          exact ⟨r, hr, by omega, by omega⟩
/-- What Kept says of a byte. -/
def kk (S : Nat) (L : List Ed) (j : Nat) : Int := (kpL S 0 0 L).getD j (-1)
theorem kk_get {S : Nat} {L : List Ed} {j : Nat} {x : Int} (h : (kpL S 0 0 L)[j]? = some x) : kk S L j = x := by unfold kk; rw [List.getD_eq_getElem?_getD, h]; rfl
theorem kk_some {S : Nat} {L : List Ed} (hF : Fit S 0 L) {j : Nat} (hj : j < S) : (kpL S 0 0 L)[j]? = some (kk S L j) := by
  have hl := kp_len L 0 0 hF
  rw [kk_get (List.getElem?_eq_getElem (by omega : j < (kpL S 0 0 L).length)), List.getElem?_eq_getElem]
theorem cov_kk {S D : Nat} {L : List Ed} (hF : Fit S 0 L) (hD : (D : Int) = S + dlt L) : Cov (kk S L) S D (rg S true 0 0 L) := by
  obtain ⟨h1, h2, h3, h4⟩ := rg_kp L true 0 0 (by omega) hF
  have e : rg S true ((0 : Nat) : Int) (((0 : Nat) : Int) + 0) L = rg S true 0 0 L := rfl
  rw [e] at h1 h2 h3 h4
  refine ⟨h1, fun r hr => ?_, fun r hr j j1 j2 => ?_, fun j hj h0 => ?_⟩
  · have := h2 r hr; omega
  · exact kk_get (h3 r hr j j1 j2)
  · obtain ⟨r, hr, r1, r2⟩ := h4 j _ (kk_some hF hj) h0
    exact ⟨r, hr, by omega, by omega⟩
theorem tl_len {s : List UInt8} : ∀ (L : List Ed) (a : Int), Fit s.length a L → ((tl s a L).length : Int) = s.length - a + dlt L := by
  intro L
  induction L with
  | nil => intro a h; obtain ⟨h1, h2⟩ := h; simp only [tl, dlt, List.length_drop]; omega
  | cons d L ih =>
    intro a h
    obtain ⟨h1, h2, h3, _, h5⟩ := h
    have hle := Fit.le h5
    have := ih _ h5
    simp only [tl, dlt, List.length_append, List.length_take, List.length_drop, size_list]
    omega
theorem app_is {s : List UInt8} {L : List Ed} (hG : Good L s.length) : app s L = tl s 0 L := by
  have := app_tl hG L.length 0 (by omega)
  simpa [atk, pre] using this
theorem app_len {s : List UInt8} {L : List Ed} (hG : Good L s.length) (hS : Short L) : ((app s L).length : Int) = s.length + dlt L := by
  rw [app_is hG, tl_len L 0 (fit_of hG hS)]; omega
/-- A byte that is kept is found. -/
theorem kp_found {s : List UInt8} : ∀ (L : List Ed) (a : Nat) (y : Int), Fit s.length a L → ∀ (j : Nat) (v : Int), (kpL s.length y a L)[j]? = some v → 0 ≤ v → (0 ≤ (a : Int) + y) → (a : Int) + y ≤ v ∧ (tl s a L)[(v - (a + y)).toNat]? = s[a + j]? := by
  intro L
  induction L with
  | nil =>
    intro a y hF j v hv v0 _
    obtain ⟨_, hF⟩ := hF
    have hv : (run y a (s.length - a))[j]? = some v := hv
    rw [run_get] at hv
    by_cases hj : j < s.length - a
    · rw [if_pos hj] at hv
      injection hv with hv
      refine ⟨by omega, ?_⟩
      simp only [tl, Int.toNat_natCast]
      rw [List.getElem?_drop]
      congr 1
      omega
    · rw [if_neg hj] at hv; cases hv
  | cons d L ih =>
    intro a y hF j v hv v0 h0
    obtain ⟨h1, h2, h3, _, h5⟩ := hF
    have hle := Fit.le h5
    obtain ⟨F, hFn⟩ : ∃ F : Nat, d.f = F := ⟨d.f.toNat, by omega⟩
    obtain ⟨T, hTn⟩ : ∃ T : Nat, d.t = T := ⟨d.t.toNat, by omega⟩
    rw [hTn] at h5
    rw [kp_get hFn hTn (by omega) (by omega)] at hv
    have hl1 : ((s.drop a).take (F - a)).length = F - a := by simp; omega
    simp only [tl, hFn, hTn, Int.toNat_natCast]
    by_cases c1 : j < F - a
    · rw [if_pos c1] at hv
      injection hv with hv
      refine ⟨by omega, ?_⟩
      rw [List.getElem?_append_left (by omega), List.getElem?_take_of_lt (by omega), List.getElem?_drop]
      congr 1
      omega
    · rw [if_neg c1] at hv
      by_cases c2 : j < T - a
      · rw [if_pos c2] at hv; injection hv; omega
      · rw [if_neg c2] at hv
        have hx : (0 : Int) ≤ d.x.size := Int.natCast_nonneg _
        obtain ⟨i1, i2⟩ := ih T _ h5 _ v hv v0 (by omega)
        have hxl : d.x.data.toList.length = d.x.size := rfl
        refine ⟨by omega, ?_⟩
        rw [List.getElem?_append_right (by omega), List.getElem?_append_right (by omega), hl1, hxl]
        rw [show a + j = T + (j - (T - a)) by omega, ← i2]
        congr 1
        omega
theorem kk_found {s : List UInt8} {L : List Ed} (hG : Good L s.length) (hS : Short L) {j v : Nat} (hj : j < s.length) (h : kk s.length L j = v) : (app s L)[v]? = s[j]? := by
  have hF := fit_of hG hS
  have := kp_found L 0 0 hF j v (by rw [kk_some hF hj, h]) (by omega) (by omega)
  rw [app_is hG]
  have h2 := this.2
  simp only [Nat.zero_add] at h2
  rw [← h2]
  congr 1
/-- Behind edits that begin no earlier. -/
theorem tl_skip {s : List UInt8} {a b : Nat} {L : List Ed} (h : a ≤ b) (hb : b ≤ s.length) (hf : ∀ d, L[0]? = some d → (b : Int) ≤ d.f) : tl s a L = (s.drop a).take (b - a) ++ tl s b L := by
  have key : ∀ k : Nat, b ≤ k → (s.drop a).take (k - a) = (s.drop a).take (b - a) ++ (s.drop b).take (k - b) := by
    intro k hk
    have : k - a = (b - a) + (k - b) := by omega
    rw [this, List.take_add, List.drop_drop, show a + (b - a) = b by omega]
  cases L with
  | nil =>
    simp only [tl, Int.toNat_natCast]
    conv => lhs; rw [← List.take_append_drop (b - a) (s.drop a)]
    rw [List.drop_drop, show a + (b - a) = b by omega]
  | cons d L =>
    have := hf d rfl
    simp only [tl, Int.toNat_natCast]
    rw [key d.f.toNat (by omega), List.append_assoc]
theorem ne1_mem {tx : ByteArray} {fr to : Int} {r : Ru} {d : Ed} (h : d ∈ ne1 tx fr to r) : d = ⟨fr, r.a, tx.extract to.toNat r.b.toNat⟩ := by
  unfold ne1 at h
  split at h
  · exact List.mem_singleton.1 h
  · cases h
theorem nm_mem {tx : ByteArray} {n : Nat} {d : Ed} : ∀ (R : List Ru) (fr to : Int), 0 ≤ fr → fr ≤ n → (R.Pairwise fun r q => r.a + r.c ≤ q.a ∧ r.b + r.c ≤ q.b) → (∀ r ∈ R, fr ≤ r.a ∧ 0 ≤ r.c ∧ r.a + r.c ≤ n) → d ∈ nm tx n fr to R → fr ≤ d.f ∧ d.f ≤ d.t ∧ d.t ≤ n ∧ d.x.size ≤ tx.size := by
  intro R
  induction R with
  | nil =>
    intro fr to h0 h1 _ _ hd
    obtain rfl := ne1_mem hd
    refine ⟨Int.le_refl _, h1, Int.le_refl _, ?_⟩
    show (tx.extract _ _).size ≤ _
    rw [ByteArray.size_extract]; omega
  | cons r R ih =>
    intro fr to h0 h1 ho hb hd
    rw [List.pairwise_cons] at ho
    obtain ⟨b1, b2, b3⟩ := hb r (List.mem_cons_self ..)
    unfold nm at hd
    by_cases e : r.c = 0
    · rw [if_pos e] at hd
      exact ih fr to h0 h1 ho.2 (fun q hq => hb q (List.mem_cons_of_mem _ hq)) hd
    · rw [if_neg e] at hd
      rcases List.mem_append.1 hd with hd | hd
      · obtain rfl := ne1_mem hd
        refine ⟨Int.le_refl _, b1, by simp only; omega, ?_⟩
        show (tx.extract _ _).size ≤ _
        rw [ByteArray.size_extract]; omega
      · have := ih (r.a + r.c) (r.b + r.c) (by omega) b3 ho.2 (fun q hq => by
          have := hb q (List.mem_cons_of_mem _ hq)
          have := (ho.1 q hq).1
          omega) hd
        omega
theorem nm_app {s : List UInt8} {tx : ByteArray} {n : Nat} (hn : s.length = n) {κ : Nat → Int} (hk : ∀ j v : Nat, j < n → κ j = v → s[j]? = tx.data.toList[v]?) : ∀ (R : List Ru) (fr to : Nat), fr ≤ n → to ≤ tx.size → (R.Pairwise fun r q => r.a + r.c ≤ q.a ∧ r.b + r.c ≤ q.b) → (∀ r ∈ R, (fr : Int) ≤ r.a ∧ (to : Int) ≤ r.b ∧ 0 ≤ r.c ∧ r.a + r.c ≤ n ∧ r.b + r.c ≤ tx.size) → (∀ r ∈ R, ∀ j : Nat, r.a ≤ j → j < r.a + r.c → κ j = r.b + (j - r.a)) → tl s fr (nm tx n fr to R) = tx.data.toList.drop to := by
  intro R
  have hxs : tx.data.toList.length = tx.size := rfl
  induction R with
  | nil =>
    intro fr to h1 h2 _ _ _
    unfold nm
    by_cases h : (fr : Int) < n ∨ (to : Int) < tx.size
    · rw [ne1_yes h]
      simp only [tl, Int.toNat_natCast, Nat.sub_self, List.take_zero, List.nil_append]
      rw [show (tx.extract to tx.size).data.toList = tx.data.toList.drop to from ext_drop tx to, List.drop_eq_nil_of_le (by omega : s.length ≤ n), List.append_nil]
    · rw [ne1_no h]
      simp only [tl, Int.toNat_natCast]
      rw [List.drop_eq_nil_of_le (by omega), List.drop_eq_nil_of_le (by omega)]
  | cons r R ih =>
    intro fr to h1 h2 ho hb hs
    rw [List.pairwise_cons] at ho
    obtain ⟨b1, b2, b3, b4, b5⟩ := hb r (List.mem_cons_self ..)
    have hb' := fun q hq => hb q (List.mem_cons_of_mem r hq)
    have hs' := fun q hq => hs q (List.mem_cons_of_mem r hq)
    unfold nm
    by_cases e : r.c = 0
    · rw [if_pos e]
      exact ih fr to h1 h2 ho.2 hb' hs'
    · rw [if_neg e]
      obtain ⟨a, ha⟩ : ∃ a : Nat, r.a = a := ⟨r.a.toNat, by omega⟩
      obtain ⟨b, hb0⟩ : ∃ b : Nat, r.b = b := ⟨r.b.toNat, by omega⟩
      obtain ⟨c, hc⟩ : ∃ c : Nat, r.c = c := ⟨r.c.toNat, by omega⟩
      have hsr := hs r (List.mem_cons_self ..)
      simp only [ha, hb0, hc] at b1 b2 b3 b4 b5 ho hsr e ⊢
      have hI := ih (a + c) (b + c) (by omega) (by omega) ho.2 (fun q hq => by
        have := hb' q hq
        have := ho.1 q hq
        omega) hs'
      have hmm : ∀ d, (nm tx n ((a + c : Nat) : Int) ((b + c : Nat) : Int) R)[0]? = some d → ((a + c : Nat) : Int) ≤ d.f := fun d hd => (nm_mem R _ _ (by omega) (by omega) ho.2 (fun q hq => by
        have := hb' q hq
        have := ho.1 q hq
        omega) (List.mem_of_getElem? hd)).1
      have hbytes : (s.drop a).take c = (tx.data.toList.drop b).take c := by
        apply List.ext_getElem?
        intro j
        by_cases hj : j < c
        · rw [List.getElem?_take_of_lt hj, List.getElem?_take_of_lt hj, List.getElem?_drop, List.getElem?_drop]
          exact hk (a + j) (b + j) (by omega) (by rw [hsr (a + j) (by omega) (by omega)]; omega)
        · rw [List.getElem?_eq_none (by simp; omega), List.getElem?_eq_none (by simp; omega)]
      have e1 : ((a : Int) + (c : Int)) = ((a + c : Nat) : Int) := by omega
      have e2 : ((b : Int) + (c : Int)) = ((b + c : Nat) : Int) := by omega
      rw [e1, e2] at *
      have hsk : tl s a (nm tx n ((a + c : Nat) : Int) ((b + c : Nat) : Int) R) = tx.data.toList.drop b := by
        rw [tl_skip (b := a + c) (by omega) (by omega) hmm, hI, show a + c - a = c by omega, hbytes, ← List.drop_drop, List.take_append_drop]
      by_cases h : (fr : Int) < a ∨ (to : Int) < b
      · rw [ne1_yes (r := r) (by rw [ha, hb0]; exact h)]
        simp only [List.cons_append, List.nil_append, tl, Int.toNat_natCast, Nat.sub_self, List.take_zero, ha, hb0]
        rw [hsk, ext_list]
        conv => rhs; rw [← List.take_append_drop (b - to) (tx.data.toList.drop to)]
        rw [List.drop_drop, show to + (b - to) = b by omega]
      · rw [ne1_no (r := r) (by rw [ha, hb0]; exact h), List.nil_append]
        obtain rfl : fr = a := by omega
        obtain rfl : to = b := by omega
        exact hsk
end Go.Proofs.Ytdgoblapmjpcaaa.Sp
