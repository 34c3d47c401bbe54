/-
  Package moment, plain: the text of a valid time is its own.
-/
import Derived.Test.YtkbddelacjjapaaDoorMomW
namespace Go.Proofs.YtkbddelacjjapaaDoor.Mom
open Go.RowKit
set_option linter.unusedVariables false
set_option linter.unusedSimpArgs false
open Go.Proofs.YtkbddelacjjapaaDoor.Cal
theorem pd_inj : ∀ (k a b : Nat), a < 10 ^ k → b < 10 ^ k → pd k a = pd k b → a = b := by
  intro k
  induction k with
  | zero => intro a b ha hb _; simp at ha hb; omega
  | succ k ih =>
    intro a b ha hb h
    unfold pd at h
    obtain ⟨h1, h2⟩ := List.append_inj h (by rw [pd_len, pd_len])
    rw [Nat.pow_succ] at ha hb
    have e1 := ih (a / 10) (b / 10) (by omega) (by omega) h1
    have e2 := congrArg (fun l => (l.headD 0).toNat) h2
    simp only [List.headD_cons] at e2
    rw [UInt8.toNat_ofNat', UInt8.toNat_ofNat'] at e2
    omega
theorem pd_digit : ∀ (k n : Nat), ∀ c ∈ pd k n, 48 ≤ c.toNat ∧ c.toNat ≤ 57 := by
  intro k
  induction k with
  | zero => intro n c hc; cases hc
  | succ k ih =>
    intro n c hc
    unfold pd at hc
    rcases List.mem_append.1 hc with h | h
    · exact ih _ c h
    · rw [List.mem_singleton] at h
      subst h
      rw [UInt8.toNat_ofNat']
      omega
/-- What was cut off at the right: as many zeros as are lacking. -/
theorem trim_back (l : List UInt8) : l = Lib.trimRightB l 48 ++ List.replicate (l.length - (Lib.trimRightB l 48).length) 48 := by
  induction hn : l.length generalizing l with
  | zero => rw [List.length_eq_zero_iff.1 hn]; rfl
  | succ n ih =>
    obtain ⟨t, c, rfl⟩ : ∃ t c, l = t ++ [c] := ⟨l.dropLast, l.getLast (by intro e; rw [e] at hn; simp at hn), (List.dropLast_concat_getLast _).symm⟩
    have ht : t.length = n := by simpa using hn
    by_cases h : c = 48
    · subst h
      rw [trim_48]
      have hle : (Lib.trimRightB t 48).length ≤ t.length := by
        have := tr0_size t
        simpa [tr0, ByteArray.size] using this
      have := ih t ht
      rw [show n + 1 - (Lib.trimRightB t 48).length = (n - (Lib.trimRightB t 48).length) + 1 by omega, List.replicate_succ', ← List.append_assoc]
      rw [← this]
    · rw [trim_ne _ _ h]
      simp [ht]
theorem trim_inj (a b : List UInt8) (hl : a.length = b.length) (h : Lib.trimRightB a 48 = Lib.trimRightB b 48) : a = b := by
  rw [trim_back a, trim_back b, hl, h]
def dtL (y m d : Nat) : List UInt8 := pd 4 y ++ 45 :: (pd 2 m ++ 45 :: pd 2 d)
def c3L (n : Nat) : List UInt8 := pd 2 (n / 3600000000000) ++ 58 :: (pd 2 (n % 3600000000000 / 60000000000) ++ 58 :: pd 2 (n % 60000000000 / 1000000000))
def fL (n : Nat) : List UInt8 := if n % 1000000000 = 0 then [] else 46 :: Lib.trimRightB (pd 9 (n % 1000000000)) 48
def clL (n : Nat) : List UInt8 := c3L n ++ fL n
def znL (o : Int) : List UInt8 := if o = 0 then [90] else (if o < 0 then 45 else 43) :: (pd 2 (o.natAbs / 60) ++ 58 :: pd 2 (o.natAbs % 60))
def txL (k : Int) (y m d n : Nat) (o : Int) : List UInt8 := if k = 1 then dtL y m d else if k = 2 then clL n else if k = 3 then dtL y m d ++ 84 :: clL n else dtL y m d ++ 84 :: (clL n ++ znL o)
theorem ls_app (a b : ByteArray) : (a ++ b).data.toList = a.data.toList ++ b.data.toList := by rw [ByteArray.data_append]; simp
theorem dtS_list (y m d : Nat) : (dtS y m d).data.toList = dtL y m d := by
  unfold dtS dtL
  simp only [ls_app, pdS]
  simp
theorem clS_list (n : Nat) : (clS n).data.toList = clL n := by
  have h3 : (cl3 n).data.toList = c3L n := by
    unfold cl3 c3L
    simp only [ls_app, pdS]
    simp
  unfold clS clL fL
  by_cases h : n % 1000000000 = 0
  · rw [if_pos h, if_pos h, h3]; simp
  · rw [if_neg h, if_neg h, ls_app, ls_app, h3]; rfl
theorem znS_list (o : Int) : (znS o).data.toList = znL o := by
  unfold znS znL
  by_cases h : o = 0
  · rw [if_pos h, if_pos h]
  · rw [if_neg h, if_neg h]
    by_cases hn : o < 0
    · rw [if_pos hn, if_pos hn]; simp only [ls_app, pdS]; simp
    · rw [if_neg hn, if_neg hn]; simp only [ls_app, pdS]; simp
theorem txS_list (k : Int) (y m d n : Nat) (o : Int) : (txS k y m d n o).data.toList = txL k y m d n o := by
  unfold txS txL
  split
  · exact dtS_list y m d
  · split
    · exact clS_list n
    · split
      · simp only [ls_app, dtS_list, clS_list]; simp
      · simp only [ls_app, dtS_list, clS_list, znS_list]; simp
theorem split_at (P : UInt8 → Prop) : ∀ (l1 l2 t1 t2 : List UInt8) (c1 c2 : UInt8), (∀ x ∈ l1, P x) → (∀ x ∈ l2, P x) → ¬ P c1 → ¬ P c2 → l1 ++ c1 :: t1 = l2 ++ c2 :: t2 → l1 = l2 ∧ c1 = c2 ∧ t1 = t2 := by
  intro l1
  induction l1 with
  | nil =>
    intro l2 t1 t2 c1 c2 _ h2 n1 _ h
    cases l2 with
    | nil => simpa using h
    | cons a l2 =>
      simp only [List.nil_append, List.cons_append, List.cons.injEq] at h
      exact absurd (h.1 ▸ h2 a (List.mem_cons_self ..)) n1
  | cons a l1 ih =>
    intro l2 t1 t2 c1 c2 h1 h2 n1 n2 h
    cases l2 with
    | nil =>
      simp only [List.nil_append, List.cons_append, List.cons.injEq] at h
      exact absurd (h.1 ▸ h1 a (List.mem_cons_self ..)) n2
    | cons b l2 =>
      simp only [List.cons_append, List.cons.injEq] at h
      obtain ⟨rfl, h⟩ := h
      obtain ⟨e1, e2, e3⟩ := ih l2 t1 t2 c1 c2 (fun x hx => h1 x (List.mem_cons_of_mem _ hx)) (fun x hx => h2 x (List.mem_cons_of_mem _ hx)) n1 n2 h
      exact ⟨by rw [e1], e2, e3⟩
def dg (c : UInt8) : Prop := 48 ≤ c.toNat ∧ c.toNat ≤ 57
theorem dt_inj {y m d y' m' d' : Nat} (hy : y < 10 ^ 4) (hy' : y' < 10 ^ 4) (hm : m < 10 ^ 2) (hm' : m' < 10 ^ 2) (hd : d < 10 ^ 2) (hd' : d' < 10 ^ 2) (h : dtL y m d = dtL y' m' d') : y = y' ∧ m = m' ∧ d = d' := by
  unfold dtL at h
  obtain ⟨h1, h2⟩ := List.append_inj h (by rw [pd_len, pd_len])
  simp only [List.cons.injEq, true_and] at h2
  obtain ⟨h3, h4⟩ := List.append_inj h2 (by rw [pd_len, pd_len])
  simp only [List.cons.injEq, true_and] at h4
  exact ⟨pd_inj 4 _ _ hy hy' h1, pd_inj 2 _ _ hm hm' h3, pd_inj 2 _ _ hd hd' h4⟩
theorem dtL_len (y m d : Nat) : (dtL y m d).length = 10 := by unfold dtL; simp [pd_len]
theorem c3L_len (n : Nat) : (c3L n).length = 8 := by unfold c3L; simp [pd_len]
theorem cl_inj {n n' : Nat} (hn : n < 86400000000000) (hn' : n' < 86400000000000) (h : clL n = clL n') : n = n' := by
  unfold clL at h
  obtain ⟨h1, h2⟩ := List.append_inj h (by rw [c3L_len, c3L_len])
  unfold c3L at h1
  obtain ⟨a1, h1⟩ := List.append_inj h1 (by rw [pd_len, pd_len])
  simp only [List.cons.injEq, true_and] at h1
  obtain ⟨a2, a3⟩ := List.append_inj h1 (by rw [pd_len, pd_len])
  simp only [List.cons.injEq, true_and] at a3
  have b1 := pd_inj 2 _ _ (by omega) (by omega) a1
  have b2 := pd_inj 2 _ _ (by omega) (by omega) a2
  have b3 := pd_inj 2 _ _ (by omega) (by omega) a3
  have b4 : n % 1000000000 = n' % 1000000000 := by
    unfold fL at h2
    by_cases z : n % 1000000000 = 0 <;> by_cases z' : n' % 1000000000 = 0
    · omega
    · rw [if_pos z, if_neg z'] at h2; cases h2
    · rw [if_neg z, if_pos z'] at h2; cases h2
    · rw [if_neg z, if_neg z'] at h2
      simp only [List.cons.injEq, true_and] at h2
      exact pd_inj 9 _ _ (by omega) (by omega) (trim_inj _ _ (by rw [pd_len, pd_len]) h2)
  omega
/-- The bytes of a clock. -/
def ck (c : UInt8) : Prop := c.toNat ≠ 90 ∧ c.toNat ≠ 43 ∧ c.toNat ≠ 45
theorem trim_sub (l : List UInt8) : ∀ c ∈ Lib.trimRightB l 48, c ∈ l := by
  intro c hc
  rw [trim_back l]
  exact List.mem_append_left _ hc
theorem ck_pd (k n : Nat) : ∀ c ∈ pd k n, ck c := fun c hc => by
  have := pd_digit k n c hc
  unfold ck; omega
theorem ck_cl (n : Nat) : ∀ c ∈ clL n, ck c := by
  intro c hc
  have e58 : ck 58 := by unfold ck; decide
  have e46 : ck 46 := by unfold ck; decide
  unfold clL c3L fL at hc
  rcases List.mem_append.1 hc with h | h
  · rcases List.mem_append.1 h with h | h
    · exact ck_pd _ _ c h
    · rcases List.mem_cons.1 h with rfl | h
      · exact e58
      · rcases List.mem_append.1 h with h | h
        · exact ck_pd _ _ c h
        · rcases List.mem_cons.1 h with rfl | h
          · exact e58
          · exact ck_pd _ _ c h
  · split at h
    · cases h
    · rcases List.mem_cons.1 h with rfl | h
      · exact e46
      · exact ck_pd _ _ c (trim_sub _ c h)
theorem zn_head (o : Int) : ∃ c t, znL o = c :: t ∧ ¬ ck c := by
  unfold znL
  split
  · exact ⟨_, _, rfl, by unfold ck; decide⟩
  · refine ⟨_, _, rfl, ?_⟩
    split <;> (unfold ck; decide)
theorem zn_inj {o o' : Int} (ho : -1439 ≤ o ∧ o ≤ 1439) (ho' : -1439 ≤ o' ∧ o' ≤ 1439) (h : znL o = znL o') : o = o' := by
  unfold znL at h
  by_cases z : o = 0 <;> by_cases z' : o' = 0
  · omega
  · rw [if_pos z, if_neg z'] at h
    have := congrArg List.length h
    simp [pd_len] at this
  · rw [if_neg z, if_pos z'] at h
    have := congrArg List.length h
    simp [pd_len] at this
  · rw [if_neg z, if_neg z'] at h
    simp only [List.cons.injEq] at h
    obtain ⟨h0, h⟩ := h
    obtain ⟨a1, h⟩ := List.append_inj h (by rw [pd_len, pd_len])
    simp only [List.cons.injEq, true_and] at h
    have b1 := pd_inj 2 _ _ (by omega) (by omega) a1
    have b2 := pd_inj 2 _ _ (by omega) (by omega) h
    by_cases s : o < 0 <;> by_cases s' : o' < 0
    · omega
    · rw [if_pos s, if_neg s'] at h0; exact absurd h0 (by decide)
    · rw [if_neg s, if_pos s'] at h0; exact absurd h0 (by decide)
    · omega
theorem no2 (n y m d : Nat) (t : List UInt8) : clL n ≠ dtL y m d ++ t := by
  intro h
  unfold clL c3L dtL at h
  rw [List.append_assoc, List.append_assoc, List.cons_append, List.cons_append] at h
  have := (split_at dg _ _ _ _ 58 45 (pd_digit _ _) (pd_digit _ _) (by unfold dg; decide) (by unfold dg; decide) h).1
  have := congrArg List.length this
  rw [pd_len, pd_len] at this
  omega
theorem no34 (n y m d n' y' m' d' : Nat) (o : Int) : dtL y m d ++ 84 :: clL n ≠ dtL y' m' d' ++ 84 :: (clL n' ++ znL o) := by
  intro h
  have h2 := (List.append_inj h (by rw [dtL_len, dtL_len])).2
  simp only [List.cons.injEq, true_and] at h2
  obtain ⟨c, t, e, hc⟩ := zn_head o
  exact hc (ck_cl n c (by rw [h2, e]; simp))
theorem tx_inj {k y m d n k' y' m' d' n' : Nat} {D o D' o' : Int} (hv : vP k D n o) (hb : dayB y m d = true) (hn : num y m d = D) (hv' : vP k' D' n' o') (hb' : dayB y' m' d' = true) (hn' : num y' m' d' = D') (h : txL k y m d n o = txL k' y' m' d' n' o') : k = k' ∧ D = D' ∧ n = n' ∧ o = o' := by
  obtain ⟨y1, y2, m1, m2, d1, d2⟩ := dayB_in hb
  have hm31 := (mon_pos y m y1 y2 m1 m2).2
  obtain ⟨y3, y4, m3, m4, d3, d4⟩ := dayB_in hb'
  have hm32 := (mon_pos y' m' y3 y4 m3 m4).2
  have hdt : dtL y m d = dtL y' m' d' → D = D' := fun e => by
    obtain ⟨rfl, rfl, rfl⟩ := dt_inj (by omega) (by omega) (by omega) (by omega) (by omega) (by omega) e
    rw [← hn, ← hn']
  have hcl : clL n = clL n' → n = n' := fun e => cl_inj (by unfold vP at hv; omega) (by unfold vP at hv'; omega) e
  have hzn : znL o = znL o' → o = o' := fun e => zn_inj (by unfold vP at hv; omega) (by unfold vP at hv'; omega) e
  clear hb hb' hn hn'
  unfold vP at hv hv'
  have hk : k = 1 ∨ k = 2 ∨ k = 3 ∨ k = 4 := by omega
  have hk' : k' = 1 ∨ k' = 2 ∨ k' = 3 ∨ k' = 4 := by omega
  have t1 : ∀ y m d n o, txL (1 : Nat) y m d n o = dtL y m d := fun _ _ _ _ _ => rfl
  have t2 : ∀ y m d n o, txL (2 : Nat) y m d n o = clL n := fun _ _ _ _ _ => rfl
  have t3 : ∀ y m d n o, txL (3 : Nat) y m d n o = dtL y m d ++ 84 :: clL n := fun _ _ _ _ _ => rfl
  have t4 : ∀ y m d n o, txL (4 : Nat) y m d n o = dtL y m d ++ 84 :: (clL n ++ znL o) := fun _ _ _ _ _ => rfl
  rcases hk with rfl | rfl | rfl | rfl <;> rcases hk' with rfl | rfl | rfl | rfl
  · rw [t1, t1] at h; have := hdt h; refine ⟨rfl, this, ?_, ?_⟩ <;> omega
  · rw [t1, t2] at h; exact absurd (h.symm.trans (List.append_nil _).symm) (no2 _ _ _ _ _)
  · rw [t1, t3] at h; have := congrArg List.length h; simp [dtL_len] at this
  · rw [t1, t4] at h; have := congrArg List.length h; simp [dtL_len] at this
  · rw [t2, t1] at h; exact absurd (h.trans (List.append_nil _).symm) (no2 _ _ _ _ _)
  · rw [t2, t2] at h; have := hcl h; refine ⟨rfl, ?_, this, ?_⟩ <;> omega
  · rw [t2, t3] at h; exact absurd h (no2 _ _ _ _ _)
  · rw [t2, t4] at h; exact absurd h (no2 _ _ _ _ _)
  · rw [t3, t1] at h; have := congrArg List.length h; simp [dtL_len] at this
  · rw [t3, t2] at h; exact absurd h.symm (no2 _ _ _ _ _)
  · rw [t3, t3] at h
    obtain ⟨e1, e2⟩ := List.append_inj h (by rw [dtL_len, dtL_len])
    simp only [List.cons.injEq, true_and] at e2
    have := hdt e1; have := hcl e2
    refine ⟨rfl, ?_, ?_, ?_⟩ <;> omega
  · rw [t3, t4] at h; exact absurd h (no34 _ _ _ _ _ _ _ _ _)
  · rw [t4, t1] at h; have := congrArg List.length h; simp [dtL_len] at this
  · rw [t4, t2] at h; exact absurd h.symm (no2 _ _ _ _ _)
  · rw [t4, t3] at h; exact absurd h.symm (no34 _ _ _ _ _ _ _ _ _)
  · rw [t4, t4] at h
    obtain ⟨e1, e2⟩ := List.append_inj h (by rw [dtL_len, dtL_len])
    simp only [List.cons.injEq, true_and] at e2
    obtain ⟨c, t, e, hc⟩ := zn_head o
    obtain ⟨c', t', e', hc'⟩ := zn_head o'
    rw [e, e'] at e2
    obtain ⟨f1, f2, f3⟩ := split_at ck _ _ _ _ _ _ (ck_cl n) (ck_cl n') hc hc' e2
    exact ⟨rfl, hdt e1, hcl f1, hzn (by rw [e, e', f2, f3])⟩
/-- The text of a time: one function of the time, injective on valid ones. -/
theorem text_fn {k d n o : Int} (hv : vP k d n o) : ∃ (k' y m dd n' : Nat), k = k' ∧ n = n' ∧ dayB y m dd = true ∧ num y m dd = d ∧ ∀ w, Tb w → Calls Tryd.prog 9 #[.agg #[.int .i64 k, .int .i64 d, .int .i64 n, .int .i64 o]] w fun e w' => e = .returned (.string (txS k y m dd n' o)) ∧ Below w.heap.size w w' := by
  have hv' := hv
  unfold vP at hv'
  obtain ⟨y, m, dd, hb, hn⟩ := exists_date d (by omega) (by omega)
  obtain ⟨y1, y2, m1, m2, d1, d2⟩ := dayB_in hb
  obtain ⟨y, rfl⟩ := Int.eq_ofNat_of_zero_le (show 0 ≤ y by omega)
  obtain ⟨m, rfl⟩ := Int.eq_ofNat_of_zero_le (show 0 ≤ m by omega)
  obtain ⟨dd, rfl⟩ := Int.eq_ofNat_of_zero_le (show 0 ≤ dd by omega)
  obtain ⟨n, rfl⟩ := Int.eq_ofNat_of_zero_le (show 0 ≤ n by omega)
  have hk : k = 1 ∨ k = 2 ∨ k = 3 ∨ k = 4 := by omega
  refine ⟨k.toNat, y, m, dd, n, by omega, rfl, hb, hn, ?_⟩
  rcases hk with rfl | rfl | rfl | rfl
  · exact fun w ht => text_1 y m dd n d o w hv hb hn ht
  · exact fun w ht => text_2 y m dd n d o w hv hb hn ht
  · exact fun w ht => text_3 y m dd n d o w hv hb hn ht
  · exact fun w ht => text_4 y m dd n d o w hv hb hn ht
theorem texts_two {k1 d1 n1 o1 k2 d2 n2 o2 : Int} (h1 : vP k1 d1 n1 o1) (h2 : vP k2 d2 n2 o2) (hne : ¬ (k1 = k2 ∧ d1 = d2 ∧ n1 = n2 ∧ o1 = o2)) : ∃ s1 s2 : ByteArray, s1 ≠ s2 ∧ (∀ w, Tb w → Calls Tryd.prog 9 #[.agg #[.int .i64 k1, .int .i64 d1, .int .i64 n1, .int .i64 o1]] w fun e w' => e = .returned (.string s1) ∧ Below w.heap.size w w') ∧ (∀ w, Tb w → Calls Tryd.prog 9 #[.agg #[.int .i64 k2, .int .i64 d2, .int .i64 n2, .int .i64 o2]] w fun e w' => e = .returned (.string s2) ∧ Below w.heap.size w w') := by
  obtain ⟨a, y, m, dd, n, rfl, rfl, hb, hn, hT⟩ := text_fn h1
  obtain ⟨a', y', m', dd', n', rfl, rfl, hb', hn', hT'⟩ := text_fn h2
  refine ⟨_, _, ?_, hT, hT'⟩
  intro e
  have e2 := congrArg (fun s : ByteArray => s.data.toList) e
  simp only [txS_list] at e2
  obtain ⟨f1, f2, f3, f4⟩ := tx_inj h1 hb hn h2 hb' hn' e2
  exact hne ⟨by rw [f1], f2, by rw [f3], f4⟩
end Go.Proofs.YtkbddelacjjapaaDoor.Mom
