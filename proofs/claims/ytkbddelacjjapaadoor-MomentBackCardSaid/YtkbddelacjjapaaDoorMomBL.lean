/-
  Package moment, plain: a text says its time.
-/
import Derived.Test.YtkbddelacjjapaaDoorMomBA
namespace Go.Proofs.YtkbddelacjjapaaDoor.Mom
open Go.RowKit
set_option linter.unusedVariables false
set_option linter.unusedSimpArgs false
open Go.Proofs.YtkbddelacjjapaaDoor.Cal

theorem nvl_pd : ∀ (k n : Nat), n < 10 ^ k → nvl (pd k n) = n := by
  intro k
  induction k with
  | zero => intro n h; simp at h; subst h; rfl
  | succ k ih =>
    intro n h
    unfold pd
    rw [nvl_snoc, ih (n / 10) (by rw [Nat.pow_succ] at h; omega), UInt8.toNat_ofNat']
    omega
theorem pd2 (n : Nat) : ∃ a b, pd 2 n = [a, b] ∧ dg a ∧ dg b := by
  refine ⟨_, _, rfl, ?_, ?_⟩
  · exact pd_digit 2 n _ (List.mem_cons_self ..)
  · exact pd_digit 2 n _ (List.mem_cons_of_mem _ (List.mem_cons_self ..))
theorem pd4 (n : Nat) : ∃ a b c d, pd 4 n = [a, b, c, d] ∧ dg a ∧ dg b ∧ dg c ∧ dg d := by
  refine ⟨_, _, _, _, rfl, ?_, ?_, ?_, ?_⟩
  · exact pd_digit 4 n _ (List.mem_cons_self ..)
  · exact pd_digit 4 n _ (List.mem_cons_of_mem _ (List.mem_cons_self ..))
  · exact pd_digit 4 n _ (List.mem_cons_of_mem _ (List.mem_cons_of_mem _ (List.mem_cons_self ..)))
  · exact pd_digit 4 n _ (List.mem_cons_of_mem _ (List.mem_cons_of_mem _ (List.mem_cons_of_mem _ (List.mem_cons_self ..))))
theorem form_dt (y m d : Nat) (R : List UInt8) : formL (sub (dtL y m d ++ R) 0 10) p10 = true ∧ sub (dtL y m d ++ R) 0 4 = pd 4 y ∧ sub (dtL y m d ++ R) 5 7 = pd 2 m ∧ sub (dtL y m d ++ R) 8 10 = pd 2 d ∧ (dtL y m d ++ R).drop 10 = R := by
  obtain ⟨a, b, c, e, h1, ha, hb, hc, he⟩ := pd4 y
  obtain ⟨f, g, h2, hf, hg⟩ := pd2 m
  obtain ⟨h, i, h3, hh, hi⟩ := pd2 d
  unfold dtL
  rw [h1, h2, h3]
  unfold dg at ha hb hc he hf hg hh hi
  refine ⟨?_, rfl, rfl, rfl, rfl⟩
  show formL [a, b, c, e, 45, f, g, 45, h, i] p10 = true
  simp [formL, ha, hb, hc, he, hf, hg, hh, hi]
theorem form_c3 (n : Nat) (R : List UInt8) : formL (sub (c3L n ++ R) 0 8) p8 = true ∧ sub (c3L n ++ R) 0 2 = pd 2 (n / 3600000000000) ∧ sub (c3L n ++ R) 3 5 = pd 2 (n % 3600000000000 / 60000000000) ∧ sub (c3L n ++ R) 6 8 = pd 2 (n % 60000000000 / 1000000000) ∧ (c3L n ++ R).drop 8 = R ∧ formL (sub (c3L n ++ R) 0 10) p10 = false := by
  obtain ⟨a, b, h1, ha, hb⟩ := pd2 (n / 3600000000000)
  obtain ⟨f, g, h2, hf, hg⟩ := pd2 (n % 3600000000000 / 60000000000)
  obtain ⟨h, i, h3, hh, hi⟩ := pd2 (n % 60000000000 / 1000000000)
  unfold c3L
  rw [h1, h2, h3]
  unfold dg at ha hb hf hg hh hi
  refine ⟨?_, rfl, rfl, rfl, rfl, ?_⟩
  · show formL [a, b, 58, f, g, 58, h, i] p8 = true
    simp [formL, ha, hb, hf, hg, hh, hi]
  · show formL (a :: b :: 58 :: (([f, g, 58, h, i] ++ R).take 7)) p10 = false
    simp [formL]
theorem dcl_app : ∀ (T z : List UInt8), (∀ c ∈ T, dg c) → (∀ c t, z = c :: t → ¬ dg c) → dcl (T ++ z) = T.length := by
  intro T
  induction T with
  | nil =>
    intro z _ hz
    cases z with
    | nil => rfl
    | cons c t => rw [List.nil_append, dcl_cons, if_neg (fun h => hz c t rfl (isDg_iff.1 h))]; rfl
  | cons a T ih =>
    intro z hT hz
    rw [List.cons_append, dcl_cons, if_pos (isDg_iff.2 (hT a (List.mem_cons_self ..))), ih z (fun c hc => hT c (List.mem_cons_of_mem _ hc)) hz]
    rfl
theorem clk_tx (n : Nat) (hn : n < 86400000000000) (z : List UInt8) (hz : ∀ c t, z = c :: t → ¬ dg c ∧ c ≠ 46) : clkL (clL n ++ z) = some (n / 3600000000000, n % 3600000000000 / 60000000000, n % 60000000000 / 1000000000, n % 1000000000, z) := by
  have e0 : clL n ++ z = c3L n ++ (fL n ++ z) := by unfold clL; rw [List.append_assoc]
  obtain ⟨h1, h2, h3, h4, h5, -⟩ := form_c3 n (fL n ++ z)
  have n1 : nvl (pd 2 (n / 3600000000000)) = n / 3600000000000 := nvl_pd 2 _ (by omega)
  have n2 : nvl (pd 2 (n % 3600000000000 / 60000000000)) = n % 3600000000000 / 60000000000 := nvl_pd 2 _ (by omega)
  have n3 : nvl (pd 2 (n % 60000000000 / 1000000000)) = n % 60000000000 / 1000000000 := nvl_pd 2 _ (by omega)
  have h9 : (c3L n ++ (fL n ++ z)).drop 9 = (fL n ++ z).drop 1 := by
    rw [← h5, List.drop_drop, h5]
  unfold clkL
  rw [e0, if_pos h1, h2, h3, h4, h5, h9, n1, n2, n3]
  by_cases hf : n % 1000000000 = 0
  · have hfl : fL n = [] := by unfold fL; rw [if_pos hf]
    rw [hfl, List.nil_append, hf]
    rw [if_neg]
    intro h
    cases z with
    | nil => cases h
    | cons c t => exact (hz c t rfl).2 (Option.some.inj h)
  · have hfl : fL n = 46 :: Lib.trimRightB (pd 9 (n % 1000000000)) 48 := by unfold fL; rw [if_neg hf]
    have hT : ∀ c ∈ Lib.trimRightB (pd 9 (n % 1000000000)) 48, dg c := fun c hc => pd_digit 9 _ c (trim_sub _ c hc)
    have hb := trim_back (pd 9 (n % 1000000000))
    rw [pd_len] at hb
    have hl : (Lib.trimRightB (pd 9 (n % 1000000000)) 48).length ≤ 9 := by
      have := congrArg List.length hb
      rw [pd_len, List.length_append, List.length_replicate] at this
      omega
    have hl1 : 1 ≤ (Lib.trimRightB (pd 9 (n % 1000000000)) 48).length := by
      rcases Nat.eq_zero_or_pos (Lib.trimRightB (pd 9 (n % 1000000000)) 48).length with h0 | h0
      · exfalso
        rw [List.length_eq_zero_iff.1 h0] at hb
        have h2 : pd 9 (n % 1000000000) = pd 9 0 := by rw [hb, pd_zero]; rfl
        exact hf (pd_inj 9 _ _ (Nat.mod_lt _ (by decide)) (by decide) h2)
      · exact h0
    have hd := dcl_app _ z hT (fun c t e => (hz c t e).1)
    rw [hfl]
    simp only [List.cons_append, List.head?_cons, if_true, List.drop_succ_cons, List.drop_zero]
    rw [hd, if_pos ⟨hl1, hl⟩, List.take_append_of_le_length (Nat.le_refl _), List.take_length, ← hb, nvl_pd 9 _ (Nat.mod_lt _ (by decide)), List.drop_append_of_le_length (Nat.le_refl _), List.drop_length, List.nil_append]
theorem znp_tx (o : Int) (ho : -1439 ≤ o ∧ o ≤ 1439) : ∃ ea zh zm, znpL (znL o) = some (ea, zh, zm) ∧ zh ≤ 23 ∧ zm ≤ 59 ∧ (if ea = true then (zh : Int) * 60 + zm else -((zh : Int) * 60 + zm)) = o := by
  by_cases h0 : o = 0
  · subst h0
    exact ⟨false, 0, 0, by decide, by decide, by decide, by decide⟩
  · obtain ⟨a, b, h1, ha, hb⟩ := pd2 (o.natAbs / 60)
    obtain ⟨f, g, h2, hf, hg⟩ := pd2 (o.natAbs % 60)
    have n1 : nvl (pd 2 (o.natAbs / 60)) = o.natAbs / 60 := nvl_pd 2 _ (by omega)
    have n2 : nvl (pd 2 (o.natAbs % 60)) = o.natAbs % 60 := nvl_pd 2 _ (by omega)
    rw [h1] at n1
    rw [h2] at n2
    unfold dg at ha hb hf hg
    by_cases hn : o < 0
    · refine ⟨false, o.natAbs / 60, o.natAbs % 60, ?_, by omega, by omega, ?_⟩
      · unfold znL
        rw [if_neg h0, if_pos hn, h1, h2]
        unfold znpL
        have f1 : formL (45 :: ([a, b] ++ 58 :: [f, g])) pP = false := by simp [formL]
        have f2 : formL (45 :: ([a, b] ++ 58 :: [f, g])) pM = true := by simp [formL, ha, hb, hf, hg]
        rw [if_neg (by simp), f1, if_neg (by simp), if_pos f2]
        show some (false, nvl [a, b], nvl [f, g]) = _
        rw [n1, n2]
      · rw [if_neg (by simp)]; omega
    · refine ⟨true, o.natAbs / 60, o.natAbs % 60, ?_, by omega, by omega, ?_⟩
      · unfold znL
        rw [if_neg h0, if_neg hn, h1, h2]
        unfold znpL
        have f1 : formL (43 :: ([a, b] ++ 58 :: [f, g])) pP = true := by simp [formL, ha, hb, hf, hg]
        rw [if_neg (by simp), if_pos f1]
        show some (true, nvl [a, b], nvl [f, g]) = _
        rw [n1, n2]
      · rw [if_pos rfl]; omega
theorem zn_stop (o : Int) : ∀ c t, znL o = c :: t → ¬ dg c ∧ c ≠ 46 := by
  intro c t h
  unfold znL at h
  unfold dg
  split at h
  · simp at h; rw [← h.1]; decide
  · split at h
    · simp at h; rw [← h.1]; decide
    · simp at h; rw [← h.1]; decide
/-- A valid time is what its text says. -/
theorem pa_tx {k y m d n : Nat} {D o : Int} (hv : vP k D n o) (hb : dayB y m d = true) (hn : num y m d = D) : paL (txL k y m d n o) = ((k : Int), D, (n : Int), o, 0) := by
  have hv' := hv
  unfold vP at hv
  obtain ⟨v1, v2, v3, v4, v5, v6, v7, v8, v9, v10, v11⟩ := hv
  obtain ⟨y1, y2, m1, m2, d1, d2⟩ := dayB_in hb
  have d3 : (d : Int) ≤ 31 := Int.le_trans d2 ((mon_bd _ _).2)
  have ny : nvl (pd 4 y) = y := nvl_pd 4 _ (by omega)
  have nm : nvl (pd 2 m) = m := nvl_pd 2 _ (by omega)
  have nd : nvl (pd 2 d) = d := nvl_pd 2 _ (by omega)
  have hE : dayE y m d = 0 := by unfold dayE; rw [if_pos hb]
  have hD : dayN y m d = D := by unfold dayN; rw [if_pos hb, hn]
  have hn86 : n < 86400000000000 := by omega
  have N1 : ((n / 3600000000000 : Nat) : Int) * 3600000000000 + ((n % 3600000000000 / 60000000000 : Nat) : Int) * 60000000000 + ((n % 60000000000 / 1000000000 : Nat) : Int) * 1000000000 + ((n % 1000000000 : Nat) : Int) = n := by omega
  have key : ∀ f : FL, spL (txL k y m d n o) = some f → inR f → f.k = k → dyd f = D → nan f = n → zoo f = o → paL (txL k y m d n o) = ((k : Int), D, (n : Int), o, 0) := by
    intro f h1 h2 h3 h4 h5 h6
    unfold paL
    rw [h1]
    simp only []
    rw [if_pos h2, h3, h4, h5, h6]
  have hk : k = 1 ∨ k = 2 ∨ k = 3 ∨ k = 4 := by omega
  rcases hk with rfl | rfl | rfl | rfl
  · obtain ⟨f1, f2, f3, f4, f5⟩ := form_dt y m d []
    rw [List.append_nil] at f1 f2 f3 f4
    have hn0 : n = 0 := by omega
    have ho0 : o = 0 := by omega
    subst hn0
    refine key ⟨1, y, m, d, 0, 0, 0, 0, false, 0, 0⟩ ?_ ⟨.inr hE, by dsimp only; decide, by dsimp only; decide, by dsimp only; decide, by dsimp only; decide, by dsimp only; decide⟩ rfl ?_ (by unfold nan; simp) (by rw [ho0]; unfold zoo; simp)
    · show spL (dtL y m d) = _
      unfold spL
      rw [if_pos f1, if_pos (dtL_len y m d), f2, f3, f4, ny, nm, nd]
    · unfold dyd
      rw [if_neg (by dsimp only; decide)]
      exact hD
  · have ho0 : o = 0 := by omega
    have hD0 : D = 0 := by omega
    obtain ⟨-, -, -, -, -, f6⟩ := form_c3 n (fL n)
    have hc := clk_tx n hn86 [] (fun c t h => by cases h)
    rw [List.append_nil] at hc
    refine key ⟨2, 0, 0, 0, n / 3600000000000, n % 3600000000000 / 60000000000, n % 60000000000 / 1000000000, n % 1000000000, false, 0, 0⟩ ?_ ⟨.inl rfl, by dsimp only; omega, by dsimp only; omega, by dsimp only; omega, by dsimp only; decide, by dsimp only; decide⟩ rfl (by rw [hD0]; rfl) N1 (by rw [ho0]; unfold zoo; simp)
    show spL (clL n) = _
    unfold spL
    rw [if_neg (by show ¬ formL (sub (c3L n ++ fL n) 0 10) p10 = true; rw [f6]; simp), hc]
    rfl
  · have ho0 : o = 0 := by omega
    obtain ⟨f1, f2, f3, f4, f5⟩ := form_dt y m d (84 :: clL n)
    have hc := clk_tx n hn86 [] (fun c t h => by cases h)
    rw [List.append_nil] at hc
    refine key ⟨3, y, m, d, n / 3600000000000, n % 3600000000000 / 60000000000, n % 60000000000 / 1000000000, n % 1000000000, false, 0, 0⟩ ?_ ⟨.inr hE, by dsimp only; omega, by dsimp only; omega, by dsimp only; omega, by dsimp only; decide, by dsimp only; decide⟩ rfl ?_ N1 (by rw [ho0]; unfold zoo; simp)
    · show spL (dtL y m d ++ 84 :: clL n) = _
      have f6 : (dtL y m d ++ 84 :: clL n).drop 11 = clL n := by rw [show (11 : Nat) = 10 + 1 from rfl, ← List.drop_drop, f5]; rfl
      unfold spL
      rw [if_pos f1, if_neg (by rw [List.length_append, dtL_len]; simp), f5, if_pos (.inl rfl), f6, hc]
      simp only [if_true]
      rw [f2, f3, f4, ny, nm, nd]
    · unfold dyd
      rw [if_neg (by dsimp only; decide)]
      exact hD
  · obtain ⟨f1, f2, f3, f4, f5⟩ := form_dt y m d (84 :: (clL n ++ znL o))
    have hc := clk_tx n hn86 (znL o) (zn_stop o)
    obtain ⟨ea, zh, zm, hz, z1, z2, z3⟩ := znp_tx o ⟨v9, v10⟩
    refine key ⟨4, y, m, d, n / 3600000000000, n % 3600000000000 / 60000000000, n % 60000000000 / 1000000000, n % 1000000000, ea, zh, zm⟩ ?_ ⟨.inr hE, by dsimp only; omega, by dsimp only; omega, by dsimp only; omega, z1, z2⟩ rfl ?_ N1 z3
    · show spL (dtL y m d ++ 84 :: (clL n ++ znL o)) = _
      have f6 : (dtL y m d ++ 84 :: (clL n ++ znL o)).drop 11 = clL n ++ znL o := by rw [show (11 : Nat) = 10 + 1 from rfl, ← List.drop_drop, f5]; rfl
      have hne : znL o ≠ [] := by obtain ⟨c, t, e, -⟩ := zn_head o; rw [e]; exact fun h => by cases h
      unfold spL
      rw [if_pos f1, if_neg (by rw [List.length_append, dtL_len]; simp), f5, if_pos (.inl rfl), f6, hc]
      simp only []
      rw [if_neg hne, hz, f2, f3, f4, ny, nm, nd]
    · unfold dyd
      rw [if_neg (by dsimp only; decide)]
      exact hD
end Go.Proofs.YtkbddelacjjapaaDoor.Mom
