/-
  Package decimal, plain: a text says its number.
-/
import Derived.Test.YtaphckipkaggkaaGreatDoorDecBD
import Derived.Test.YtaphckipkaggkaaGreatDoorDigQ
namespace Go.Proofs.YtaphckipkaggkaaGreatDoor.Dec
open Go.RowKit
set_option linter.unusedVariables false
set_option linter.unusedSimpArgs false
open Go.Proofs.YtaphckipkaggkaaGreatDoor.Dig

def absL (n : Nat) (x : Int) : List UInt8 :=
  if 0 ≤ x ∧ (num n).length + x ≤ 21 then num n ++ List.replicate x.toNat 48
  else if x < 0 ∧ 1 ≤ (num n).length + x ∧ (num n).length + x ≤ 21 then (num n).take ((num n).length + x).toNat ++ 46 :: (num n).drop ((num n).length + x).toNat
  else if -5 ≤ (num n).length + x ∧ (num n).length + x ≤ 0 then 48 :: 46 :: (List.replicate (-((num n).length + x)).toNat 48 ++ num n)
  else (num n).take 1 ++ ((if 1 < (num n).length then 46 :: (num n).drop 1 else []) ++ 101 :: Lib.itoa ((num n).length + x - 1))
def textL (g : Bool) (n : Nat) (x : Int) : List UInt8 := if n = 0 then [48] else if g then 45 :: absL n x else absL n x
theorem dlL_app : ∀ (T z : List UInt8), digs T = true → (∀ c t, z = c :: t → isd c = false) → dlL (T ++ z) = T.length := by
  intro T
  induction T with
  | nil =>
    intro z _ hz
    cases z with
    | nil => rfl
    | cons c t => rw [List.nil_append, dlL_cons, if_neg (by rw [hz c t rfl]; simp)]; rfl
  | cons a T ih =>
    intro z hT hz
    unfold digs at hT
    rw [List.all_cons, Bool.and_eq_true] at hT
    rw [List.cons_append, dlL_cons, if_pos hT.1, ih z hT.2 hz]; rfl
theorem digs_take {l : List UInt8} (h : digs l = true) (k : Nat) : digs (l.take k) = true := by
  unfold digs at *
  rw [List.all_eq_true] at *
  exact fun c hc => h c (List.mem_of_mem_take hc)
theorem digs_drop {l : List UInt8} (h : digs l = true) (k : Nat) : digs (l.drop k) = true := by
  unfold digs at *
  rw [List.all_eq_true] at *
  exact fun c hc => h c (List.mem_of_mem_drop hc)
theorem digs_rep (k : Nat) : digs (List.replicate k 48) = true := by
  unfold digs
  rw [List.all_eq_true]
  intro c hc
  rw [(List.mem_replicate.1 hc).2]; decide
theorem val_rep (k : Nat) : val (List.replicate k 48) = 0 := by
  induction k with
  | zero => rfl
  | succ k ih => rw [List.replicate_succ]; unfold val; rw [ih]; simp
theorem itoa_num {q : Int} (h : q ≠ 0) : Lib.itoa q = if q < 0 then 45 :: num q.natAbs else num q.natAbs := by
  unfold Lib.itoa
  by_cases h0 : q < 0
  · rw [if_pos h0, if_pos h0, decDigits_num (by omega)]
  · rw [if_neg h0, if_neg h0, decDigits_num (by omega)]
    congr 1
    omega
theorem num_ne {n : Nat} (h : 0 < n) : num n ≠ [] := fun e => by have := num_nil.1 e; omega
theorem num_hd (n : Nat) (c : UInt8) (t : List UInt8) (h : num n = c :: t) : isd c = true ∧ c ≠ 48 ∧ c ≠ 45 ∧ c ≠ 43 ∧ c ≠ 46 := by
  have h1 := num_digs n
  rw [h] at h1
  unfold digs at h1
  rw [List.all_cons, Bool.and_eq_true] at h1
  have h2 := (numB_iff.1 (num_numB n)).2
  rw [h] at h2
  have h3 := isd_iff.1 h1.1
  refine ⟨h1.1, fun e => h2 (by rw [e]; rfl), ?_, ?_, ?_⟩ <;> (intro e; rw [e] at h3; exact absurd h3 (by decide))
theorem expo_itoa {q : Int} (h : q ≠ 0) (hb : -1000000 ≤ q ∧ q ≤ 1000000) (C : Nat) (hC : 1000000 ≤ C) : expo C (101 :: Lib.itoa q) = some q := by
  have hp : 0 < q.natAbs := by omega
  have hd := num_digs q.natAbs
  have hv := val_num q.natAbs
  have hn := num_ne hp
  unfold expo qx
  rw [if_neg (by simp), if_pos (.inl rfl), itoa_num h]
  by_cases h0 : q < 0
  · rw [if_pos h0]
    simp only [List.drop_succ_cons, List.drop_zero, List.head?_cons, true_or, if_true]
    rw [if_neg (fun h => h.elim hn (fun h => by rw [hd] at h; cases h)), hv]
    exact congrArg some (by omega)
  · rw [if_neg h0]
    simp only [List.drop_succ_cons, List.drop_zero]
    obtain ⟨c, t, hct⟩ : ∃ c t, num q.natAbs = c :: t := by
      cases hc : num q.natAbs with
      | nil => exact absurd hc hn
      | cons c t => exact ⟨c, t, rfl⟩
    obtain ⟨-, -, h45, h43, -⟩ := num_hd _ c t hct
    have e1 : ¬ ((num q.natAbs).head? = some 45) := by rw [hct]; exact fun e => h45 (Option.some.inj e)
    have e2 : ¬ ((num q.natAbs).head? = some 43) := by rw [hct]; exact fun e => h43 (Option.some.inj e)
    rw [if_neg (show ¬ ((num q.natAbs).head? = some 45 ∨ (num q.natAbs).head? = some 43) from fun h => h.elim e1 e2), if_neg (fun h => h.elim hn (fun h => by rw [hd] at h; cases h)), if_neg e1, hv]
    exact congrArg some (by omega)
theorem pp_abs {C : Nat} (l : List UInt8) (g : Bool) (h : l.head? ≠ some 45) : pp C (if g then 45 :: l else l) = (pp C l).map (fun r => (g, r.2)) := by
  have e1 : l1 (if g then 45 :: l else l) = l1 l := by
    cases g
    · rfl
    · unfold l1; rw [if_neg h]; rfl
  have e2 : ng (if g then 45 :: l else l) = g := by
    cases g
    · exact decide_eq_false h
    · rfl
  unfold pp
  rw [e1, e2]
  split
  · rfl
  · split
    · split
      · rfl
      · cases expo C _ <;> rfl
    · cases expo C _ <;> rfl
theorem l1_id {l : List UInt8} (h : l.head? ≠ some 45) : l1 l = l := by unfold l1; rw [if_neg h]
/-- The absolute value's text: its digits and its exponent. -/
theorem pp_absL {n : Nat} {x : Int} (hn : 0 < n) (hl : (num n).length ≤ 120) (hx : -400 ≤ x ∧ x ≤ 400) (C : Nat) (hC : 1000000 ≤ C) : (absL n x).head? ≠ some 45 ∧ ∃ (ds : List UInt8) (y : Int) (m : Nat), pp C (absL n x) = some (false, ds, y) ∧ val ds = n * 10 ^ m ∧ y + (m : Int) = x := by
  obtain ⟨c, t, hct⟩ : ∃ c t, num n = c :: t := by
    cases hc : num n with
    | nil => exact absurd hc (num_ne hn)
    | cons c t => exact ⟨c, t, rfl⟩
  obtain ⟨hc0, hc48, hc45, -, -⟩ := num_hd n c t hct
  have hd := num_digs n
  have hv := val_num n
  have hlen : 1 ≤ (num n).length := by rw [hct]; simp
  unfold absL
  by_cases h1 : 0 ≤ x ∧ (num n).length + x ≤ 21
  · rw [if_pos h1]
    have hh : (num n ++ List.replicate x.toNat 48).head? ≠ some 45 := by rw [hct]; exact fun e => hc45 (Option.some.inj e)
    refine ⟨hh, num n ++ List.replicate x.toNat 48, 0, x.toNat, ?_, by rw [val_append, val_rep, List.length_replicate, hv]; rfl, by omega⟩
    have hall := digs_app hd (digs_rep x.toNat)
    have hdl := dlL_all.2 hall
    unfold pp
    rw [l1_id hh, hdl, if_neg (fun h => h.elim (by rw [List.length_append]; omega) (fun h => by have h2 := h.2; rw [hct] at h2; exact hc48 (Option.some.inj h2))), List.drop_length, if_neg (by simp), List.take_length]
    unfold ng
    rw [decide_eq_false hh]
    rfl
  · rw [if_neg h1]
    by_cases h2 : x < 0 ∧ 1 ≤ (num n).length + x ∧ (num n).length + x ≤ 21
    · rw [if_pos h2]
      obtain ⟨p, hp⟩ : ∃ p : Nat, ((num n).length + x).toNat = p := ⟨_, rfl⟩
      rw [hp]
      have hp1 : 1 ≤ p ∧ p < (num n).length ∧ ((num n).length : Int) + x = p := by omega
      have hh : ((num n).take p ++ 46 :: (num n).drop p).head? = some c := by
        rw [hct]
        obtain ⟨j, rfl⟩ : ∃ j, p = j + 1 := ⟨p - 1, by omega⟩
        rfl
      have hh45 : ((num n).take p ++ 46 :: (num n).drop p).head? ≠ some 45 := by rw [hh]; exact fun e => hc45 (Option.some.inj e)
      refine ⟨hh45, num n, -((num n).length - p : Nat), 0, ?_, by rw [hv]; simp, by omega⟩
      have htl : ((num n).take p).length = p := by rw [List.length_take]; omega
      have hdl : dlL ((num n).take p ++ 46 :: (num n).drop p) = p := by rw [dlL_app _ _ (digs_take hd p) (fun c t e => by cases e; decide), htl]
      have hdr : ((num n).take p ++ 46 :: (num n).drop p).drop p = 46 :: (num n).drop p := by
        conv => lhs; rw [← htl]
        simp
      have hdr1 : ((num n).take p ++ 46 :: (num n).drop p).drop (p + 1) = (num n).drop p := by rw [← List.drop_drop, hdr]; rfl
      have hdf : dlL ((num n).drop p) = (num n).length - p := by rw [dlL_all.2 (digs_drop hd p), List.length_drop]
      have htk : ((num n).take p ++ 46 :: (num n).drop p).take p = (num n).take p := by
        conv => lhs; rw [← htl]
        simp [htl]
      unfold pp
      rw [l1_id hh45, hdl, if_neg (fun h => h.elim (by omega) (fun h => by have h2 := h.2; rw [hh] at h2; exact hc48 (Option.some.inj h2))), hdr, if_pos (show (46 :: (num n).drop p).head? = some 46 from rfl), hdr1, hdf, if_neg (by omega), ← List.drop_drop, hdr1, List.drop_drop, show p + ((num n).length - p) = (num n).length by omega, List.drop_length, htk]
      unfold ng
      have htd : ((num n).drop p).take ((num n).length - p) = (num n).drop p := List.take_of_length_le (by rw [List.length_drop]; exact Nat.le_refl _)
      rw [decide_eq_false hh45, htd, List.take_append_drop]
      show some (false, num n, (0 : Int) - _) = _
      rw [Int.zero_sub]
    · rw [if_neg h2]
      by_cases h3 : -5 ≤ (num n).length + x ∧ (num n).length + x ≤ 0
      · rw [if_pos h3]
        obtain ⟨k, hk⟩ : ∃ k : Nat, (-((num n).length + x)).toNat = k := ⟨_, rfl⟩
        rw [hk]
        have hall := digs_app (digs_rep k) hd
        have hal : (List.replicate k 48 ++ num n).length = k + (num n).length := by rw [List.length_append, List.length_replicate]
        refine ⟨by simp, 48 :: (List.replicate k 48 ++ num n), -((k + (num n).length : Nat) : Int), 0, ?_, ?_, by omega⟩
        · have hdl : dlL (48 :: 46 :: (List.replicate k 48 ++ num n)) = 1 := by
            rw [dlL_cons, if_pos (by decide), dlL_cons, if_neg (by decide)]
          have hdf : dlL (List.replicate k 48 ++ num n) = k + (num n).length := by rw [dlL_all.2 hall, hal]
          unfold pp
          rw [l1_id (by simp), hdl, if_neg (by simp)]
          simp only [List.drop_succ_cons, List.drop_zero, List.head?_cons, if_true, List.take_succ_cons, List.take_zero]
          rw [hdf, if_neg (by omega), show 1 + 1 + (k + (num n).length) = (k + (num n).length) + 2 by omega]
          simp only [List.drop_succ_cons]
          rw [← hal, List.drop_length, List.take_length, hal]
          show some (_, [48] ++ _, (0 : Int) - _) = _
          rw [Int.zero_sub]
          rfl
        · show val ([48] ++ (List.replicate k 48 ++ num n)) = _
          rw [val_append, val_append, val_rep, hv]
          show (0 + 0) * _ + (0 * _ + n) = _
          simp
      · rw [if_neg h3]
        obtain ⟨q, hq⟩ : ∃ q : Int, (num n).length + x - 1 = q := ⟨_, rfl⟩
        rw [hq]
        have hq0 : q ≠ 0 := by omega
        have hex := expo_itoa hq0 (by omega) C hC
        have htk1 : (num n).take 1 = [c] := by rw [hct]; rfl
        by_cases hL : 1 < (num n).length
        · rw [if_pos hL, htk1]
          simp only [List.cons_append, List.nil_append]
          have hdd := digs_drop hd 1
          have hh45 : (c :: 46 :: ((num n).drop 1 ++ 101 :: Lib.itoa q)).head? ≠ some 45 := fun e => hc45 (Option.some.inj e)
          have hdf : dlL ((num n).drop 1 ++ 101 :: Lib.itoa q) = ((num n).drop 1).length := dlL_app _ _ hdd (fun c t e => by cases e; decide)
          have hdl1 : ((num n).drop 1).length = (num n).length - 1 := by rw [List.length_drop]
          refine ⟨hh45, num n, q - ((num n).length - 1 : Nat), 0, ?_, by rw [hv]; simp, by omega⟩
          have hdl : dlL (c :: 46 :: ((num n).drop 1 ++ 101 :: Lib.itoa q)) = 1 := by
            rw [dlL_cons, if_pos hc0, dlL_cons, if_neg (by decide)]
          unfold pp
          rw [l1_id hh45, hdl, if_neg (by simp)]
          simp only [List.drop_succ_cons, List.drop_zero, List.head?_cons, if_true, List.take_succ_cons, List.take_zero]
          rw [hdf, if_neg (by omega), show 1 + 1 + ((num n).drop 1).length = ((num n).drop 1).length + 2 by omega]
          simp only [List.drop_succ_cons]
          rw [List.drop_append_of_le_length (Nat.le_refl _), List.drop_length, List.nil_append, hex, List.take_append_of_le_length (Nat.le_refl _), List.take_length, hdl1]
          unfold ng
          rw [decide_eq_false hh45]
          show some (false, [c] ++ (num n).drop 1, _) = _
          rw [← htk1, List.take_append_drop]
        · rw [if_neg hL, htk1, List.nil_append]
          have hn1 : num n = [c] := by rw [← htk1, List.take_of_length_le (by omega)]
          have hh45 : ([c] ++ 101 :: Lib.itoa q).head? ≠ some 45 := fun e => hc45 (Option.some.inj e)
          refine ⟨hh45, num n, q, 0, ?_, by rw [hv]; simp, by omega⟩
          have hdl : dlL ([c] ++ 101 :: Lib.itoa q) = 1 := by
            show dlL (c :: 101 :: Lib.itoa q) = 1
            rw [dlL_cons, if_pos hc0, dlL_cons, if_neg (by decide)]
          unfold pp
          rw [l1_id hh45, hdl, if_neg (by simp)]
          show (if (101 :: Lib.itoa q).head? = some 46 then _ else _) = _
          rw [if_neg (by simp)]
          show (match expo C (101 :: Lib.itoa q) with | none => none | some x => some (ng ([c] ++ 101 :: Lib.itoa q), [c], x)) = _
          rw [hex]
          unfold ng
          rw [decide_eq_false hh45, hn1]
/-- A decimal is what its text says. -/
theorem prs_text {g : Bool} {n : Nat} {x : Int} (h : okD g n x) (C : Nat) (hC : 1000000 ≤ C) : prs C (textL g n x) = (g, n, x, 0) := by
  rcases Nat.eq_zero_or_pos n with h0 | h0
  · rcases h with ⟨-, hg, hx⟩ | ⟨h1, -⟩
    · subst h0 hg hx
      rfl
    · omega
  · have hk := h
    rcases h with ⟨h1, -⟩ | ⟨-, -, hl, hx1, hx2⟩
    · omega
    · obtain ⟨h45, ds, y, m, hp, hv, hy⟩ := pp_absL h0 hl ⟨hx1, hx2⟩ C hC
      unfold prs textL
      rw [if_neg (by omega), show (if g = true then 45 :: absL n x else absL n x) = (if g then 45 :: absL n x else absL n x) from rfl, pp_abs _ _ h45, hp]
      show nrm g (val ds) y = _
      rw [hv, nrm_pow, hy, nrm_ok hk]
end Go.Proofs.YtaphckipkaggkaaGreatDoor.Dec
