/-
  Plain facts: decimals as integers of one scale; the order; sums.
-/
import Derived.Test.YtaphckipkaggkaaGreatDoorDecN
namespace Go.Proofs.YtaphckipkaggkaaGreatDoor.Dec
open Go.RowKit
set_option linter.unusedVariables false
set_option linter.unusedSimpArgs false
open Go.Proofs.YtaphckipkaggkaaGreatDoor.Dig

theorem rep_lt : ∀ (b : List UInt8) (j : Nat), b ≠ [] → (∀ c ∈ b, 48 ≤ c) → b.getLast? ≠ some 48 → List.replicate (b.length + j) (48 : UInt8) < b ++ List.replicate j 48
  | [], _, h, _, _ => absurd rfl h
  | c :: b, j, _, hc, hl => by
    rw [List.length_cons, show b.length + 1 + j = (b.length + j) + 1 by omega, List.replicate_succ, List.cons_append, List.cons_lt_cons_iff]
    have h48 := hc c (List.mem_cons_self ..)
    by_cases h : c = 48
    · right
      refine ⟨h.symm, rep_lt b j ?_ (fun d hd => hc d (List.mem_cons_of_mem _ hd)) ?_⟩
      · rintro rfl; rw [h] at hl; exact hl rfl
      · intro e
        cases b with
        | nil => cases e
        | cons d t => rw [List.getLast?_cons_cons] at hl; exact hl e
    · left
      rw [UInt8.lt_iff_toNat_lt]
      rw [UInt8.le_iff_toNat_le] at h48
      have : c.toNat ≠ (48 : UInt8).toNat := fun e => h (UInt8.toNat_inj.1 e)
      omega
theorem last_tail {c : UInt8} {b : List UInt8} (hl : (c :: b).getLast? ≠ some 48) : b.getLast? ≠ some 48 := by
  intro e
  cases b with
  | nil => cases e
  | cons d t => rw [List.getLast?_cons_cons] at hl; exact hl e
theorem lex_pad : ∀ (a b : List UInt8) (i j : Nat), (∀ c ∈ a, 48 ≤ c) → (∀ c ∈ b, 48 ≤ c) → a.getLast? ≠ some 48 → b.getLast? ≠ some 48 → a.length + i = b.length + j →
    (a < b ↔ a ++ List.replicate i 48 < b ++ List.replicate j 48) ∧ (a = b ↔ a ++ List.replicate i 48 = b ++ List.replicate j 48)
  | [], [], i, j, _, _, _, _, h => by
    obtain rfl : i = j := by simpa using h
    simp
  | [], d :: b, i, j, _, hb, _, lb, h => by
    have := rep_lt (d :: b) j (by simp) hb lb
    rw [← h, List.length_nil, Nat.zero_add] at this
    refine ⟨⟨fun _ => by simpa using this, fun _ => List.nil_lt_cons ..⟩, ⟨(fun e => by cases e), fun e => ?_⟩⟩
    rw [List.nil_append] at e
    rw [e] at this
    exact absurd this (List.lt_irrefl _)
  | c :: a, [], i, j, ha, _, la, _, h => by
    have := rep_lt (c :: a) i (by simp) ha la
    rw [h, List.length_nil, Nat.zero_add] at this
    refine ⟨⟨fun e => absurd e (List.not_lt_nil _), fun e => ?_⟩, ⟨(fun e => by cases e), fun e => ?_⟩⟩
    · rw [List.nil_append] at e
      exact absurd (List.lt_trans this e) (List.lt_irrefl _)
    · rw [List.nil_append] at e
      rw [e] at this
      exact absurd this (List.lt_irrefl _)
  | c :: a, d :: b, i, j, ha, hb, la, lb, h => by
    have ih := lex_pad a b i j (fun x hx => ha x (List.mem_cons_of_mem _ hx)) (fun x hx => hb x (List.mem_cons_of_mem _ hx)) (last_tail la) (last_tail lb) (by simp at h; omega)
    rw [List.cons_append, List.cons_append, List.cons_lt_cons_iff, List.cons_lt_cons_iff, ih.1]
    refine ⟨Iff.rfl, ?_⟩
    rw [List.cons.injEq, List.cons.injEq, ih.2]
theorem num_48 (n : Nat) : ∀ c ∈ num n, (48 : UInt8) ≤ c := fun c hc => by
  have := isd_iff.1 (List.all_eq_true.1 (num_digs n) c hc)
  rw [UInt8.le_iff_toNat_le]; exact this.1
theorem num_last {n : Nat} (hn : 0 < n) (h : zr n = 0) : (num n).getLast? ≠ some 48 := by
  rw [num_step hn, List.getLast?_append]
  simp only [List.getLast?_singleton, Option.some_or, ne_eq, Option.some.injEq]
  exact dgt_one (by have := zr_mod hn h; omega) (Nat.mod_lt _ (by omega))
theorem cabs_pow {n1 n2 : Nat} {x1 x2 : Int} {e1 e2 : Nat} (p1 : 0 < n1) (p2 : 0 < n2) (z1 : zr n1 = 0) (z2 : zr n2 = 0) (h1 : x1 + 400 = e1) (h2 : x2 + 400 = e2) : cabs n1 x1 n2 x2 = icmp ((n1 * 10 ^ e1 : Nat) : Int) ((n2 * 10 ^ e2 : Nat) : Int) := by
  have l1 := len_pow p1 e1
  have l2 := len_pow p2 e2
  unfold cabs
  rw [S_size, S_size]
  rcases (show (num n1).length + e1 < (num n2).length + e2 ∨ (num n2).length + e2 < (num n1).length + e1 ∨ (num n1).length + e1 = (num n2).length + e2 by omega) with h | h | h
  · have hi : icmp ((num n1).length + x1) ((num n2).length + x2) = -1 := if_pos (by omega)
    rw [hi, if_pos (by decide)]
    have : n1 * 10 ^ e1 < n2 * 10 ^ e2 := len_lt (by rw [S_size, S_size, l1, l2]; exact h)
    exact (if_pos (by omega)).symm
  · have hi : icmp ((num n1).length + x1) ((num n2).length + x2) = 1 := by unfold icmp; rw [if_neg (by omega), if_pos (by omega)]
    rw [hi, if_pos (by decide)]
    have : n2 * 10 ^ e2 < n1 * 10 ^ e1 := len_lt (by rw [S_size, S_size, l1, l2]; exact h)
    unfold icmp
    rw [if_neg (by omega), if_pos (by omega)]
  · have hi : icmp ((num n1).length + x1) ((num n2).length + x2) = 0 := by unfold icmp; rw [if_neg (by omega), if_neg (by omega)]
    rw [hi, if_neg (by decide), compare_eq]
    have hp := lex_pad (num n1) (num n2) e1 e2 (num_48 n1) (num_48 n2) (num_last p1 z1) (num_last p2 z2) h
    rw [← num_pow p1, ← num_pow p2] at hp
    have hs := same_len (x := n1 * 10 ^ e1) (y := n2 * 10 ^ e2) (by rw [S_size, S_size, l1, l2]; exact h)
    by_cases q : num n1 < num n2
    · have := hs.1.1 (hp.1.1 q)
      rw [if_pos q]
      exact (if_pos (by omega)).symm
    · have nq : ¬ n1 * 10 ^ e1 < n2 * 10 ^ e2 := fun e => q (hp.1.2 (hs.1.2 e))
      rw [if_neg q]
      by_cases r : num n1 = num n2
      · have := hs.2.1 (hp.2.1 r)
        rw [if_pos r]
        unfold icmp
        rw [if_neg (by omega), if_neg (by omega)]
      · have nr : ¬ n1 * 10 ^ e1 = n2 * 10 ^ e2 := fun e => r (hp.2.2 (hs.2.2 e))
        rw [if_neg r]
        unfold icmp
        rw [if_neg (by omega), if_pos (by omega)]
/-- A decimal as an integer, of the scale 10 ^ 400. -/
def absV (n : Nat) (x : Int) : Nat := n * 10 ^ (x + 400).toNat
def V (g : Bool) (n : Nat) (x : Int) : Int := if g then -(absV n x : Int) else absV n x
theorem absV_pos {n : Nat} (x : Int) (h : 0 < n) : 0 < absV n x := Nat.mul_pos h (pow_pos' _)
theorem absV_zero (x : Int) : absV 0 x = 0 := Nat.zero_mul _
theorem V_zero (g : Bool) (x : Int) : V g 0 x = 0 := by unfold V; rw [absV_zero]; split <;> rfl
theorem dcmp_V {g1 g2 : Bool} {n1 n2 : Nat} {x1 x2 : Int} (h1 : okD g1 n1 x1) (h2 : okD g2 n2 x2) : dcmp g1 n1 x1 g2 n2 x2 = icmp (V g1 n1 x1) (V g2 n2 x2) := by
  obtain ⟨_, a1, a2⟩ := ok_size h1
  obtain ⟨_, a3, a4⟩ := ok_size h2
  rcases Nat.eq_zero_or_pos n1 with e1 | p1
  · subst e1
    rw [V_zero]
    rcases Nat.eq_zero_or_pos n2 with e2 | p2
    · subst e2
      rw [V_zero]
      have hg1 : g1 = false := by rcases h1 with ⟨_, h, _⟩ | ⟨h, _⟩; exact h; omega
      have hx1 : x1 = 0 := by rcases h1 with ⟨_, _, h⟩ | ⟨h, _⟩; exact h; omega
      have hx2 : x2 = 0 := by rcases h2 with ⟨_, _, h⟩ | ⟨h, _⟩; exact h; omega
      subst hg1; subst hx1; subst hx2
      rfl
    · have hv := absV_pos x2 p2
      unfold dcmp sgn V
      rw [if_pos rfl, if_neg (show ¬ n2 = 0 by omega)]
      cases g2
      · simp only [Bool.false_eq_true, if_false]; unfold icmp; rw [if_pos (by decide), if_pos (by decide), if_pos (by omega)]
      · simp only [if_true]; unfold icmp; rw [if_pos (by decide), if_neg (by decide), if_pos (by decide), if_neg (by omega), if_pos (by omega)]
  · have hv1 := absV_pos x1 p1
    rcases Nat.eq_zero_or_pos n2 with e2 | p2
    · subst e2
      rw [V_zero]
      unfold dcmp sgn V
      rw [if_neg (show ¬ n1 = 0 by omega), if_pos rfl]
      cases g1
      · simp only [Bool.false_eq_true, if_false]; unfold icmp; rw [if_pos (by decide), if_neg (by decide), if_pos (by decide), if_neg (by omega), if_pos (by omega)]
      · simp only [if_true]; unfold icmp; rw [if_pos (by decide), if_pos (by decide), if_pos (by omega)]
    · have hv2 := absV_pos x2 p2
      obtain ⟨z1, _⟩ := ok_parts h1 p1
      obtain ⟨z2, _⟩ := ok_parts h2 p2
      have c1 : cabs n1 x1 n2 x2 = icmp (absV n1 x1) (absV n2 x2) := cabs_pow p1 p2 z1 z2 (by omega) (by omega)
      have c2 : cabs n2 x2 n1 x1 = icmp (absV n2 x2) (absV n1 x1) := cabs_pow p2 p1 z2 z1 (by omega) (by omega)
      unfold dcmp sgn V
      rw [if_neg (show ¬ n1 = 0 by omega), if_neg (show ¬ n2 = 0 by omega), c1, c2]
      generalize absV n1 x1 = A at *
      generalize absV n2 x2 = B at *
      cases g1 <;> cases g2
      · simp
      · simp only [Bool.false_eq_true, if_false, if_true]; unfold icmp; rw [if_pos (by decide), if_neg (by decide), if_pos (by decide), if_neg (by omega), if_pos (by omega)]
      · simp only [Bool.false_eq_true, if_false, if_true]; unfold icmp; rw [if_pos (by decide), if_pos (by decide), if_pos (by omega)]
      · simp only [if_true, ne_eq, not_true_eq_false, if_false]
        unfold icmp
        rcases (show A < B ∨ B < A ∨ A = B by omega) with h | h | h
        · rw [if_neg (by omega), if_pos (by omega), if_neg (by omega), if_pos (by omega)]
        · rw [if_pos (by omega), if_pos (by omega)]
        · rw [if_neg (by omega), if_neg (by omega), if_neg (by omega), if_neg (by omega)]
theorem V_inj {g1 g2 : Bool} {n1 n2 : Nat} {x1 x2 : Int} (h1 : okD g1 n1 x1) (h2 : okD g2 n2 x2) (h : V g1 n1 x1 = V g2 n2 x2) : g1 = g2 ∧ n1 = n2 ∧ x1 = x2 := by
  have key : ∀ {g n x}, okD g n x → nrm g (absV n x) (-400) = (g, n, x, 0) := fun {g n x} hk => by
    obtain ⟨_, b1, b2⟩ := ok_size hk
    unfold absV
    rw [nrm_pow, show (-400 : Int) + ((x + 400).toNat : Int) = x by omega]
    exact nrm_ok hk
  have k1 := key h1
  have k2 := key h2
  have hz : ∀ {g n x}, okD g n x → absV n x = 0 → n = 0 := fun {g n x} _ e => by
    rcases Nat.eq_zero_or_pos n with h | h
    · exact h
    · have := absV_pos x h; omega
  have ha : absV n1 x1 = absV n2 x2 ∧ (g1 = g2 ∨ absV n1 x1 = 0) := by
    unfold V at h
    cases g1 <;> cases g2 <;> simp at h ⊢ <;> omega
  rcases ha.2 with e | e
  · rw [ha.1, e, k2] at k1
    injection k1 with e1 k1
    injection k1 with e2 k1
    injection k1 with e3 _
    exact ⟨e, e2.symm, e3.symm⟩
  · have z1 := hz h1 e
    have z2 := hz h2 (ha.1 ▸ e)
    rcases h1 with ⟨_, q1, q2⟩ | ⟨q, _⟩
    · rcases h2 with ⟨_, q3, q4⟩ | ⟨q, _⟩
      · exact ⟨q1.trans q3.symm, z1.trans z2.symm, q2.trans q4.symm⟩
      · omega
    · omega
end Go.Proofs.YtaphckipkaggkaaGreatDoor.Dec
