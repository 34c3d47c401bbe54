/-
  Plain facts of the ring of decimals.
-/
import Derived.Test.YtelehjdhjjedhabDoorDecR
namespace Go.Proofs.YtelehjdhjjedhabDoor.Dec
open Go.RowKit
set_option linter.unusedVariables false
set_option linter.unusedSimpArgs false
open Go.Proofs.YtelehjdhjjedhabDoor.Dig

abbrev Res := Bool × Nat × Int × Int
/-- The decimal that an integer of the scale 10 ^ s is. -/
def cs (s : Nat) (v : Int) : Res := nrm (decide (v < 0)) v.natAbs (-(s : Int))
theorem cs_of {g : Bool} {N s : Nat} {v : Int} (h : v = if g then -(N : Int) else N) : cs s v = nrm g N (-(s : Int)) := by
  unfold cs
  rcases Nat.eq_zero_or_pos N with h0 | h0
  · have hv : v = 0 := by rw [h, h0]; split <;> rfl
    subst h0; subst hv
    rw [nrm_zero]
    exact nrm_zero _ _
  · cases g
    · rw [if_neg (by simp)] at h
      rw [show decide (v < 0) = false from decide_eq_false (by omega), show v.natAbs = N by omega]
    · rw [if_pos rfl] at h
      rw [show decide (v < 0) = true from decide_eq_true (by omega), show v.natAbs = N by omega]
theorem cs_nrm {g : Bool} {N s k : Nat} {v m : Int} (h : v = if g then -((N * 10 ^ k : Nat) : Int) else ((N * 10 ^ k : Nat) : Int)) (hm : m = k - (s : Int)) : cs s v = nrm g N m := by
  rw [cs_of h, nrm_pow, hm]
  congr 1
  omega
theorem cs_V {g : Bool} {n : Nat} {x : Int} (h : okD g n x) (s : Nat) (hs : s = 400) : cs s (V g n x) = (g, n, x, 0) := by
  obtain ⟨_, b1, b2⟩ := ok_size h
  rw [← nrm_ok h]
  exact cs_nrm (k := (x + 400).toNat) rfl (by omega)
theorem cs_scale (s t : Nat) (v : Int) : cs (s + t) (v * (10 ^ t : Nat)) = cs s v := by
  have h : v = if decide (v < 0) then -(v.natAbs : Int) else v.natAbs := by
    by_cases q : v < 0
    · rw [if_pos (by simpa using q)]; omega
    · rw [if_neg (by simpa using q)]; omega
  unfold cs
  have h2 := cs_nrm (g := decide (v < 0)) (N := v.natAbs) (s := s + t) (k := t) (v := v * (10 ^ t : Nat)) (m := -(s : Int)) (by
    generalize 10 ^ t = P at *
    generalize v.natAbs = M at *
    by_cases q : v < 0
    · rw [if_pos (by simpa using q)] at h ⊢
      rw [h, Int.natCast_mul, Int.neg_mul]
    · rw [if_neg (by simpa using q)] at h ⊢
      rw [h, Int.natCast_mul]) (by omega)
  exact h2
theorem addR_cs {g1 g2 : Bool} {n1 n2 : Nat} {x1 x2 : Int} (h1 : okD g1 n1 x1) (h2 : okD g2 n2 x2) (s : Nat) (hs : s = 400) : addR g1 n1 x1 g2 n2 x2 = cs s (V g1 n1 x1 + V g2 n2 x2) := by
  obtain ⟨_, a1, a2⟩ := ok_size h1
  obtain ⟨_, a3, a4⟩ := ok_size h2
  unfold addR
  by_cases e1 : n1 = 0
  · rw [if_pos e1, e1, V_zero, Int.zero_add, cs_V h2 s hs]
  rw [if_neg e1]
  by_cases e2 : n2 = 0
  · rw [if_pos e2, e2, V_zero, Int.add_zero]
    subst e2
    exact (cs_V h1 s hs).symm
  rw [if_neg e2]
  obtain ⟨m, hm⟩ : ∃ m, min x1 x2 = m := ⟨_, rfl⟩
  rw [hm]
  have v1 : n1 * 10 ^ (x1 - m).toNat * 10 ^ (m + 400).toNat = absV n1 x1 := by
    unfold absV; rw [Nat.mul_assoc, ← Nat.pow_add]; congr 2; omega
  have v2 : n2 * 10 ^ (x2 - m).toNat * 10 ^ (m + 400).toNat = absV n2 x2 := by
    unfold absV; rw [Nat.mul_assoc, ← Nat.pow_add]; congr 2; omega
  have hk : m = ((m + 400).toNat : Int) - (s : Int) := by omega
  generalize n1 * 10 ^ (x1 - m).toNat = A at *
  generalize n2 * 10 ^ (x2 - m).toNat = B at *
  have hV : ∀ g n x, V g n x = if g then -(absV n x : Int) else absV n x := fun _ _ _ => rfl
  rw [hV g1, hV g2, ← v1, ← v2]
  generalize hK : (m + 400).toNat = K at *
  unfold sumR
  by_cases hg : g1 = g2
  · rw [if_pos hg]; subst hg
    refine (cs_nrm (k := K) ?_ hk).symm
    rw [Nat.add_mul]
    split <;> omega
  · rw [if_neg hg]
    by_cases hl : A < B
    · rw [if_pos hl]
      refine (cs_nrm (k := K) ?_ hk).symm
      have hle := Nat.mul_le_mul_right (10 ^ K) (Nat.le_of_lt hl)
      rw [Nat.sub_mul]
      cases g1 <;> cases g2 <;> simp_all <;> omega
    · rw [if_neg hl]
      refine (cs_nrm (k := K) ?_ hk).symm
      have hle := Nat.mul_le_mul_right (10 ^ K) (Nat.le_of_not_lt hl)
      rw [Nat.sub_mul]
      cases g1 <;> cases g2 <;> simp_all <;> omega
def mulR (g1 : Bool) (n1 : Nat) (x1 : Int) (g2 : Bool) (n2 : Nat) (x2 : Int) : Res := nrm (g1 != g2) (n1 * n2) (x1 + x2)
theorem V_mul (g1 : Bool) (n1 : Nat) (x1 : Int) (g2 : Bool) (n2 : Nat) (x2 : Int) : V g1 n1 x1 * V g2 n2 x2 = if (g1 != g2) then -((absV n1 x1 * absV n2 x2 : Nat) : Int) else ((absV n1 x1 * absV n2 x2 : Nat) : Int) := by
  unfold V
  cases g1 <;> cases g2 <;> simp [Int.mul_neg, Int.neg_mul, Int.neg_neg]
theorem mulR_cs {g1 g2 : Bool} {n1 n2 : Nat} {x1 x2 : Int} (h1 : okD g1 n1 x1) (h2 : okD g2 n2 x2) (s : Nat) (hs : s = 800) : mulR g1 n1 x1 g2 n2 x2 = cs s (V g1 n1 x1 * V g2 n2 x2) := by
  obtain ⟨_, a1, a2⟩ := ok_size h1
  obtain ⟨_, a3, a4⟩ := ok_size h2
  have e : absV n1 x1 * absV n2 x2 = n1 * n2 * 10 ^ ((x1 + 400).toNat + (x2 + 400).toNat) := by
    unfold absV; rw [Nat.pow_add, Nat.mul_mul_mul_comm]
  unfold mulR
  refine (cs_nrm (k := (x1 + 400).toNat + (x2 + 400).toNat) ?_ (by omega)).symm
  rw [V_mul, e]
theorem mulR_V {g1 g2 : Bool} {n1 n2 : Nat} {x1 x2 : Int} (h1 : okD g1 n1 x1) (h2 : okD g2 n2 x2) (t : Nat) (ht : t = 400) (he : (mulR g1 n1 x1 g2 n2 x2).2.2.2 = 0) : V (mulR g1 n1 x1 g2 n2 x2).1 (mulR g1 n1 x1 g2 n2 x2).2.1 (mulR g1 n1 x1 g2 n2 x2).2.2.1 * (10 ^ t : Nat) = V g1 n1 x1 * V g2 n2 x2 := by
  obtain ⟨_, a1, a2⟩ := ok_size h1
  obtain ⟨_, a3, a4⟩ := ok_size h2
  have e : absV n1 x1 * absV n2 x2 = n1 * n2 * 10 ^ ((x1 + 400).toNat + (x2 + 400).toNat) := by
    unfold absV; rw [Nat.pow_add, Nat.mul_mul_mul_comm]
  rw [V_mul, e]
  unfold mulR at *
  generalize n1 * n2 = N at *
  generalize (g1 != g2) = g at *
  rcases Nat.eq_zero_or_pos N with h | h
  · subst h; rw [nrm_zero, Nat.zero_mul, V_zero, Int.zero_mul]; split <;> rfl
  cases hf : fits N (x1 + x2) with
  | false => rw [nrm_no h hf] at he; exact absurd he (by decide)
  | true =>
    rw [nrm_yes h hf]
    unfold fits at hf
    have hf := of_decide_eq_true hf
    have q : absV (cut N) (x1 + x2 + zr N) * 10 ^ t = N * 10 ^ ((x1 + 400).toNat + (x2 + 400).toNat) := by
      unfold absV
      rw [Nat.mul_assoc, ← Nat.pow_add, show (x1 + x2 + (zr N : Int) + 400).toNat + t = zr N + ((x1 + 400).toNat + (x2 + 400).toNat) by omega, Nat.pow_add, ← Nat.mul_assoc, cut_mul]
    show V g (cut N) (x1 + x2 + zr N) * _ = _
    unfold V
    rw [← q]
    cases g
    · simp
    · simp [Int.neg_mul]
theorem ok_mulR {g1 g2 : Bool} {n1 n2 : Nat} {x1 x2 : Int} : okD (mulR g1 n1 x1 g2 n2 x2).1 (mulR g1 n1 x1 g2 n2 x2).2.1 (mulR g1 n1 x1 g2 n2 x2).2.2.1 := ok_nrm _ _ _
/-- An exact quotient undoes a product. -/
theorem quo_mul {g1 g2 : Bool} {n1 n2 : Nat} {x1 x2 : Int} (h1 : okD g1 n1 x1) (h2 : okD g2 n2 x2) (hn : 0 < n2) (t : Nat) (ht : t = 400) {ga : Bool} {na : Nat} {xa : Int} (he : mulR g1 n1 x1 g2 n2 x2 = (ga, na, xa, 0)) :
    na * 10 ^ t % n2 = 0 ∧ nrm (ga != g2) (na * 10 ^ t / n2) (xa - x2 - 400) = (g1, n1, x1, 0) := by
  obtain ⟨s1, a1, a2⟩ := ok_size h1
  obtain ⟨s2, a3, a4⟩ := ok_size h2
  rcases Nat.eq_zero_or_pos n1 with h0 | h0
  · have hz : g1 = false ∧ x1 = 0 := by
      rcases h1 with ⟨_, p, q⟩ | ⟨p, _⟩
      · exact ⟨p, q⟩
      · omega
    unfold mulR at he
    rw [h0, Nat.zero_mul, nrm_zero] at he
    injection he with e1 he
    injection he with e2 he
    subst e2
    rw [Nat.zero_mul, Nat.zero_mod, Nat.zero_div, nrm_zero, hz.1, hz.2, h0]
    exact ⟨rfl, rfl⟩
  · have hP : 0 < n1 * n2 := Nat.mul_pos h0 hn
    unfold mulR at he
    cases hf : fits (n1 * n2) (x1 + x2) with
    | false => rw [nrm_no hP hf] at he; injection he with _ he; injection he with _ he; injection he with _ he; exact absurd he (by decide)
    | true =>
      rw [nrm_yes hP hf] at he
      injection he with e1 he
      injection he with e2 he
      injection he with e3 he
      subst e1; subst e2; subst e3
      have hl := len_cut hP
      have hs := S_prod s1 s2
      rw [S_size] at hs
      have hz : zr (n1 * n2) ≤ t := by omega
      have e : cut (n1 * n2) * 10 ^ t = n2 * (n1 * 10 ^ (t - zr (n1 * n2))) := by
        conv => lhs; rw [show t = zr (n1 * n2) + (t - zr (n1 * n2)) by omega]
        rw [Nat.pow_add, ← Nat.mul_assoc, cut_mul, Nat.mul_comm n1 n2, Nat.mul_assoc]
      rw [e, Nat.mul_mod_right, Nat.mul_div_cancel_left _ hn]
      refine ⟨rfl, ?_⟩
      rw [nrm_pow, show x1 + x2 + (zr (n1 * n2) : Int) - x2 - 400 + ((t - zr (n1 * n2) : Nat) : Int) = x1 by omega]
      have hg : ((g1 != g2) != g2) = g1 := by cases g1 <;> cases g2 <;> rfl
      rw [hg]
      exact nrm_ok h1
end Go.Proofs.YtelehjdhjjedhabDoor.Dec
