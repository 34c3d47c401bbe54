/-
  Plain facts on numerals and final zeros; the normal form of a decimal.
-/
import Derived.Test.YtjidjcnjgjmeoaaDoorDigMath2
namespace Go.Proofs.YtjidjcnjgjmeoaaDoor.Dec
open Go.Proofs.YtjidjcnjgjmeoaaDoor.Dig

/-- How many zeros a numeral ends with. -/
def zr (x : Nat) : Nat := ((num x).reverse.takeWhile (· == 48)).length
theorem dgt_one {d : Nat} (h0 : 0 < d) (h : d < 10) : dgt d ≠ 48 := by
  intro e
  have := congrArg UInt8.toNat e
  rw [dgt_toNat h] at this
  have h2 : (48 : UInt8).toNat = 48 := rfl
  omega
theorem num_step {q : Nat} (hq : 0 < q) : num q = num (q / 10) ++ [dgt (q % 10)] := by
  have hv : val (num (q / 10) ++ [dgt (q % 10)]) = q := by
    rw [val_snoc, val_num, dgt_toNat (Nat.mod_lt _ (by omega))]; omega
  have hb : numB (num (q / 10) ++ [dgt (q % 10)]) = true := by
    rw [numB_iff]
    refine ⟨by rw [digs_snoc, num_digs, dgt_isd (Nat.mod_lt _ (by omega))]; rfl, ?_⟩
    cases hc : num (q / 10) with
    | nil =>
      have h0 := num_nil.1 hc
      have : dgt (q % 10) ≠ 48 := dgt_one (by omega) (Nat.mod_lt _ (by omega))
      simpa using this
    | cons c l =>
      have := (numB_iff.1 (num_numB (q / 10))).2
      rw [hc] at this
      simpa using this
  have h3 := num_val hb
  rw [hv] at h3
  exact h3
theorem zr_zero : zr 0 = 0 := rfl
theorem zr_step {q : Nat} (hq : 0 < q) : zr q = if q % 10 = 0 then zr (q / 10) + 1 else 0 := by
  unfold zr
  rw [num_step hq, List.reverse_append]
  show (List.takeWhile _ (dgt (q % 10) :: (num (q / 10)).reverse)).length = _
  by_cases h : q % 10 = 0
  · rw [if_pos h, h, dgt_zero, List.takeWhile_cons_of_pos (by rfl)]; rfl
  · rw [if_neg h, List.takeWhile_cons_of_neg (by simpa using dgt_one (by omega) (Nat.mod_lt _ (by omega)))]; rfl
theorem zr_ten {q : Nat} (hq : 0 < q) : zr (q * 10) = zr q + 1 := by
  rw [zr_step (by omega), if_pos (by omega), Nat.mul_div_cancel _ (by omega)]
theorem zr_no {q : Nat} (h : q % 10 ≠ 0) : zr q = 0 := by
  rw [zr_step (by omega), if_neg h]
theorem zr_mod {q : Nat} (hq : 0 < q) (h : zr q = 0) : q % 10 ≠ 0 := by
  rw [zr_step hq] at h
  intro e
  rw [if_pos e] at h; omega
theorem zr_pow {q : Nat} (hq : 0 < q) (k : Nat) : zr (q * 10 ^ k) = zr q + k := by
  induction k with
  | zero => simp
  | succ k ih => rw [Nat.pow_succ, ← Nat.mul_assoc, zr_ten (Nat.mul_pos hq (pow_pos' k)), ih]; omega
/-- A number without its final zeros. -/
def cut (q : Nat) : Nat := q / 10 ^ zr q
theorem cut_mul (q : Nat) : cut q * 10 ^ zr q = q := by
  unfold cut
  induction q using Nat.strongRecOn with
  | _ q ih =>
    by_cases h0 : q = 0
    · subst h0; rfl
    by_cases h : q % 10 = 0
    · have hz : zr q = zr (q / 10) + 1 := by rw [zr_step (by omega), if_pos h]
      have e := ih (q / 10) (by omega)
      have h1 : q / 10 ^ (zr (q / 10) + 1) = q / 10 / 10 ^ zr (q / 10) := by rw [Nat.pow_succ, Nat.mul_comm, Nat.div_div_eq_div_mul]
      rw [hz, h1, Nat.pow_succ, ← Nat.mul_assoc, e]; omega
    · rw [zr_no h]; simp
theorem cut_pos {q : Nat} (hq : 0 < q) : 0 < cut q := by
  rcases Nat.eq_zero_or_pos (cut q) with h | h
  · have := cut_mul q; rw [h] at this; omega
  · exact h
theorem zr_cut {q : Nat} (hq : 0 < q) : zr (cut q) = 0 := by
  have h := zr_pow (cut_pos hq) (zr q)
  rw [cut_mul] at h; omega
theorem cut_pow {q : Nat} (hq : 0 < q) (k : Nat) : cut (q * 10 ^ k) = cut q := by
  unfold cut
  rw [zr_pow hq, Nat.add_comm, Nat.pow_add, ← Nat.div_div_eq_div_mul, Nat.mul_div_cancel _ (pow_pos' k)]
theorem cut_id {q : Nat} (h : zr q = 0) : cut q = q := by unfold cut; rw [h]; simp
theorem num_ten {q : Nat} (hq : 0 < q) : num (q * 10) = num q ++ [48] := by
  rw [num_step (by omega), Nat.mul_div_cancel _ (by omega), Nat.mul_mod_left]; rfl
theorem num_pow {q : Nat} (hq : 0 < q) (k : Nat) : num (q * 10 ^ k) = num q ++ List.replicate k 48 := by
  induction k with
  | zero => simp
  | succ k ih => rw [Nat.pow_succ, ← Nat.mul_assoc, num_ten (Nat.mul_pos hq (pow_pos' k)), ih, List.replicate_succ', List.append_assoc]
theorem len_cut {q : Nat} (hq : 0 < q) : (num (cut q)).length + zr q = (num q).length := by
  have := congrArg List.length (num_pow (cut_pos hq) (zr q))
  rw [cut_mul, List.length_append, List.length_replicate] at this
  omega
/-- Whether a number with an exponent has a normal form. -/
def fits (n : Nat) (x : Int) : Bool := decide ((num (cut n)).length ≤ 120 ∧ x + zr n ≤ 400 ∧ -400 ≤ x + zr n)
def nE (n : Nat) (x : Int) : Int := if n = 0 ∨ fits n x = true then 0 else 2
def nG (g : Bool) (n : Nat) (x : Int) : Bool := if n ≠ 0 ∧ fits n x = true then g else false
def nN (n : Nat) (x : Int) : Nat := if fits n x = true then cut n else 0
def nX (n : Nat) (x : Int) : Int := if n ≠ 0 ∧ fits n x = true then x + zr n else 0
theorem fits_pow {n : Nat} (hn : 0 < n) (x : Int) (k : Nat) : fits (n * 10 ^ k) x = fits n (x + k) := by
  unfold fits
  rw [cut_pow hn, zr_pow hn]
  congr 1
  rw [Int.natCast_add]
  rw [show x + (↑(zr n) + (k : Int)) = x + k + zr n by omega]
/-- The normal form of a number with an exponent. -/
def nrm (g : Bool) (n : Nat) (x : Int) : Bool × Nat × Int × Int := (nG g n x, nN n x, nX n x, nE n x)
theorem cut_zero : cut 0 = 0 := rfl
theorem nrm_zero (g : Bool) (x : Int) : nrm g 0 x = (false, 0, 0, 0) := by
  unfold nrm nG nN nX nE; simp [cut_zero]
theorem nrm_no {g : Bool} {n : Nat} {x : Int} (hn : 0 < n) (h : fits n x = false) : nrm g n x = (false, 0, 0, 2) := by
  unfold nrm nG nN nX nE; simp [h, show n ≠ 0 by omega]
theorem nrm_yes {g : Bool} {n : Nat} {x : Int} (hn : 0 < n) (h : fits n x = true) : nrm g n x = (g, cut n, x + zr n, 0) := by
  unfold nrm nG nN nX nE; simp [h, show n ≠ 0 by omega]
theorem nrm_pow (g : Bool) (n : Nat) (x : Int) (k : Nat) : nrm g (n * 10 ^ k) x = nrm g n (x + k) := by
  rcases Nat.eq_zero_or_pos n with h | h
  · subst h; rw [Nat.zero_mul, nrm_zero, nrm_zero]
  · cases hf : fits n (x + k) with
    | true => rw [nrm_yes h hf, nrm_yes (Nat.mul_pos h (pow_pos' k)) (by rw [fits_pow h, hf]), cut_pow h, zr_pow h, Int.natCast_add, show x + (↑(zr n) + (k : Int)) = x + k + zr n by omega]
    | false => rw [nrm_no h hf, nrm_no (Nat.mul_pos h (pow_pos' k)) (by rw [fits_pow h, hf])]
/-- A decimal in normal form. -/
def okD (g : Bool) (n : Nat) (x : Int) : Prop := (n = 0 ∧ g = false ∧ x = 0) ∨ (0 < n ∧ zr n = 0 ∧ (num n).length ≤ 120 ∧ -400 ≤ x ∧ x ≤ 400)
theorem nrm_ok {g : Bool} {n : Nat} {x : Int} (h : okD g n x) : nrm g n x = (g, n, x, 0) := by
  rcases h with ⟨rfl, rfl, rfl⟩ | ⟨h, hz, hl, h1, h2⟩
  · exact nrm_zero _ _
  · have hc := cut_id hz
    rw [nrm_yes h (by unfold fits; rw [hc, hz]; simp; omega), hc, hz]; simp
theorem ok_nrm (g : Bool) (n : Nat) (x : Int) : okD (nG g n x) (nN n x) (nX n x) := by
  rcases Nat.eq_zero_or_pos n with h | h
  · subst h; left; unfold nG nN nX; simp [cut_zero]
  · cases hf : fits n x with
    | true =>
      right
      unfold nN nX
      have hne : n ≠ 0 := by omega
      simp only [hf, hne, ne_eq, not_false_eq_true, and_self, if_true]
      unfold fits at hf
      have := of_decide_eq_true hf
      exact ⟨cut_pos h, zr_cut h, this.1, this.2.2, this.2.1⟩
    | false => left; unfold nG nN nX; simp [hf]
end Go.Proofs.YtjidjcnjgjmeoaaDoor.Dec
