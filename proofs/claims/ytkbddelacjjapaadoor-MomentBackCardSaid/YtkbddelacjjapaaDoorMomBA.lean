/-
  Package moment, plain: what any string says (Parse as a function of bytes), and that a text says its time.
-/
import Derived.Test.YtkbddelacjjapaaDoorMomZ
import Derived.Test.YtkbddelacjjapaaDoorMomO
namespace Go.Proofs.YtkbddelacjjapaaDoor.Mom
open Go.RowKit
set_option linter.unusedVariables false
set_option linter.unusedSimpArgs false
open Go.Proofs.YtkbddelacjjapaaDoor.Cal

def isDg (c : UInt8) : Bool := decide (48 ≤ c.toNat) && decide (c.toNat ≤ 57)
theorem isDg_iff {c : UInt8} : isDg c = true ↔ dg c := by unfold isDg dg; simp
def nvl (l : List UInt8) : Nat := l.foldl (fun n c => n * 10 + (c.toNat - 48)) 0
theorem nvl_snoc (l : List UInt8) (c : UInt8) : nvl (l ++ [c]) = nvl l * 10 + (c.toNat - 48) := by unfold nvl; simp
def dcl (l : List UInt8) : Nat := (l.takeWhile isDg).length
abbrev p10 : List UInt8 := [48, 48, 48, 48, 45, 48, 48, 45, 48, 48]
abbrev p8 : List UInt8 := [48, 48, 58, 48, 48, 58, 48, 48]
abbrev pP : List UInt8 := [43, 48, 48, 58, 48, 48]
abbrev pM : List UInt8 := [45, 48, 48, 58, 48, 48]
def sub (l : List UInt8) (a b : Nat) : List UInt8 := (l.drop a).take (b - a)
theorem nvl_lt : ∀ (k : Nat) (l : List UInt8), l.length = k → (∀ c ∈ l, dg c) → nvl l < 10 ^ k := by
  intro k
  induction k with
  | zero => intro l hl _; rw [List.length_eq_zero_iff.1 hl]; decide
  | succ k ih =>
    intro l hl hd
    obtain ⟨t, c, rfl⟩ : ∃ t c, l = t ++ [c] := ⟨l.dropLast, l.getLast (by intro e; rw [e] at hl; simp at hl), (List.dropLast_concat_getLast _).symm⟩
    have h1 := ih t (by simpa using hl) (fun x hx => hd x (List.mem_append_left _ hx))
    have h2 : dg c := hd c (by simp)
    unfold dg at h2
    rw [nvl_snoc, Nat.pow_succ]
    omega
theorem decFrom_digs : ∀ (l : List UInt8) (a : Nat), (∀ c ∈ l, dg c) → Lib.decFrom a l = some (l.foldl (fun n c => n * 10 + (c.toNat - 48)) a) := by
  intro l
  induction l with
  | nil => intro a _; rfl
  | cons c t ih =>
    intro a h
    have hc : dg c := h c (List.mem_cons_self ..)
    unfold dg at hc
    unfold Lib.decFrom
    rw [show Lib.digitVal c = some (c.toNat - 48) by unfold Lib.digitVal; rw [if_pos hc]]
    simp only [List.foldl_cons]
    exact ih _ (fun x hx => h x (List.mem_cons_of_mem _ hx))
theorem atoi_digs (l : List UInt8) (hn : l ≠ []) (h : ∀ c ∈ l, dg c) : Lib.atoi l = some (nvl l : Int) := by
  cases l with
  | nil => exact absurd rfl hn
  | cons c t =>
    have hc : dg c := h c (List.mem_cons_self ..)
    unfold dg at hc
    have h45 : (c == 45) = false := by rw [beq_eq_false_iff_ne]; intro e; rw [e] at hc; exact absurd hc.1 (by decide)
    have h43 : (c == 43) = false := by rw [beq_eq_false_iff_ne]; intro e; rw [e] at hc; exact absurd hc.1 (by decide)
    simp only [Lib.atoi, h45, h43, Bool.false_eq_true, if_false, Lib.decNat, List.isEmpty_cons, decFrom_digs _ _ h, Option.map_some]
    rfl
/-- The time of day that begins a string, and what follows it. -/
def clkL (l : List UInt8) : Option (Nat × Nat × Nat × Nat × List UInt8) :=
  if formL (sub l 0 8) p8 = true then
    if (l.drop 8).head? = some 46 then
      if 1 ≤ dcl (l.drop 9) ∧ dcl (l.drop 9) ≤ 9 then some (nvl (sub l 0 2), nvl (sub l 3 5), nvl (sub l 6 8), nvl ((l.drop 9).take (dcl (l.drop 9)) ++ List.replicate (9 - dcl (l.drop 9)) 48), (l.drop 9).drop (dcl (l.drop 9))) else none
    else some (nvl (sub l 0 2), nvl (sub l 3 5), nvl (sub l 6 8), 0, l.drop 8)
  else none
/-- The offset that a string is. -/
def znpL (l : List UInt8) : Option (Bool × Nat × Nat) :=
  if l = [90] ∨ l = [122] then some (false, 0, 0)
  else if formL l pP = true then some (true, nvl (sub l 1 3), nvl (sub l 4 6))
  else if formL l pM = true then some (false, nvl (sub l 1 3), nvl (sub l 4 6))
  else none
structure FL where
  k : Nat
  y : Nat
  mo : Nat
  d : Nat
  h : Nat
  mi : Nat
  se : Nat
  na : Nat
  ea : Bool
  zh : Nat
  zm : Nat
/-- The fields that a string says. -/
def spL (l : List UInt8) : Option FL :=
  if formL (sub l 0 10) p10 = true then
    if l.length = 10 then some ⟨1, nvl (sub l 0 4), nvl (sub l 5 7), nvl (sub l 8 10), 0, 0, 0, 0, false, 0, 0⟩
    else if (l.drop 10).head? = some 84 ∨ (l.drop 10).head? = some 116 ∨ (l.drop 10).head? = some 32 then
      match clkL (l.drop 11) with
      | none => none
      | some (h, mi, se, na, r) =>
        if r = [] then some ⟨3, nvl (sub l 0 4), nvl (sub l 5 7), nvl (sub l 8 10), h, mi, se, na, false, 0, 0⟩
        else match znpL r with
          | none => none
          | some (ea, zh, zm) => some ⟨4, nvl (sub l 0 4), nvl (sub l 5 7), nvl (sub l 8 10), h, mi, se, na, ea, zh, zm⟩
    else none
  else match clkL l with
    | none => none
    | some (h, mi, se, na, r) => if r = [] then some ⟨2, 0, 0, 0, h, mi, se, na, false, 0, 0⟩ else none
def inR (f : FL) : Prop := (f.k = 2 ∨ dayE f.y f.mo f.d = 0) ∧ f.h ≤ 23 ∧ f.mi ≤ 59 ∧ f.se ≤ 59 ∧ f.zh ≤ 23 ∧ f.zm ≤ 59
instance (f : FL) : Decidable (inR f) := by unfold inR; infer_instance
def nan (f : FL) : Int := f.h * 3600000000000 + f.mi * 60000000000 + f.se * 1000000000 + f.na
def zoo (f : FL) : Int := if f.ea = true then f.zh * 60 + f.zm else -(f.zh * 60 + f.zm)
def dyd (f : FL) : Int := if f.k = 2 then 0 else dayN f.y f.mo f.d
/-- The time that a string says, and the error. -/
def paL (l : List UInt8) : Int × Int × Int × Int × Int :=
  match spL l with
  | none => (0, 0, 0, 0, 3)
  | some f => if inR f then (f.k, dyd f, nan f, zoo f, 0) else (0, 0, 0, 0, 2)
/-- What the fields of any string are. -/
structure okF (f : FL) : Prop where
  k1 : 1 ≤ f.k
  k4 : f.k ≤ 4
  y : f.y < 10000
  mo : f.mo < 100
  d : f.d < 100
  h : f.h < 100
  mi : f.mi < 100
  se : f.se < 100
  na : f.na < 1000000000
  zh : f.zh < 100
  zm : f.zm < 100
  t1 : f.k = 1 → f.h = 0 ∧ f.mi = 0 ∧ f.se = 0 ∧ f.na = 0
  t4 : f.k ≠ 4 → f.zh = 0 ∧ f.zm = 0
theorem form_sub {l p : List UInt8} (h : formL l p = true) (a b : Nat) (hb : b ≤ p.length) (hp : ∀ i, a ≤ i → i < b → p[i]? = some 48) : (sub l a b).length = b - a ∧ ∀ c ∈ sub l a b, dg c := by
  have hl := form_len _ _ h
  refine ⟨by unfold sub; simp; omega, fun c hc => ?_⟩
  obtain ⟨i, hi, e⟩ := List.getElem_of_mem hc
  unfold sub at hi e
  simp at hi
  have e1 : l[a + i]? = some c := by
    rw [List.getElem_take, List.getElem_drop] at e
    rw [List.getElem?_eq_getElem (by omega), e]
  rcases form_at _ _ h (a + i) c 48 e1 (hp _ (by omega) (by omega)) with ⟨_, h1, h2⟩ | ⟨h1, _⟩
  · exact ⟨h1, h2⟩
  · exact absurd rfl h1
theorem sub_sub (l : List UInt8) (m a b : Nat) (hb : b ≤ m) : sub (sub l 0 m) a b = sub l a b := by
  unfold sub
  rw [Nat.sub_zero, List.drop_zero, List.drop_take, List.take_take, Nat.min_eq_left (by omega)]
theorem sub_num {l : List UInt8} {m : Nat} {p : List UInt8} (h : formL (sub l 0 m) p = true) (a b : Nat) (hbm : b ≤ m) (hb : b ≤ p.length) (hp : ∀ i, a ≤ i → i < b → p[i]? = some 48) : (sub l a b).length = b - a ∧ (∀ c ∈ sub l a b, dg c) ∧ nvl (sub l a b) < 10 ^ (b - a) := by
  have := form_sub h a b hb hp
  rw [sub_sub _ _ _ _ hbm] at this
  exact ⟨this.1, this.2, nvl_lt _ _ this.1 this.2⟩
theorem dcl_cons (a : UInt8) (t : List UInt8) : dcl (a :: t) = if isDg a = true then dcl t + 1 else 0 := by
  unfold dcl
  rw [List.takeWhile_cons]
  split <;> simp_all
theorem take_dcl : ∀ l : List UInt8, l.take (dcl l) = l.takeWhile isDg := by
  intro l
  induction l with
  | nil => rfl
  | cons a t ih =>
    rw [dcl_cons, List.takeWhile_cons]
    split
    · rw [List.take_succ_cons, ih]
    · rfl
theorem drop_dcl : ∀ l : List UInt8, l.drop (dcl l) = l.dropWhile isDg := by
  intro l
  induction l with
  | nil => rfl
  | cons a t ih =>
    rw [dcl_cons, List.dropWhile_cons]
    split
    · rw [List.drop_succ_cons, ih]
    · rfl
theorem dcl_le (l : List UInt8) : dcl l ≤ l.length := by
  induction l with
  | nil => exact Nat.le_refl _
  | cons a t ih => rw [dcl_cons]; split <;> simp <;> omega
theorem tw_dg (l : List UInt8) : ∀ c ∈ l.takeWhile isDg, dg c := by
  induction l with
  | nil => intro c hc; cases hc
  | cons a t ih =>
    intro c hc
    rw [List.takeWhile_cons] at hc
    split at hc
    · rename_i ha
      rcases List.mem_cons.1 hc with rfl | h
      · exact isDg_iff.1 ha
      · exact ih c h
    · cases hc
theorem frac_dg (l : List UInt8) (h : dcl l ≤ 9) : (l.take (dcl l) ++ List.replicate (9 - dcl l) 48).length = 9 ∧ ∀ c ∈ l.take (dcl l) ++ List.replicate (9 - dcl l) 48, dg c := by
  refine ⟨?_, ?_⟩
  · have := dcl_le l
    simp; omega
  · intro c hc
    rcases List.mem_append.1 hc with h | h
    · rw [take_dcl] at h; exact tw_dg _ c h
    · rw [(List.mem_replicate.1 h).2]; unfold dg; decide
theorem idx2 (P : Nat → Prop) {a b : Nat} (h : ∀ k, k < b - a → P (a + k)) : ∀ i, a ≤ i → i < b → P i := fun i h1 h2 => by
  have := h (i - a) (by omega)
  rwa [show a + (i - a) = i by omega] at this
theorem clk_ok {l : List UInt8} {h mi se na : Nat} {r : List UInt8} (H : clkL l = some (h, mi, se, na, r)) : h < 100 ∧ mi < 100 ∧ se < 100 ∧ na < 1000000000 := by
  unfold clkL at H
  split at H
  · rename_i hf
    have e1 := (sub_num hf 0 2 (by decide) (by decide) (idx2 _ (by decide))).2.2
    have e2 := (sub_num hf 3 5 (by decide) (by decide) (idx2 _ (by decide))).2.2
    have e3 := (sub_num hf 6 8 (by decide) (by decide) (idx2 _ (by decide))).2.2
    split at H
    · split at H
      · rename_i hn
        have e4 := nvl_lt _ _ (frac_dg _ hn.2).1 (frac_dg _ hn.2).2
        simp only [Option.some.injEq, Prod.mk.injEq] at H
        obtain ⟨rfl, rfl, rfl, rfl, rfl⟩ := H
        exact ⟨e1, e2, e3, e4⟩
      · cases H
    · simp only [Option.some.injEq, Prod.mk.injEq] at H
      obtain ⟨rfl, rfl, rfl, rfl, rfl⟩ := H
      exact ⟨e1, e2, e3, by decide⟩
  · cases H
theorem znp_ok {l : List UInt8} {ea : Bool} {zh zm : Nat} (H : znpL l = some (ea, zh, zm)) : zh < 100 ∧ zm < 100 := by
  unfold znpL at H
  have key : ∀ p : List UInt8, (p = pP ∨ p = pM) → formL l p = true → nvl (sub l 1 3) < 100 ∧ nvl (sub l 4 6) < 100 := fun p hp hf => by
    have e1 := form_sub hf 1 3 (by rcases hp with rfl | rfl <;> decide) (by rcases hp with rfl | rfl <;> exact idx2 _ (by decide))
    have e2 := form_sub hf 4 6 (by rcases hp with rfl | rfl <;> decide) (by rcases hp with rfl | rfl <;> exact idx2 _ (by decide))
    exact ⟨nvl_lt _ _ e1.1 e1.2, nvl_lt _ _ e2.1 e2.2⟩
  split at H
  · simp only [Option.some.injEq, Prod.mk.injEq] at H
    obtain ⟨rfl, rfl, rfl⟩ := H
    decide
  · split at H
    · rename_i hf
      have := key _ (.inl rfl) hf
      simp only [Option.some.injEq, Prod.mk.injEq] at H
      obtain ⟨rfl, rfl, rfl⟩ := H
      exact this
    · split at H
      · rename_i hf
        have := key _ (.inr rfl) hf
        simp only [Option.some.injEq, Prod.mk.injEq] at H
        obtain ⟨rfl, rfl, rfl⟩ := H
        exact this
      · cases H
theorem sp_ok {l : List UInt8} {f : FL} (H : spL l = some f) : okF f := by
  unfold spL at H
  split at H
  · rename_i hf
    have e1 := (sub_num hf 0 4 (by decide) (by decide) (idx2 _ (by decide))).2.2
    have e2 := (sub_num hf 5 7 (by decide) (by decide) (idx2 _ (by decide))).2.2
    have e3 := (sub_num hf 8 10 (by decide) (by decide) (idx2 _ (by decide))).2.2
    split at H
    · simp only [Option.some.injEq] at H
      subst H
      exact ⟨by dsimp only; decide, by dsimp only; decide, e1, e2, e3, by dsimp only; decide, by dsimp only; decide, by dsimp only; decide, by dsimp only; decide, by dsimp only; decide, by dsimp only; decide, fun _ => ⟨rfl, rfl, rfl, rfl⟩, fun _ => ⟨rfl, rfl⟩⟩
    · split at H
      · split at H
        · cases H
        · rename_i h mi se na r hc
          obtain ⟨c1, c2, c3, c4⟩ := clk_ok hc
          split at H
          · simp only [Option.some.injEq] at H
            subst H
            exact ⟨by dsimp only; decide, by dsimp only; decide, e1, e2, e3, c1, c2, c3, c4, by dsimp only; decide, by dsimp only; decide, fun h => absurd h (by dsimp only; decide), fun _ => ⟨rfl, rfl⟩⟩
          · split at H
            · cases H
            · rename_i ea zh zm hz
              obtain ⟨z1, z2⟩ := znp_ok hz
              simp only [Option.some.injEq] at H
              subst H
              exact ⟨by dsimp only; decide, by dsimp only; decide, e1, e2, e3, c1, c2, c3, c4, z1, z2, fun h => absurd h (by dsimp only; decide), fun h => absurd rfl h⟩
      · cases H
  · split at H
    · cases H
    · rename_i h mi se na r hc
      obtain ⟨c1, c2, c3, c4⟩ := clk_ok hc
      split at H
      · simp only [Option.some.injEq] at H
        subst H
        exact ⟨by dsimp only; decide, by dsimp only; decide, by dsimp only; decide, by dsimp only; decide, by dsimp only; decide, c1, c2, c3, c4, by dsimp only; decide, by dsimp only; decide, fun h => absurd h (by dsimp only; decide), fun _ => ⟨rfl, rfl⟩⟩
      · cases H
/-- What any string says: a valid time, or an error and no time. -/
theorem pa_any (l : List UInt8) : (∃ k d n o, paL l = (k, d, n, o, 0) ∧ vP k d n o) ∨ paL l = (0, 0, 0, 0, 2) ∨ paL l = (0, 0, 0, 0, 3) := by
  unfold paL
  cases hs : spL l with
  | none => exact .inr (.inr rfl)
  | some f =>
    have hk := sp_ok hs
    by_cases hi : inR f
    · refine .inl ⟨_, _, _, _, if_pos hi, ?_⟩
      obtain ⟨i1, i2, i3, i4, i5, i6⟩ := hi
      have k1 := hk.k1; have k4 := hk.k4; have na := hk.na; have t1 := hk.t1; have t4 := hk.t4
      have hD : 0 ≤ dyd f ∧ dyd f ≤ 3652058 ∧ (f.k = 2 → dyd f = 0) := by
        unfold dyd
        by_cases h2 : f.k = 2
        · rw [if_pos h2]; exact ⟨by omega, by omega, fun _ => rfl⟩
        · rw [if_neg h2]
          rcases i1 with i1 | i1
          · exact absurd i1 h2
          · by_cases hb : dayB f.y f.mo f.d = true
            · have := num_bd hb
              unfold dayN
              rw [if_pos hb]
              exact ⟨this.1, this.2, fun h => absurd h h2⟩
            · unfold dayE at i1
              rw [if_neg hb] at i1
              cases i1
      have hZ : -1439 ≤ zoo f ∧ zoo f ≤ 1439 ∧ (f.k ≠ 4 → zoo f = 0) := by
        unfold zoo
        split <;> refine ⟨by omega, by omega, fun h => ?_⟩ <;> (obtain ⟨a, b⟩ := t4 h; rw [a, b]; rfl)
      have hN : 0 ≤ nan f ∧ nan f ≤ 86399999999999 ∧ (f.k = 1 → nan f = 0) := by
        unfold nan
        refine ⟨by omega, by omega, fun h => ?_⟩
        obtain ⟨a, b, c, d⟩ := t1 h
        rw [a, b, c, d]; rfl
      obtain ⟨D1, D2, D3⟩ := hD
      obtain ⟨Z1, Z2, Z3⟩ := hZ
      obtain ⟨N1, N2, N3⟩ := hN
      unfold vP
      refine ⟨by omega, by omega, D1, D2, ?_, N1, N2, ?_, Z1, Z2, ?_⟩
      · by_cases h : f.k = 2
        · exact .inr (D3 h)
        · exact .inl (by omega)
      · by_cases h : f.k = 1
        · exact .inr (N3 h)
        · exact .inl (by omega)
      · by_cases h : f.k = 4
        · exact .inl (by omega)
        · exact .inr (Z3 h)
    · exact .inr (.inl (if_neg hi))
end Go.Proofs.YtkbddelacjjapaaDoor.Mom
