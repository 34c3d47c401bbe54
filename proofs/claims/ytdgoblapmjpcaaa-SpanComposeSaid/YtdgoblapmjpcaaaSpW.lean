/-
  Package span, plain: bytes that are kept, and the runs that say so.
-/
import Derived.Test.YtdgoblapmjpcaaaSpV
namespace Go.Proofs.Ytdgoblapmjpcaaa.Sp
open Go.RowKit
set_option linter.unusedVariables false
set_option linter.unusedSimpArgs false

/-- The runs say, byte by byte, where a text of n bytes lies in one of D bytes. -/
structure Cov (κ : Nat → Int) (n D : Nat) (R : List Ru) : Prop where
  ord : R.Pairwise fun r q => r.a + r.c ≤ q.a ∧ r.b + r.c ≤ q.b
  nn : ∀ r ∈ R, 0 ≤ r.a ∧ 0 ≤ r.b ∧ 0 ≤ r.c ∧ r.a + r.c ≤ n ∧ r.b + r.c ≤ D
  say : ∀ r ∈ R, ∀ j : Nat, r.a ≤ j → j < r.a + r.c → κ j = r.b + (j - r.a)
  cov : ∀ j : Nat, j < n → 0 ≤ κ j → ∃ r ∈ R, r.a ≤ j ∧ j < r.a + r.c
theorem pw_mem {α : Type} {P : α → α → Prop} : ∀ {R : List α}, R.Pairwise P → ∀ r ∈ R, ∀ q ∈ R, r = q ∨ P r q ∨ P q r := by
  intro R
  induction R with
  | nil => intro _ r hr; cases hr
  | cons x R ih =>
    intro h r hr q hq
    rw [List.pairwise_cons] at h
    rcases List.mem_cons.1 hr with er | mr
    · rcases List.mem_cons.1 hq with eq | mq
      · exact .inl (er.trans eq.symm)
      · exact .inr (.inl (by rw [er]; exact h.1 q mq))
    · rcases List.mem_cons.1 hq with eq | mq
      · exact .inr (.inr (by rw [eq]; exact h.1 r mr))
      · exact ih h.2 r mr q mq
theorem kr_of {κ : Nat → Int} {n : Nat} : ∀ (R : List Ru) (i : Nat), i ≤ n → (R.Pairwise fun r q => r.a + r.c ≤ q.a ∧ r.b + r.c ≤ q.b) → (∀ r ∈ R, (i : Int) ≤ r.a ∧ 0 ≤ r.b ∧ 0 ≤ r.c ∧ r.a + r.c ≤ n) → (∀ r ∈ R, ∀ j : Nat, r.a ≤ j → j < r.a + r.c → κ j = r.b + (j - r.a)) → (∀ j : Nat, i ≤ j → j < n → 0 ≤ κ j → ∃ r ∈ R, r.a ≤ j ∧ j < r.a + r.c) → KR κ n i R := by
  intro R
  induction R with
  | nil =>
    intro i hi _ _ _ hc
    refine ⟨hi, fun j h1 h2 => ?_⟩
    by_cases h : 0 ≤ κ j
    · obtain ⟨r, hr, _⟩ := hc j h1 h2 h; cases hr
    · omega
  | cons r R ih =>
    intro i hi ho hn hs hc
    rw [List.pairwise_cons] at ho
    obtain ⟨h1, h2, h3, h4⟩ := hn r (List.mem_cons_self ..)
    unfold KR
    by_cases e : r.c = 0
    · rw [if_pos e]
      refine ih i hi ho.2 (fun q hq => hn q (List.mem_cons_of_mem _ hq)) (fun q hq => hs q (List.mem_cons_of_mem _ hq)) (fun j j1 j2 j3 => ?_)
      obtain ⟨q, hq, q1, q2⟩ := hc j j1 j2 j3
      rcases List.mem_cons.1 hq with rfl | hq
      · omega
      · exact ⟨q, hq, q1, q2⟩
    · rw [if_neg e]
      refine ⟨r.a.toNat, r.c.toNat, by omega, by omega, h2, by omega, by omega, fun j j1 j2 => ?_, fun j j1 => ?_, ?_⟩
      · by_cases h : 0 ≤ κ j
        · obtain ⟨q, hq, q1, q2⟩ := hc j j1 (by omega) h
          rcases List.mem_cons.1 hq with rfl | hq
          · omega
          · have := (ho.1 q hq).1; omega
        · omega
      · rw [hs r (List.mem_cons_self ..) (r.a.toNat + j) (by omega) (by omega)]; omega
      · refine ih _ (by omega) ho.2 (fun q hq => ?_) (fun q hq => hs q (List.mem_cons_of_mem _ hq)) (fun j j1 j2 j3 => ?_)
        · have g := hn q (List.mem_cons_of_mem _ hq)
          have := (ho.1 q hq).1
          exact ⟨by omega, g.2⟩
        · obtain ⟨q, hq, q1, q2⟩ := hc j (by omega) j2 j3
          rcases List.mem_cons.1 hq with rfl | hq
          · omega
          · exact ⟨q, hq, q1, q2⟩
theorem Cov.kr {κ : Nat → Int} {n D : Nat} {R : List Ru} (h : Cov κ n D R) : KR κ n 0 R :=
  kr_of R 0 (Nat.zero_le _) h.ord (fun r hr => by have := h.nn r hr; omega) h.say (fun j _ h1 h2 => h.cov j h1 h2)
theorem Cov.rise {κ : Nat → Int} {n D : Nat} {R : List Ru} (h : Cov κ n D R) {i j : Nat} (hij : i < j) (hj : j < n) (h1 : 0 ≤ κ i) (h2 : 0 ≤ κ j) : κ i < κ j := by
  obtain ⟨r, hr, r1, r2⟩ := h.cov i (by omega) h1
  obtain ⟨q, hq, q1, q2⟩ := h.cov j hj h2
  rw [h.say r hr i r1 r2, h.say q hq j q1 q2]
  rcases pw_mem h.ord r hr q hq with rfl | ⟨g1, g2⟩ | ⟨g1, g2⟩ <;> omega
theorem Cov.lt {κ : Nat → Int} {n D : Nat} {R : List Ru} (h : Cov κ n D R) {i : Nat} (hi : i < n) (h1 : 0 ≤ κ i) : κ i < D := by
  obtain ⟨r, hr, r1, r2⟩ := h.cov i hi h1
  rw [h.say r hr i r1 r2]
  have := h.nn r hr
  omega
theorem wf_of {tx : ByteArray} {n : Nat} (hn : n ≤ 1000000000) (ht : tx.size ≤ 1000000000) : ∀ (R : List Ru) (fr to : Int), Sm fr → 0 ≤ to → to ≤ tx.size → (R.Pairwise fun r q => r.a + r.c ≤ q.a ∧ r.b + r.c ≤ q.b) → (∀ r ∈ R, 0 ≤ r.a ∧ to ≤ r.b ∧ 0 ≤ r.c ∧ r.a + r.c ≤ n ∧ r.b + r.c ≤ tx.size) → WF tx fr to R := by
  intro R
  induction R with
  | nil => intro fr to h1 h2 h3 _ _; exact ⟨h1, ⟨h2, by omega⟩, h3⟩
  | cons r R ih =>
    intro fr to h1 h2 h3 ho hb
    rw [List.pairwise_cons] at ho
    obtain ⟨b1, b2, b3, b4, b5⟩ := hb r (List.mem_cons_self ..)
    refine ⟨h1, ⟨h2, by omega⟩, ⟨b1, by omega⟩, ⟨by omega, by omega⟩, ⟨b3, by omega⟩, ?_⟩
    by_cases e : r.c = 0
    · rw [if_pos e]
      exact ih fr to h1 h2 h3 ho.2 (fun q hq => hb q (List.mem_cons_of_mem _ hq))
    · rw [if_neg e]
      refine ⟨b2, by omega, ih _ _ ⟨by omega, by omega⟩ (by omega) b5 ho.2 (fun q hq => ?_)⟩
      have g := hb q (List.mem_cons_of_mem _ hq)
      have := (ho.1 q hq).2
      omega
theorem Cov.wf {κ : Nat → Int} {n D : Nat} {R : List Ru} (h : Cov κ n D R) {tx : ByteArray} (ht : tx.size = D) (hn : n ≤ 1000000000) (hd : D ≤ 1000000000) : WF tx 0 0 R :=
  wf_of hn (by omega) R 0 0 ⟨by omega, by omega⟩ (by omega) (by omega) h.ord (fun r hr => by have := h.nn r hr; omega)
theorem Cov.sw {κ κ' : Nat → Int} {n D : Nat} {R : List Ru} (h : Cov κ n D R) (h1 : ∀ v i : Nat, i < n → κ i = v → κ' v = i) (h2 : ∀ v : Nat, v < D → 0 ≤ κ' v → ∃ i : Nat, i < n ∧ κ i = v) : Cov κ' D n (R.map Sp.sw) where
  ord := by rw [List.pairwise_map]; exact h.ord.imp fun hh => ⟨hh.2, hh.1⟩
  nn := by
    intro r hr
    obtain ⟨q, hq, rfl⟩ := List.mem_map.1 hr
    obtain ⟨g1, g2, g3, g4, g5⟩ := h.nn q hq
    exact ⟨g2, g1, g3, g5, g4⟩
  say := by
    intro r hr j j1 j2
    obtain ⟨q, hq, rfl⟩ := List.mem_map.1 hr
    obtain ⟨g1, g2, g3, g4, g5⟩ := h.nn q hq
    simp only [Sp.sw] at j1 j2 ⊢
    have e := h.say q hq (q.a.toNat + (j - q.b.toNat)) (by omega) (by omega)
    have := h1 j (q.a.toNat + (j - q.b.toNat)) (by omega) (by rw [e]; omega)
    rw [this]; omega
  cov := by
    intro j hj h0
    obtain ⟨i, hi, e⟩ := h2 j hj h0
    obtain ⟨r, hr, r1, r2⟩ := h.cov i hi (by omega)
    have e2 := h.say r hr i r1 r2
    refine ⟨Sp.sw r, List.mem_map_of_mem hr, ?_⟩
    simp only [Sp.sw]
    omega
/-- The runs of bytes that are kept first by one list of edits and then by another one. -/
def bo : Nat → List Ru → List Ru → List Ru
  | m + 1, x :: A, y :: B => (if max x.b y.a < min (x.b + x.c) (y.a + y.c) then [⟨x.a + max x.b y.a - x.b, y.b + max x.b y.a - y.a, min (x.b + x.c) (y.a + y.c) - max x.b y.a⟩] else []) ++ (if x.b + x.c < y.a + y.c then bo m A (y :: B) else bo m (x :: A) B)
  | _, _, _ => []
def Pr (A B : List Ru) (r : Ru) : Prop := ∃ x ∈ A, ∃ y ∈ B, max x.b y.a < min (x.b + x.c) (y.a + y.c) ∧ r = ⟨x.a + max x.b y.a - x.b, y.b + max x.b y.a - y.a, min (x.b + x.c) (y.a + y.c) - max x.b y.a⟩
theorem bo_pr : ∀ (m : Nat) (A B : List Ru), ∀ r ∈ bo m A B, Pr A B r := by
  intro m
  induction m with
  | zero => intro A B r hr; unfold bo at hr; cases hr
  | succ m ih =>
    intro A B r hr
    match A, B with
    | [], _ => unfold bo at hr; cases hr
    | _ :: _, [] => unfold bo at hr; cases hr
    | x :: A, y :: B =>
      unfold bo at hr
      rcases List.mem_append.1 hr with hr | hr
      · split at hr
        · next h =>
          rw [List.mem_singleton] at hr
          exact ⟨x, List.mem_cons_self .., y, List.mem_cons_self .., h, hr⟩
        · cases hr
      · split at hr
        · obtain ⟨p, hp, q, hq, h⟩ := ih _ _ r hr
          exact ⟨p, List.mem_cons_of_mem _ hp, q, hq, h⟩
        · obtain ⟨p, hp, q, hq, h⟩ := ih _ _ r hr
          exact ⟨p, hp, q, List.mem_cons_of_mem _ hq, h⟩
theorem pr_bo : ∀ (m : Nat) (A B : List Ru), A.length + B.length ≤ m → (A.Pairwise fun r q => r.a + r.c ≤ q.a ∧ r.b + r.c ≤ q.b) → (B.Pairwise fun r q => r.a + r.c ≤ q.a ∧ r.b + r.c ≤ q.b) → ∀ r, Pr A B r → r ∈ bo m A B := by
  intro m
  induction m with
  | zero =>
    intro A B hm _ _ r hr
    obtain ⟨x, hx, _⟩ := hr
    cases A with
    | nil => cases hx
    | cons _ _ => simp at hm
  | succ m ih =>
    intro A B hm oA oB r hr
    match A, B with
    | [], _ => obtain ⟨x, hx, _⟩ := hr; cases hx
    | _ :: _, [] => obtain ⟨_, _, y, hy, _⟩ := hr; cases hy
    | x :: A, y :: B =>
      simp only [List.length_cons] at hm
      have oA' := List.pairwise_cons.1 oA
      have oB' := List.pairwise_cons.1 oB
      obtain ⟨p, hp, q, hq, h1, h2⟩ := hr
      unfold bo
      rw [List.mem_append]
      by_cases hlt : x.b + x.c < y.a + y.c
      · rw [if_pos hlt]
        rcases List.mem_cons.1 hp with rfl | hp'
        · rcases List.mem_cons.1 hq with rfl | hq'
          · exact .inl (by rw [if_pos h1, h2]; exact List.mem_singleton.2 rfl)
          · have := (oB'.1 q hq').1; omega
        · exact .inr (ih _ _ (by simp only [List.length_cons]; omega) oA'.2 oB r ⟨p, hp', q, hq, h1, h2⟩)
      · rw [if_neg hlt]
        rcases List.mem_cons.1 hq with rfl | hq'
        · rcases List.mem_cons.1 hp with rfl | hp'
          · exact .inl (by rw [if_pos h1, h2]; exact List.mem_singleton.2 rfl)
          · have := (oA'.1 p hp').2; omega
        · exact .inr (ih _ _ (by simp only [List.length_cons]; omega) oA oB'.2 r ⟨p, hp, q, hq', h1, h2⟩)
theorem bo_ord : ∀ (m : Nat) (A B : List Ru), (∀ x ∈ A, 0 ≤ x.c) → (∀ y ∈ B, 0 ≤ y.c) → (A.Pairwise fun r q => r.a + r.c ≤ q.a ∧ r.b + r.c ≤ q.b) → (B.Pairwise fun r q => r.a + r.c ≤ q.a ∧ r.b + r.c ≤ q.b) → (bo m A B).Pairwise fun r q => r.a + r.c ≤ q.a ∧ r.b + r.c ≤ q.b := by
  intro m
  induction m with
  | zero => intro A B _ _ _ _; unfold bo; exact List.Pairwise.nil
  | succ m ih =>
    intro A B cA cB oA oB
    match A, B with
    | [], _ => unfold bo; exact List.Pairwise.nil
    | _ :: _, [] => unfold bo; exact List.Pairwise.nil
    | x :: A, y :: B =>
      have oA' := List.pairwise_cons.1 oA
      have oB' := List.pairwise_cons.1 oB
      have cx := cA x (List.mem_cons_self ..)
      have cy := cB y (List.mem_cons_self ..)
      have cA' : ∀ z ∈ A, 0 ≤ z.c := fun z hz => cA z (List.mem_cons_of_mem _ hz)
      have cB' : ∀ z ∈ B, 0 ≤ z.c := fun z hz => cB z (List.mem_cons_of_mem _ hz)
      unfold bo
      rw [List.pairwise_append]
      refine ⟨?_, ?_, ?_⟩
      · split
        · exact List.pairwise_singleton _ _
        · exact List.Pairwise.nil
      · split
        · exact ih _ _ cA' cB oA'.2 oB
        · exact ih _ _ cA cB' oA oB'.2
      · intro r hr q hq
        split at hr
        · next h =>
          rw [List.mem_singleton] at hr
          subst hr
          split at hq
          · obtain ⟨u, hu, v, hv, h1, rfl⟩ := bo_pr _ _ _ q hq
            have g := oA'.1 u hu
            rcases List.mem_cons.1 hv with rfl | hv'
            · simp only; omega
            · have := oB'.1 v hv'; simp only; omega
          · obtain ⟨u, hu, v, hv, h1, rfl⟩ := bo_pr _ _ _ q hq
            have g := oB'.1 v hv
            rcases List.mem_cons.1 hu with rfl | hu'
            · simp only; omega
            · have := oA'.1 u hu'; simp only; omega
        · cases hr
theorem Cov.both {κ₁ κ₂ κ : Nat → Int} {n M D m : Nat} {A B : List Ru} (hA : Cov κ₁ n M A) (hB : Cov κ₂ M D B) (hm : A.length + B.length ≤ m) (hk : ∀ i, i < n → κ i = if κ₁ i < 0 then κ₁ i else κ₂ (κ₁ i).toNat) : Cov κ n D (bo m A B) where
  ord := bo_ord m A B (fun x hx => (hA.nn x hx).2.2.1) (fun x hx => (hB.nn x hx).2.2.1) hA.ord hB.ord
  nn := by
    intro r hr
    obtain ⟨x, hx, y, hy, h1, rfl⟩ := bo_pr _ _ _ r hr
    have g := hA.nn x hx
    have g' := hB.nn y hy
    simp only
    omega
  say := by
    intro r hr j j1 j2
    obtain ⟨x, hx, y, hy, h1, rfl⟩ := bo_pr _ _ _ r hr
    have g := hA.nn x hx
    have g' := hB.nn y hy
    simp only at j1 j2 ⊢
    have e1 := hA.say x hx j (by omega) (by omega)
    have e2 := hB.say y hy (κ₁ j).toNat (by rw [e1]; omega) (by rw [e1]; omega)
    rw [hk j (by omega), if_neg (by omega), e2, e1]
    omega
  cov := by
    intro j hj h0
    rw [hk j hj] at h0
    by_cases hn : κ₁ j < 0
    · rw [if_pos hn] at h0; omega
    · rw [if_neg hn] at h0
      obtain ⟨x, hx, x1, x2⟩ := hA.cov j hj (by omega)
      have e1 := hA.say x hx j x1 x2
      have hlt := hA.lt hj (by omega)
      obtain ⟨y, hy, y1, y2⟩ := hB.cov (κ₁ j).toNat (by omega) h0
      refine ⟨_, pr_bo m A B hm hA.ord hB.ord _ ⟨x, hx, y, hy, by omega, rfl⟩, ?_⟩
      simp only
      omega
theorem bo_count : ∀ (m : Nat) (A B : List Ru), (bo m A B).length ≤ m := by
  intro m
  induction m with
  | zero => intro A B; unfold bo; exact Nat.le_refl _
  | succ m ih =>
    intro A B
    match A, B with
    | [], _ => unfold bo; simp
    | _ :: _, [] => unfold bo; simp
    | x :: A, y :: B =>
      unfold bo
      rw [List.length_append]
      have h1 := ih A (y :: B)
      have h2 := ih (x :: A) B
      split <;> split <;> simp <;> omega
end Go.Proofs.Ytdgoblapmjpcaaa.Sp
