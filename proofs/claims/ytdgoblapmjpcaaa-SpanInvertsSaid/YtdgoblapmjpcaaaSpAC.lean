/-
  Package span, plain: what edits that are undone or composed make.
-/
import Derived.Test.YtdgoblapmjpcaaaSpAB
namespace Go.Proofs.Ytdgoblapmjpcaaa.Sp
open Go.RowKit
set_option linter.unusedVariables false
set_option linter.unusedSimpArgs false
open RO

theorem nm_chk {tx : ByteArray} {n : Nat} : ∀ (R : List Ru) (fr tt : Int) (p : Option Ed), 0 ≤ fr → fr ≤ n → (∀ q, p = some q → q.f < fr ∧ q.t ≤ fr) → (R.Pairwise fun r q => r.a + r.c ≤ q.a ∧ r.b + r.c ≤ q.b) → (∀ r ∈ R, fr ≤ r.a ∧ 0 ≤ r.c ∧ r.a + r.c ≤ n) → chkL n p (nm tx n fr tt R) = 0 := by
  intro R
  have one : ∀ (fr a : Int) (x : ByteArray) (p : Option Ed) (M : List Ed), 0 ≤ fr → fr ≤ a → a ≤ n → (∀ q, p = some q → q.f < fr ∧ q.t ≤ fr) → chkL n p (⟨fr, a, x⟩ :: M) = chkL n (some ⟨fr, a, x⟩) M := by
    intro fr a x p M h0 h1 h2 hp
    conv => lhs; unfold chkL
    rw [if_pos (vld_iff.2 ⟨h0, h1, h2⟩)]
    cases p with
    | none => rfl
    | some q =>
      have := hp q rfl
      simp only
      rw [if_neg (by omega)]
  induction R with
  | nil =>
    intro fr tt p h0 h1 hp _ _
    unfold nm
    by_cases h : fr < n ∨ tt < tx.size
    · rw [ne1_yes h, one _ _ _ _ _ h0 h1 (Int.le_refl _) hp]
      rfl
    · rw [ne1_no h]
      cases p <;> rfl
  | cons r R ih =>
    intro fr tt p h0 h1 hp ho hb
    rw [List.pairwise_cons] at ho
    obtain ⟨b1, b2, b3⟩ := hb r (List.mem_cons_self ..)
    unfold nm
    by_cases e : r.c = 0
    · rw [if_pos e]
      exact ih fr tt p h0 h1 hp ho.2 (fun q hq => hb q (List.mem_cons_of_mem _ hq))
    · rw [if_neg e]
      have hI := fun p hp => ih (r.a + r.c) (r.b + r.c) p (by omega) b3 hp ho.2 (fun q hq => by
        have := hb q (List.mem_cons_of_mem _ hq)
        have := (ho.1 q hq).1
        omega)
      by_cases h : fr < r.a ∨ tt < r.b
      · rw [ne1_yes h]
        show chkL n p (⟨fr, r.a, _⟩ :: nm tx n (r.a + r.c) (r.b + r.c) R) = 0
        rw [one _ _ _ _ _ h0 b1 (by omega) hp]
        refine hI _ (fun q hq => ?_)
        injection hq with hq
        subst hq
        simp only
        omega
      · rw [ne1_no h, List.nil_append]
        exact hI p (fun q hq => by have := hp q hq; omega)
theorem ne1_len (tx : ByteArray) (fr tt : Int) (r : Ru) : (ne1 tx fr tt r).length ≤ 1 := by
  unfold ne1; split <;> simp
theorem nm_len {tx : ByteArray} {n : Int} : ∀ (R : List Ru) (fr tt : Int), (nm tx n fr tt R).length ≤ R.length + 1 := by
  intro R
  induction R with
  | nil => intro fr tt; exact ne1_len _ _ _ _
  | cons r R ih =>
    intro fr tt
    unfold nm
    split
    · have := ih fr tt; simp; omega
    · have := ih (r.a + r.c) (r.b + r.c)
      have := ne1_len tx fr tt r
      rw [List.length_append]; simp; omega
/-- What edits in normal form make of a text whose bytes are kept where the runs say so. -/
theorem nm_makes {s tx : ByteArray} {κ : Nat → Int} {R : List Ru} (h : Cov κ s.size tx.size R) (hl : R.length ≤ 4000) (hk : ∀ j v : Nat, j < s.size → κ j = v → s.data.toList[j]? = tx.data.toList[v]?) (hs : s.size ≤ 100000) (ht : tx.size ≤ 100000) : appE s.data.toList (nm tx s.size 0 0 R) = 0 ∧ appR s.data.toList (nm tx s.size 0 0 R) = tx ∧ (∀ d ∈ nm tx s.size 0 0 R, d.ok) ∧ Short (nm tx s.size 0 0 R) ∧ (nm tx s.size 0 0 R).length ≤ R.length + 1 := by
  have hn : ∀ r ∈ R, (0 : Int) ≤ r.a ∧ 0 ≤ r.c ∧ r.a + r.c ≤ (s.size : Int) := fun r hr => by have := h.nn r hr; omega
  have hm := fun d hd => nm_mem (tx := tx) (n := s.size) (d := d) R 0 0 (by omega) (by omega) h.ord hn hd
  have hlen := nm_len (tx := tx) (n := s.size) R 0 0
  have hck : chk (nm tx s.size 0 0 R) s.data.toList.length = 0 := by
    unfold chk
    rw [if_neg (by omega)]
    exact nm_chk (n := s.size) R 0 0 none (by omega) (by omega) (fun q hq => by cases hq) h.ord hn
  have hG : Good (nm tx s.size 0 0 R) s.data.toList.length := good_of hck
  have happ : app s.data.toList (nm tx s.size 0 0 R) = tx.data.toList := by
    rw [app_is hG]
    exact nm_app (s := s.data.toList) (n := s.size) rfl hk R 0 0 (by omega) (by omega) h.ord (fun r hr => by have := h.nn r hr; omega) h.say
  have hb : ¬ 1048576 < (app s.data.toList (nm tx s.size 0 0 R)).length := by rw [happ]; show ¬ 1048576 < tx.size; omega
  refine ⟨(appE_ok hck hb).1, ?_, fun d hd => ?_, fun d hd => ?_, hlen⟩
  · rw [(appE_ok hck hb).2, happ]
  · have := hm d hd
    exact ⟨⟨by omega, by omega⟩, ⟨by omega, by omega⟩, by omega⟩
  · have := hm d hd
    omega
theorem found {s : ByteArray} {L : List Ed} (hE : appE s.data.toList L = 0) (hS : Short L) {j v : Nat} (hj : j < s.size) (h : kk s.size L j = v) : (appR s.data.toList L).data.toList[v]? = s.data.toList[j]? := by
  obtain ⟨_, h1, h2, _⟩ := cov_app hE hS
  rw [h1]
  exact kk_found (s := s.data.toList) h2 hS hj h
/-- The edits that undo edits make the text again. -/
theorem inv_makes {s : ByteArray} {L : List Ed} (hE : appE s.data.toList L = 0) (hS : Short L) (hl : L.length ≤ 60) (hs : s.size ≤ 100000) (ht : (appR s.data.toList L).size ≤ 100000) : appE (appR s.data.toList L).data.toList (invL s L) = 0 ∧ appR (appR s.data.toList L).data.toList (invL s L) = s ∧ (∀ d ∈ invL s L, d.ok) ∧ Short (invL s L) ∧ (invL s L).length ≤ 62 := by
  obtain ⟨cA, hR, hG, _⟩ := cov_app hE hS
  have cB := cov_bk cA
  have hi : invL s L = nm s (appR s.data.toList L).size 0 0 ((rg s.size true 0 0 L).map sw) := by unfold invL; rw [if_pos hE]
  have hcnt := rg_count s.size L true 0 0
  have hlt := cA.top
  obtain ⟨h1, h2, h3, h4, h5⟩ := nm_makes (s := appR s.data.toList L) (tx := s) cB (by rw [List.length_map]; omega) (fun j v hj e => by
    rcases bk_char (kk s.size L) (appR s.data.toList L).size s.size hlt j hj with ⟨g1, _⟩ | ⟨i, g1, g2, g3⟩
    · rw [bk_get g1] at e; omega
    · rw [bk_get g3] at e
      obtain rfl : i = v := by omega
      exact found hE hS g1 g2) ht hs
  rw [hi]
  refine ⟨h1, h2, h3, h4, ?_⟩
  rw [List.length_map] at h5
  omega
/-- What is composed makes at once what two lists of edits make one after the other. -/
theorem cmp_makes {s : ByteArray} {A B : List Ed} (h1 : appE s.data.toList A = 0) (h2 : appE (appR s.data.toList A).data.toList B = 0) (hA : Short A) (hB : Short B) (lA : A.length ≤ 60) (lB : B.length ≤ 62) (hs : s.size ≤ 100000) (ht : (appR (appR s.data.toList A).data.toList B).size ≤ 100000) : appE s.data.toList (cmpL s A B) = 0 ∧ appR s.data.toList (cmpL s A B) = appR (appR s.data.toList A).data.toList B ∧ (∀ d ∈ cmpL s A B, d.ok) ∧ Short (cmpL s A B) := by
  have cC := cov_both h1 h2 hA hB
  have hce : cmpE s A B = 0 := by unfold cmpE; rw [if_pos h1, h2]
  have hcl : cmpL s A B = nm (appR (appR s.data.toList A).data.toList B) s.size 0 0 (bth s A B) := by unfold cmpL; rw [if_pos hce]
  have n1 := rg_count s.size A true 0 0
  have n2 := rg_count (appR s.data.toList A).size B true 0 0
  have n3 : (bth s A B).length ≤ 130 := by
    have := bo_count ((rg s.size true 0 0 A).length + (rg (appR s.data.toList A).size true 0 0 B).length) (rg s.size true 0 0 A) (rg (appR s.data.toList A).size true 0 0 B)
    unfold bth; omega
  have cA := (cov_app h1 hA).1
  obtain ⟨g1, g2, g3, g4, _⟩ := nm_makes cC (by omega) (fun j v hj e => by
    unfold kk2 at e
    by_cases hn : kk s.size A j < 0
    · rw [if_pos hn] at e; omega
    · rw [if_neg hn] at e
      have hz : kk s.size A j = ((kk s.size A j).toNat : Nat) := by omega
      have hlt := cA.lt hj (by omega)
      rw [found h2 hB (by omega) e, found h1 hA hj hz]) hs ht
  rw [hcl]
  exact ⟨g1, g2, g3, g4⟩
theorem dlt_le {S : Int} : ∀ (L : List Ed) (a : Int), Fit S a L → (∀ d ∈ L, d.x.size ≤ 300) → dlt L ≤ 300 * L.length := by
  intro L
  induction L with
  | nil => intro a _ _; exact Int.le_refl _
  | cons d L ih =>
    intro a h hx
    obtain ⟨h1, h2, h3, _, h5⟩ := h
    have := ih _ h5 (fun q hq => hx q (List.mem_cons_of_mem _ hq))
    have := hx d (List.mem_cons_self ..)
    simp only [dlt, List.length_cons]
    omega
theorem app_small {s : ByteArray} {L : List Ed} (hE : appE s.data.toList L = 0) (hl : L.length ≤ 60) (hx : ∀ d ∈ L, d.x.size ≤ 300) : (appR s.data.toList L).size ≤ s.size + 18000 := by
  have hS : Short L := fun d hd => by have := hx d hd; omega
  obtain ⟨_, hR, hG, _⟩ := cov_app hE hS
  have h1 := app_len (s := s.data.toList) hG hS
  have h2 := dlt_le L 0 (fit_of hG hS) hx
  have h3 : (appR s.data.toList L).size = (app s.data.toList L).length := by rw [← hR]; rfl
  have h4 : s.data.toList.length = s.size := rfl
  omega
end Go.Proofs.Ytdgoblapmjpcaaa.Sp
