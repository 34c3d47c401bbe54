/-
  Contracts of package span: runs of preserved bytes.
-/
import Derived.Test.YtdgoblapmjpcaaaSpE
import Derived.Test.YtdgoblapmjpcaaaRowCut
namespace Go.Proofs.Ytdgoblapmjpcaaa.Sp
open Go.RowKit
set_option linter.unusedVariables false
set_option linter.unusedSimpArgs false
open RO

/-- A run: from, to, size. -/
structure Ru where
  a : Int
  b : Int
  c : Int
instance : Inhabited Ru := ⟨⟨0, 0, 0⟩⟩
def rc (r : Ru) : List Value := [.int .i64 r.a, .int .i64 r.b, .int .i64 r.c]
theorem rc_len (r : Ru) : (rc r).length = 3 := rfl
theorem rc_one (r : Ru) : ∀ u ∈ rc r, u.oneCell' = true := by
  intro u hu
  simp [rc] at hu
  rcases hu with rfl | rfl | rfl <;> rfl
theorem info_run : (Try.prog.info? 66).map (fun i => (i.zero, i.size, i.bytes)) = some (some (.agg #[.int .i64 0, .int .i64 0, .int .i64 0]), 3, 24) := by kernel_rfl
theorem info_edit : (Try.prog.info? 50).map (fun i => (i.zero, i.size, i.bytes)) = some (some (.agg #[.int .i64 0, .int .i64 0, .string ⟨#[]⟩]), 3, 32) := by kernel_rfl
/-- How many edits at the beginning have no byte between them. -/
def tch : List Ed → Nat
  | [] => 0
  | [_] => 1
  | d :: q :: L => if q.f = d.t then tch (q :: L) + 1 else 1
theorem tch_pos {L : List Ed} (h : L ≠ []) : 1 ≤ tch L := by
  match L, h with
  | [_], _ => exact Nat.le_refl _
  | d :: q :: L, _ => unfold tch; split <;> omega
theorem tch_le (L : List Ed) : tch L ≤ L.length := by
  match L with
  | [] => exact Nat.le_refl _
  | [_] => exact Nat.le_refl _
  | d :: q :: L =>
    have := tch_le (q :: L)
    unfold tch
    split
    · simp at this ⊢; omega
    · simp
/-- Walking along edits that touch. -/
theorem tch_is {L : List Ed} {m : Nat} (h1 : 1 ≤ m) (h2 : m ≤ L.length) (hall : ∀ j, 1 ≤ j → j < m → ∀ d q, L[j - 1]? = some d → L[j]? = some q → q.f = d.t) (hend : m < L.length → ∀ d q, L[m - 1]? = some d → L[m]? = some q → q.f ≠ d.t) : tch L = m := by
  induction m generalizing L with
  | zero => omega
  | succ m ih =>
    match L, h2 with
    | [d], h2 =>
      have : m = 0 := by simpa using h2
      subst this; rfl
    | d :: q :: L, h2 =>
      unfold tch
      rcases Nat.eq_zero_or_pos m with h0 | h0
      · subst h0
        rw [if_neg (hend (by simp) d q rfl rfl)]
      · rw [if_pos (hall 1 (by omega) (by omega) d q rfl rfl)]
        rw [ih (L := q :: L) (by omega) (by simpa using h2) (fun j j1 j2 x y hx hy => hall (j + 1) (by omega) (by omega) x y (by
            rw [show j + 1 - 1 = j - 1 + 1 by omega]; simpa using hx) (by simpa using hy)) (fun hm x y hx hy => hend (by simpa using hm) x y (by rw [show m + 1 - 1 = m - 1 + 1 by omega]; simpa using hx) (by simpa using hy))]
set_option maxRecDepth 100000 in
set_option maxHeartbeats 2000000 in
theorem touching_any (v : Value) (L : List Ed) (w : World) (hv : Es w w.heap.size v L) (hL : ∀ d ∈ L, d.ok) (h0 : L ≠ []) (h4 : L.length ≤ 4096) : Calls Try.prog 39 #[v] w fun e w' => e = .returned (.int .i64 (tch L)) ∧ ∃ n, w' = w.drewN n := by
  obtain ⟨n, hn⟩ : ∃ n, L.length = n := ⟨_, rfl⟩
  have hn0 : 0 < n := by rw [← hn]; exact List.length_pos_iff.2 h0
  obtain ⟨g, o, cap, rfl, hg, hcap, hcap9, hcell⟩ := Es.at_ hv hn hn0
  have HC := Lib.hid hcell
  have HN := Lib.hid hn
  have HOK := Lib.hid hL
  have hn4 : n ≤ 4096 := by omega
  clear hcell hn hL hv h0 h4
  go_enter Try.func39, Try.ntmps39
  go_wp2
  go_loopw [3] (fun i wr => ∃ m : Nat, 1 ≤ m ∧ m ≤ n ∧ i = .int .i64 m ∧ Hid (∀ j, 1 ≤ j → j < m → ∀ d q, L[j - 1]? = some d → L[j]? = some q → q.f = d.t) ∧ ∃ c, wr = w.drewN c) (fun i _ => n - (intOf i).toNat)
  case atStart => exact ⟨1, by omega, by omega, rfl, Lib.hid fun j j1 j2 => by omega, 0, rfl⟩
  case round =>
    obtain ⟨m, hm1, hmn, rfl, HA, dn, rfl⟩ := hrel
    have s1 : IntKind.i64.wrap ((m : Int) - 1) = (m : Int) - 1 := IntWalk.i64_in _ (by omega)
    have s2 : (0 : Int) ≤ (m : Int) - 1 := by omega
    have s3 : ((m : Int) - 1).toNat = m - 1 := by omega
    have s4 : (m : Int) - 1 < (n : Int) := by omega
    have s5 : (0 : Int) ≤ (m : Int) := by omega
    by_cases hlt : m < n
    · obtain ⟨d, hd⟩ := get_in HN.out (show m - 1 < n by omega)
      obtain ⟨q, hq⟩ := get_in HN.out hlt
      obtain ⟨_, c1, _⟩ := HC.out _ _ hd
      obtain ⟨c2, _, _⟩ := HC.out _ _ hq
      have hdm := decide_eq_true (show (m : Int) < (n : Int) by omega)
      have s6 : (m : Int) < (n : Int) := by omega
      have HD := Lib.hid hd
      have HQ := Lib.hid hq
      clear hd hq
      by_cases he : q.f = d.t
      · have hb : (q.f == d.t) = true := by rw [beq_iff_eq]; exact he
        have HA2 : Hid (∀ j, 1 ≤ j → j < m + 1 → ∀ d q, L[j - 1]? = some d → L[j]? = some q → q.f = d.t) := Lib.hid fun j j1 j2 d' q' hd' hq' => by
          by_cases e : j = m
          · subst e
            rw [HD.out] at hd'
            rw [HQ.out] at hq'
            obtain rfl := Option.some.inj hd'
            obtain rfl := Option.some.inj hq'
            exact he
          · exact HA.out j j1 (by omega) d' q' hd' hq'
        clear he
        go_wp2
        go_quiet (fail)
        go_wp2
        exact ⟨⟨m + 1, by omega, by omega, by go_num, HA2, _, rfl⟩, by simp [intOf]; omega⟩
      · have hb : (q.f == d.t) = false := by rw [beq_eq_false_iff_ne]; exact he
        have HT : Hid ((tch L : Int) = (m : Int)) := Lib.hid (by
          rw [tch_is hm1 (by rw [HN.out]; omega) HA.out (fun _ d' q' hd' hq' => by
            rw [HD.out] at hd'
            rw [HQ.out] at hq'
            obtain rfl := Option.some.inj hd'
            obtain rfl := Option.some.inj hq'
            exact he)])
        clear he
        go_wp2
        go_quiet (fail)
        go_wp2
        go_ret
        exact ⟨ret_int HT.out.symm, _, World.drewN_drewN _ _ _⟩
    · have hdm := decide_eq_false (show ¬ (m : Int) < (n : Int) by omega)
      have HT : Hid ((tch L : Int) = (m : Int)) := Lib.hid (by
        rw [tch_is hm1 (by rw [HN.out]; omega) HA.out (fun h => by rw [HN.out] at h; omega)])
      go_wp2
      go_quiet (fail)
      go_wp2
      go_ret
      exact ⟨ret_int HT.out.symm, _, World.drewN_drewN _ _ _⟩
/-- The runs of preserved bytes; first: behind a group. -/
def rg (size : Int) : Bool → Int → Int → List Ed → List Ru
  | _, fr, to, [] => [⟨fr, to, size - fr⟩]
  | b, fr, to, d :: L => if (b || decide (d.f ≠ fr)) = true then ⟨fr, to, d.f - fr⟩ :: rg size false d.t (to + (d.f - fr) + d.x.size) L else rg size false d.t (to + d.x.size) L
def sumx (L : List Ed) : Int := (L.map fun d => (d.x.size : Int)).sum
theorem sumx_app (a b : List Ed) : sumx (a ++ b) = sumx a + sumx b := by unfold sumx; rw [List.map_append, List.sum_append]
theorem sumx_cons (d : Ed) (b : List Ed) : sumx (d :: b) = d.x.size + sumx b := by unfold sumx; simp
/-- Behind a group, the runs are those of what follows, whichever way they are asked for. -/
theorem rg_touch (size : Int) : ∀ (L : List Ed) (d : Ed) (to : Int), rg size false d.t to L = rg size true ((d :: L).getD (tch (d :: L) - 1) default).t (to + sumx ((d :: L).take (tch (d :: L))) - d.x.size) ((d :: L).drop (tch (d :: L))) := by
  intro L
  induction L with
  | nil =>
    intro d to
    show rg size false d.t to [] = rg size true d.t (to + sumx [d] - d.x.size) []
    have : sumx [d] = d.x.size := by simp [sumx]
    rw [this, show to + (d.x.size : Int) - d.x.size = to by omega]
    rfl
  | cons q L ih =>
    intro d to
    unfold tch
    by_cases h : q.f = d.t
    · rw [if_pos h]
      have e1 : rg size false d.t to (q :: L) = rg size false q.t (to + q.x.size) L := by
        conv => lhs; unfold rg
        rw [if_neg (by simp [h])]
      rw [e1, ih q (to + q.x.size)]
      have hp := tch_pos (L := q :: L) (by simp)
      obtain ⟨m, hm⟩ : ∃ m, tch (q :: L) = m + 1 := ⟨tch (q :: L) - 1, by omega⟩
      rw [hm]
      simp only [Nat.add_sub_cancel, List.take_succ_cons, List.drop_succ_cons, List.getD_cons_succ]
      congr 1
      rw [sumx_cons, sumx_cons, sumx_cons]; omega
    · rw [if_neg h]
      show rg size false d.t to (q :: L) = rg size true d.t (to + sumx [d] - d.x.size) (q :: L)
      have : sumx [d] = d.x.size := by simp [sumx]
      rw [this, show to + (d.x.size : Int) - d.x.size = to by omega]
      conv => lhs; unfold rg
      conv => rhs; unfold rg
      rw [if_pos (by simp [h]), if_pos (by simp)]
/-- A group of runs. -/
theorem rg_group (size fr to : Int) {L : List Ed} {d : Ed} (h : L[0]? = some d) : rg size true fr to L = ⟨fr, to, d.f - fr⟩ :: rg size true ((L.getD (tch L - 1) default).t) (to + (d.f - fr) + sumx (L.take (tch L))) (L.drop (tch L)) := by
  match L, h with
  | e :: L, h =>
    obtain rfl : e = d := by simpa using h
    conv => lhs; unfold rg
    rw [if_pos (by simp), rg_touch]
    congr 2
    omega
end Go.Proofs.Ytdgoblapmjpcaaa.Sp
