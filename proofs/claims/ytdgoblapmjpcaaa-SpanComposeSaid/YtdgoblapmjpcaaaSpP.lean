/-
  Package span: where edits move an offset.
-/
import Derived.Test.YtdgoblapmjpcaaaSpO
namespace Go.Proofs.Ytdgoblapmjpcaaa.Sp
open Go.RowKit
set_option linter.unusedVariables false
set_option linter.unusedSimpArgs false
open RO

def mvL (x : Int) : Int → List Ed → Int × Bool
  | by_, [] => (x + by_, true)
  | by_, d :: L => if x < d.f then (x + by_, true) else if x < d.t then (d.f + by_, false) else mvL x (by_ + (d.x.size - (d.t - d.f))) L
def mv (L : List Ed) (x : Int) : Int × Bool := if x < 0 then (0, false) else mvL x 0 L
def tl (s : List UInt8) : Int → List Ed → List UInt8
  | a, [] => s.drop a.toNat
  | a, d :: L => (s.drop a.toNat).take (d.f.toNat - a.toNat) ++ (d.x.data.toList ++ tl s d.t L)
theorem app_tl {s : List UInt8} {L : List Ed} (hG : Good L s.length) : ∀ (m k : Nat), k + m = L.length → app s L = pre s L k ++ tl s (atk L k) (L.drop k) := by
  intro m
  induction m with
  | zero =>
    intro k hk
    obtain rfl : k = L.length := by omega
    rw [List.drop_length]
    rfl
  | succ m ih =>
    intro k hk
    obtain ⟨d, hd⟩ : ∃ d, L[k]? = some d := ⟨L[k]'(by omega), List.getElem?_eq_getElem _⟩
    obtain ⟨h1, h2, h3, h4⟩ := hG.2 k d hd
    rw [ih (k + 1) (by omega), pre_succ hd, drop_get hd, atk_succ hd, show ((d.t.toNat : Nat) : Int) = d.t by omega]
    simp only [tl, Int.toNat_natCast, List.append_assoc]
theorem mv_get {s : List UInt8} {x : Int} {y : Nat} (hx : x = y) (hy : y < s.length) : ∀ (L : List Ed) (a b K : Int), Fit s.length a L → a ≤ x → mvL x b L = (K, true) → 0 ≤ K - (a + b) ∧ (tl s a L)[(K - (a + b)).toNat]? = s[y]? := by
  intro L
  induction L with
  | nil =>
    intro a b K hF ha hm
    have hf := Fit.le hF
    simp only [mvL, Prod.mk.injEq, and_true] at hm
    subst hm
    refine ⟨by omega, ?_⟩
    simp only [tl]
    rw [List.getElem?_drop]
    congr 1
    omega
  | cons d L ih =>
    intro a b K hF ha hm
    obtain ⟨h1, h2, h3, h4, h5⟩ := hF
    have hf := Fit.le h5
    unfold mvL at hm
    by_cases c1 : x < d.f
    · rw [if_pos c1] at hm
      simp only [Prod.mk.injEq, and_true] at hm
      subst hm
      refine ⟨by omega, ?_⟩
      simp only [tl]
      rw [List.getElem?_append_left (by simp; omega), List.getElem?_take_of_lt (by omega), List.getElem?_drop]
      congr 1
      omega
    · rw [if_neg c1] at hm
      by_cases c2 : x < d.t
      · rw [if_pos c2] at hm
        simp at hm
      · rw [if_neg c2] at hm
        obtain ⟨i1, i2⟩ := ih d.t _ K h5 (by omega) hm
        have hxl : d.x.data.toList.length = d.x.size := rfl
        have hl1 : ((s.drop a.toNat).take (d.f.toNat - a.toNat)).length = d.f.toNat - a.toNat := by simp; omega
        refine ⟨by omega, ?_⟩
        simp only [tl]
        rw [List.getElem?_append_right (by omega), List.getElem?_append_right (by omega), hl1, hxl, ← i2]
        congr 1
        omega
theorem mv_end {L : List Ed} {k : Nat} {x b : Int} (h : L.length ≤ k) : mvL x b (L.drop k) = (x + b, true) := by
  rw [List.drop_eq_nil_of_le h]; rfl
theorem mv_at {L : List Ed} {k : Nat} {x b : Int} {d : Ed} (h : L[k]? = some d) : mvL x b (L.drop k) = if x < d.f then (x + b, true) else if x < d.t then (d.f + b, false) else mvL x (b + (d.x.size - (d.t - d.f))) (L.drop (k + 1)) := by
  rw [drop_get h]; rfl
/-- Short lists of short edits that lie in a short text. -/
def Sml (L : List Ed) : Prop := L.length ≤ 60 ∧ ∀ (k : Nat) (d : Ed), L[k]? = some d → 0 ≤ d.f ∧ d.f ≤ 300 ∧ 0 ≤ d.t ∧ d.t ≤ 300 ∧ d.x.size ≤ 300
set_option maxRecDepth 100000 in
set_option maxHeartbeats 8000000 in
theorem move_any (v : Value) (L : List Ed) (x : Int) (w : World) (hv : Es w w.heap.size v L) (hS : Sml L) (hx : -9223372036854775808 ≤ x ∧ x ≤ 1000000) : Calls Try.prog 25 #[v, .int .i64 x] w fun e w' => e = .returned (.tuple #[.int .i64 (mv L x).1, .bool (mv L x).2]) ∧ Below w.heap.size w w' := by
  obtain ⟨n, hn⟩ : ∃ n, L.length = n := ⟨_, rfl⟩
  have hln := Rd.run_len Try.underlying22 hv hn
  have hn60 : n ≤ 60 := by have := hS.1; omega
  obtain ⟨R, hR⟩ : ∃ R, mv L x = R := ⟨_, rfl⟩
  rw [hR]
  have HN := Lib.hid hn
  have HSM := Lib.hid hS.2
  have HC : Hid (∀ wr, Below w.heap.size w wr → ∀ k, k < n → ∃ (g o cap : Nat) (d : Ed), v = .slice (some ⟨g, o, none⟩) n cap ∧ n ≤ cap ∧ L[k]? = some d ∧ g < w.heap.size ∧ wr.cell? ⟨g, o + k * 3, none⟩ = some (.int .i64 d.f) ∧ wr.cell? ⟨g, o + k * 3 + 1, none⟩ = some (.int .i64 d.t) ∧ wr.cell? ⟨g, o + k * 3 + 2, none⟩ = some (.string d.x)) := Lib.hid (by
    intro wr hb k hk
    obtain ⟨g, o, cap, hvv, hg, hc, _, hcell⟩ := hv.at_ hn (by omega)
    obtain ⟨d, hd⟩ := get_in hn hk
    obtain ⟨e0, e1, e2⟩ := hcell k d hd
    exact ⟨g, o, cap, d, hvv, hc, hd, hg, (hb.cell (p := ⟨g, o + k * 3, none⟩) hg).trans e0, (hb.cell (p := ⟨g, o + k * 3 + 1, none⟩) hg).trans e1, (hb.cell (p := ⟨g, o + k * 3 + 2, none⟩) hg).trans e2⟩)
  clear hv hS
  by_cases hneg : x < 0
  · have hr : R = (0, false) := by rw [← hR]; exact if_pos hneg
    subst hr
    clear hR
    go_enter Try.func25, Try.ntmps25
    go_wp2
    go_ret2
    exact ⟨rfl, Below.refl _ _⟩
  have HX : Hid (R = mvL x 0 (L.drop 0)) := Lib.hid (by rw [← hR]; exact if_neg hneg)
  clear hR hn
  go_enter Try.func25, Try.ntmps25
  go_wp2
  go_loopw [6, 13] (fun b i wr => ∃ (k : Nat) (y : Int), k ≤ n ∧ i = .int .i64 k ∧ b = .int .i64 y ∧ -600 * (k : Int) ≤ y ∧ y ≤ 600 * (k : Int) ∧ Below w.heap.size w wr ∧ w.heap.size ≤ wr.heap.size ∧ Hid (R = mvL x y (L.drop k))) (fun _ i _ => n - (intOf i).toNat)
  case atStart => exact ⟨0, 0, by omega, rfl, rfl, by omega, by omega, Below.refl _ _, Nat.le_refl _, HX⟩
  case round =>
    obtain ⟨k, y, hk, rfl, rfl, hy1, hy2, hb, hbs, HX⟩ := hrel
    by_cases hlt : k < n
    · obtain ⟨g, o, cap, d, rfl, hcap, hd, hg, c0, c1, c2⟩ := HC.out wr hb k hlt
      obtain ⟨s1, s2, s3, s4, s5⟩ := HSM.out k d hd
      have hstep := HX.out
      rw [mv_at hd] at hstep
      obtain ⟨f, t, tx⟩ := d
      simp only at s1 s2 s3 s4 s5 c0 c1 c2 hstep
      obtain ⟨z, hz⟩ : ∃ z : Nat, tx.size = z := ⟨_, rfl⟩
      rw [hz] at s5 hstep
      have hgl : g < wr.heap.size := by omega
      by_cases h1 : x < f
      · rw [if_pos h1] at hstep
        have HR := Lib.hid hstep
        clear hstep hd
        go_wp2
        go_ret2
        exact ⟨by rw [HR.out]; rfl, (hb.alloc hbs _)⟩
      · rw [if_neg h1] at hstep
        by_cases h2 : x < t
        · rw [if_pos h2] at hstep
          have HR := Lib.hid hstep
          clear hstep hd
          go_wp2
          go_ret2
          exact ⟨by rw [HR.out]; rfl, (hb.alloc hbs _)⟩
        · rw [if_neg h2] at hstep
          have HR := Lib.hid hstep
          clear hstep hd
          go_wp2
          exact ⟨⟨k + 1, y + ((z : Int) - (t - f)), by omega, by go_num, rfl, by omega, by omega, hb.alloc hbs _, by simp; omega, HR⟩, by simp [intOf]; omega⟩
    · have hstep := HX.out
      rw [mv_end (by rw [HN.out]; omega)] at hstep
      have HR := Lib.hid hstep
      clear hstep
      go_wp2
      go_ret2
      exact ⟨by rw [HR.out]; rfl, hb⟩
end Go.Proofs.Ytdgoblapmjpcaaa.Sp
