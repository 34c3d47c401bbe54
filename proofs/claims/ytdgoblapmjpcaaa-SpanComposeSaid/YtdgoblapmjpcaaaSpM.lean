/-
  Package span: the single edit between two texts.
-/
import Derived.Test.YtdgoblapmjpcaaaSpL
namespace Go.Proofs.Ytdgoblapmjpcaaa.Sp
open Go.RowKit
set_option linter.unusedVariables false
set_option linter.unusedSimpArgs false
open RO

theorem at_some {s : ByteArray} {k : Nat} (h : k < s.size) : s.data.toList[k]? = some s[k] := by
  rw [List.getElem?_eq_getElem (by simpa using h)]; rfl
def Pf (A B : List UInt8) (p : Nat) : Prop := p ≤ A.length ∧ p ≤ B.length ∧ ∀ j, j < p → A[j]? = B[j]?
def Pm (A B : List UInt8) (p : Nat) : Prop := Pf A B p ∧ (p < A.length → p < B.length → A[p]? ≠ B[p]?)
def Sf (A B : List UInt8) (p s : Nat) : Prop := s ≤ A.length - p ∧ s ≤ B.length - p ∧ ∀ j, j < s → A[A.length - 1 - j]? = B[B.length - 1 - j]?
def Sq (A B : List UInt8) (p s : Nat) : Prop := Sf A B p s ∧ (s < A.length - p → s < B.length - p → A[A.length - 1 - s]? ≠ B[B.length - 1 - s]?)
theorem pm_one {A B : List UInt8} {p q : Nat} (h : Pm A B p) (k : Pm A B q) : p = q := by
  obtain ⟨⟨h1, h2, h3⟩, h4⟩ := h
  obtain ⟨⟨k1, k2, k3⟩, k4⟩ := k
  rcases Nat.lt_trichotomy p q with e | e | e
  · exact absurd (k3 p e) (h4 (by omega) (by omega))
  · exact e
  · exact absurd (h3 q e) (k4 (by omega) (by omega))
theorem sq_one {A B : List UInt8} {r p q : Nat} (h : Sq A B r p) (k : Sq A B r q) : p = q := by
  obtain ⟨⟨h1, h2, h3⟩, h4⟩ := h
  obtain ⟨⟨k1, k2, k3⟩, k4⟩ := k
  rcases Nat.lt_trichotomy p q with e | e | e
  · exact absurd (k3 p e) (h4 (by omega) (by omega))
  · exact e
  · exact absurd (h3 q e) (k4 (by omega) (by omega))
theorem pf_next {A B : List UInt8} {p : Nat} (h : Pf A B p) (ha : p < A.length) (hb : p < B.length) (he : A[p]? = B[p]?) : Pf A B (p + 1) := by
  obtain ⟨h1, h2, h3⟩ := h
  refine ⟨by omega, by omega, fun j hj => ?_⟩
  rcases Nat.lt_or_ge j p with e | e
  · exact h3 j e
  · obtain rfl : j = p := by omega
    exact he
theorem sf_next {A B : List UInt8} {r p : Nat} (h : Sf A B r p) (ha : p < A.length - r) (hb : p < B.length - r) (he : A[A.length - 1 - p]? = B[B.length - 1 - p]?) : Sf A B r (p + 1) := by
  obtain ⟨h1, h2, h3⟩ := h
  refine ⟨by omega, by omega, fun j hj => ?_⟩
  rcases Nat.lt_or_ge j p with e | e
  · exact h3 j e
  · obtain rfl : j = p := by omega
    exact he
theorem pm_make {A B : List UInt8} {p : Nat} (h : Pf A B p) : ∃ b : Bool, True := ⟨true, trivial⟩
def SgPost (a b : ByteArray) (w : World) (e : Ending) (w' : World) : Prop := ∃ p s : Nat, Pm a.data.toList b.data.toList p ∧ Sq a.data.toList b.data.toList p s ∧ e = .returned (.agg #[.int .i64 p, .int .i64 (a.size - s : Nat), .string (b.extract p (b.size - s))]) ∧ Below w.heap.size w w'
set_option maxRecDepth 100000 in
set_option maxHeartbeats 8000000 in
theorem single_any (a b : ByteArray) (w : World) (ha : a.size ≤ 2000) (hb : b.size ≤ 2000) : Calls Try.prog 27 #[.string a, .string b] w (SgPost a b w) := by
  obtain ⟨n, hn⟩ : ∃ n, n = min a.size b.size := ⟨_, rfl⟩
  have hn1 : n ≤ a.size := by omega
  have hn2 : n ≤ b.size := by omega
  have hn3 : a.size ≤ n ∨ b.size ≤ n := by omega
  have HN := Lib.hid (show min (a.size : Int) (b.size : Int) = (n : Int) by omega)
  clear hn
  have hA : a.data.toList.length = a.size := rfl
  have hB : b.data.toList.length = b.size := rfl
  go_enter Try.func27, Try.ntmps27
  go_wp2
  rw [HN.out]
  go_loopw [6] (fun i wr => ∃ p m : Nat, i = .int .i64 p ∧ wr = (w.alloc (.cells #[.int .i64 0, .int .i64 0, .string ⟨#[]⟩] 50)).drewN m ∧ Hid (Pf a.data.toList b.data.toList p)) (fun i _ => n - (intOf i).toNat)
  case atStart => exact ⟨0, 0, rfl, rfl, Lib.hid ⟨by omega, by omega, fun j hj => by omega⟩⟩
  case round =>
    obtain ⟨p, m, rfl, rfl, HP⟩ := hrel
    have hp := HP.out
    obtain ⟨hp1, hp2, hp3⟩ := hp
    by_cases h1 : p < n
    · have h2 : p < a.size := by omega
      have h3 : p < b.size := by omega
      by_cases h4 : a[p] = b[p]
      · have h5 : ((a[p].toNat : Int) == (b[p].toNat : Int)) = true := by rw [h4]; simp
        have HP2 : Hid (Pf a.data.toList b.data.toList (p + 1)) := Lib.hid (pf_next HP.out h2 h3 (by rw [at_some h2, at_some h3, h4]))
        clear hp3
        go_wp2
        go_quiet (fail)
        go_wp2
        exact ⟨⟨p + 1, _, by go_num, rfl, HP2⟩, by simp [intOf]; omega⟩
      · have h5 : ((a[p].toNat : Int) == (b[p].toNat : Int)) = false := by
          rw [beq_eq_false_iff_ne]; intro h; exact h4 (UInt8.toNat_inj.1 (by omega))
        have HPM : Pm a.data.toList b.data.toList p := ⟨HP.out, fun _ _ h => by rw [at_some h2, at_some h3] at h; exact h4 (Option.some.inj h)⟩
        clear hp3
        have HM : Hid (Pm a.data.toList b.data.toList p) := Lib.hid HPM
        clear HPM
        have hpn : p ≤ n := by omega
        obtain ⟨q, hq⟩ : ∃ q : Nat, n - p = q := ⟨_, rfl⟩
        have hqi : (n : Int) - (p : Int) = (q : Int) := by omega
        go_wp2
        go_quiet (fail)
        go_wp2
        go_loopw [7] (fun i wr => ∃ e m : Nat, e ≤ q ∧ i = .int .i64 e ∧ wr = (w.alloc (.cells #[.int .i64 0, .int .i64 0, .string ⟨#[]⟩] 50)).drewN m ∧ Hid (Sf a.data.toList b.data.toList p e)) (fun i _ => n - (intOf i).toNat)
        case atStart => exact ⟨0, _, by omega, rfl, by first | rfl | exact World.drewN_drewN _ _ _, Lib.hid ⟨by omega, by omega, fun j hj => by omega⟩⟩
        case round =>
          obtain ⟨e, m, he, rfl, rfl, HS⟩ := hrel
          by_cases k1 : e < q
          · obtain ⟨x, hx⟩ : ∃ x : Nat, a.size - 1 - e = x := ⟨_, rfl⟩
            obtain ⟨y, hy⟩ : ∃ y : Nat, b.size - 1 - e = y := ⟨_, rfl⟩
            have hxi : (a.size : Int) - 1 - (e : Int) = (x : Int) := by omega
            have hyi : (b.size : Int) - 1 - (e : Int) = (y : Int) := by omega
            have k2 : x < a.size := by omega
            have k3 : y < b.size := by omega
            have ka : a.data.toList[a.data.toList.length - 1 - e]? = some a[x] := by rw [hA, hx]; exact at_some k2
            have kb : b.data.toList[b.data.toList.length - 1 - e]? = some b[y] := by rw [hB, hy]; exact at_some k3
            by_cases k4 : a[x] = b[y]
            · have k5 : ((a[x].toNat : Int) == (b[y].toNat : Int)) = true := by rw [k4]; simp
              have HS2 : Hid (Sf a.data.toList b.data.toList p (e + 1)) := Lib.hid (sf_next HS.out (by omega) (by omega) (by rw [ka, kb, k4]))
              clear ka kb hx hy
              go_wp2
              go_quiet (fail)
              go_wp2
              exact ⟨⟨e + 1, _, by omega, by go_num, rfl, HS2⟩, by simp [intOf]; omega⟩
            · have k5 : ((a[x].toNat : Int) == (b[y].toNat : Int)) = false := by
                rw [beq_eq_false_iff_ne]; intro h; exact k4 (UInt8.toNat_inj.1 (by omega))
              have HQ : Hid (Sq a.data.toList b.data.toList p e) := Lib.hid ⟨HS.out, fun _ _ h => by rw [ka, kb] at h; exact k4 (Option.some.inj h)⟩
              clear ka kb hx hy
              go_wp2
              go_quiet (fail)
              have hes := HQ.out.1
              have hz1 : p + e ≤ a.size := by have := hes.1; omega
              have hz2 : p + e ≤ b.size := by have := hes.2.1; omega
              obtain ⟨y2, hy2⟩ : ∃ y2 : Nat, b.size - e = y2 := ⟨_, rfl⟩
              obtain ⟨x2, hx2⟩ : ∃ x2 : Nat, a.size - e = x2 := ⟨_, rfl⟩
              have hyi2 : (b.size : Int) - (e : Int) = (y2 : Int) := by omega
              have hxi2 : (a.size : Int) - (e : Int) = (x2 : Int) := by omega
              have hyp : p ≤ y2 := by omega
              have hyb : y2 ≤ b.size := by omega
              clear hes
              go_wp2
              have hb0 : Below w.heap.size w ((w.alloc (.cells #[.int .i64 0, .int .i64 0, .string ⟨#[]⟩] 50)).drewN (m + nq)) := below_N ((Below.refl _ _).alloc (Nat.le_refl _) _) _
              have hbl := ((hb0.setCell (p := ⟨w.heap.size, 0, none⟩) (Nat.le_refl _) (.int .i64 p)).setCell (p := ⟨w.heap.size, 1, none⟩) (Nat.le_refl _) (.int .i64 x2)).setCell (p := ⟨w.heap.size, 2, none⟩) (Nat.le_refl _) (.string (b.extract p y2))
              try simp only [Exit.inBlock, Exit.then]
              refine bodyPost_ret (v := .agg #[.int .i64 p, .int .i64 x2, .string (b.extract p y2)]) ?_ rfl ⟨p, e, HM.out, HQ.out, by rw [hx2, hy2], hbl⟩
              have hres : Try.f27.results = #[.cell 4 50] := by kernel_rfl
              simp only [results, hres]
              go_simp
          · have HQ : Hid (Sq a.data.toList b.data.toList p e) := Lib.hid ⟨HS.out, fun _ _ _ => by omega⟩
            go_wp2
            go_quiet (fail)
            have hes := HQ.out.1
            have hz1 : p + e ≤ a.size := by have := hes.1; omega
            have hz2 : p + e ≤ b.size := by have := hes.2.1; omega
            obtain ⟨y2, hy2⟩ : ∃ y2 : Nat, b.size - e = y2 := ⟨_, rfl⟩
            obtain ⟨x2, hx2⟩ : ∃ x2 : Nat, a.size - e = x2 := ⟨_, rfl⟩
            have hyi2 : (b.size : Int) - (e : Int) = (y2 : Int) := by omega
            have hxi2 : (a.size : Int) - (e : Int) = (x2 : Int) := by omega
            have hyp : p ≤ y2 := by omega
            have hyb : y2 ≤ b.size := by omega
            clear hes
            go_wp2
            have hb0 : Below w.heap.size w ((w.alloc (.cells #[.int .i64 0, .int .i64 0, .string ⟨#[]⟩] 50)).drewN (m + nq)) := below_N ((Below.refl _ _).alloc (Nat.le_refl _) _) _
            have hbl := ((hb0.setCell (p := ⟨w.heap.size, 0, none⟩) (Nat.le_refl _) (.int .i64 p)).setCell (p := ⟨w.heap.size, 1, none⟩) (Nat.le_refl _) (.int .i64 x2)).setCell (p := ⟨w.heap.size, 2, none⟩) (Nat.le_refl _) (.string (b.extract p y2))
            try simp only [Exit.inBlock, Exit.then]
            refine bodyPost_ret (v := .agg #[.int .i64 p, .int .i64 x2, .string (b.extract p y2)]) ?_ rfl ⟨p, e, HM.out, HQ.out, by rw [hx2, hy2], hbl⟩
            have hres : Try.f27.results = #[.cell 4 50] := by kernel_rfl
            simp only [results, hres]
            go_simp
    · have HPM : Pm a.data.toList b.data.toList p := ⟨HP.out, fun _ _ => by omega⟩
      clear hp3
      have HM : Hid (Pm a.data.toList b.data.toList p) := Lib.hid HPM
      clear HPM
      have hpn : p ≤ n := by omega
      obtain ⟨q, hq⟩ : ∃ q : Nat, n - p = q := ⟨_, rfl⟩
      have hqi : (n : Int) - (p : Int) = (q : Int) := by omega
      go_wp2
      go_quiet (fail)
      go_wp2
      go_loopw [7] (fun i wr => ∃ e m : Nat, e ≤ q ∧ i = .int .i64 e ∧ wr = (w.alloc (.cells #[.int .i64 0, .int .i64 0, .string ⟨#[]⟩] 50)).drewN m ∧ Hid (Sf a.data.toList b.data.toList p e)) (fun i _ => n - (intOf i).toNat)
      case atStart => exact ⟨0, _, by omega, rfl, by first | rfl | exact World.drewN_drewN _ _ _, Lib.hid ⟨by omega, by omega, fun j hj => by omega⟩⟩
      case round =>
        obtain ⟨e, m, he, rfl, rfl, HS⟩ := hrel
        by_cases k1 : e < q
        · exfalso; omega
        · have HQ : Hid (Sq a.data.toList b.data.toList p e) := Lib.hid ⟨HS.out, fun _ _ _ => by omega⟩
          go_wp2
          go_quiet (fail)
          have hes := HQ.out.1
          have hz1 : p + e ≤ a.size := by have := hes.1; omega
          have hz2 : p + e ≤ b.size := by have := hes.2.1; omega
          obtain ⟨y2, hy2⟩ : ∃ y2 : Nat, b.size - e = y2 := ⟨_, rfl⟩
          obtain ⟨x2, hx2⟩ : ∃ x2 : Nat, a.size - e = x2 := ⟨_, rfl⟩
          have hyi2 : (b.size : Int) - (e : Int) = (y2 : Int) := by omega
          have hxi2 : (a.size : Int) - (e : Int) = (x2 : Int) := by omega
          have hyp : p ≤ y2 := by omega
          have hyb : y2 ≤ b.size := by omega
          clear hes
          go_wp2
          have hb0 : Below w.heap.size w ((w.alloc (.cells #[.int .i64 0, .int .i64 0, .string ⟨#[]⟩] 50)).drewN (m + nq)) := below_N ((Below.refl _ _).alloc (Nat.le_refl _) _) _
          have hbl := ((hb0.setCell (p := ⟨w.heap.size, 0, none⟩) (Nat.le_refl _) (.int .i64 p)).setCell (p := ⟨w.heap.size, 1, none⟩) (Nat.le_refl _) (.int .i64 x2)).setCell (p := ⟨w.heap.size, 2, none⟩) (Nat.le_refl _) (.string (b.extract p y2))
          try simp only [Exit.inBlock, Exit.then]
          refine bodyPost_ret (v := .agg #[.int .i64 p, .int .i64 x2, .string (b.extract p y2)]) ?_ rfl ⟨p, e, HM.out, HQ.out, by rw [hx2, hy2], hbl⟩
          have hres : Try.f27.results = #[.cell 4 50] := by kernel_rfl
          simp only [results, hres]
          go_simp
end Go.Proofs.Ytdgoblapmjpcaaa.Sp
