/-
  Package span: the single edit between two texts, the reference's.
-/
import Derived.Test.YtdgoblapmjpcaaaSpM
namespace Go.Proofs.Ytdgoblapmjpcaaa.Sp
open Go.RowKit
set_option linter.unusedVariables false
set_option linter.unusedSimpArgs false
open RO

set_option maxRecDepth 100000 in
set_option maxHeartbeats 8000000 in
theorem rsingle_any (a b : ByteArray) (w : World) (ha : a.size ≤ 2000) (hb : b.size ≤ 2000) : Calls Try.prog 28 #[.string a, .string b] w (SgPost a b w) := by
  have hA : a.data.toList.length = a.size := rfl
  have hB : b.data.toList.length = b.size := rfl
  go_enter Try.func28, Try.ntmps28
  go_wp2
  go_loopw [5] (fun i wr => ∃ p m : Nat, i = .int .i64 p ∧ wr = (w.alloc (.cells #[.int .i64 0, .int .i64 0, .string ⟨#[]⟩] 50)).drewN m ∧ Hid (Pf a.data.toList b.data.toList p)) (fun i _ => a.size - (intOf i).toNat)
  case atStart => exact ⟨0, 0, rfl, rfl, Lib.hid ⟨by omega, by omega, fun j hj => by omega⟩⟩
  case round =>
    obtain ⟨p, m, rfl, rfl, HP⟩ := hrel
    have hp := HP.out
    obtain ⟨hp1, hp2, hp3⟩ := hp
    by_cases h2 : p < a.size
    · by_cases h3 : p < b.size
      · by_cases h4 : a[p] = b[p]
        · have h5 : ((a[p].toNat : Int) == (b[p].toNat : Int)) = true := by rw [h4]; simp
          have HP2 : Hid (Pf a.data.toList b.data.toList (p + 1)) := Lib.hid (pf_next HP.out h2 h3 (by rw [at_some h2, at_some h3, h4]))
          clear hp3
          go_wp2
          go_quiet (fail)
          go_wp2
          exact ⟨⟨p + 1, _, by go_num, rfl, HP2⟩, by simp [intOf]; omega⟩
        · have h5 : ((a[p].toNat : Int) == (b[p].toNat : Int)) = false := by
            rw [beq_eq_false_iff_ne]; intro h; exact h4 (UInt8.toNat_inj.1 (by omega))
          have HPM : Pm a.data.toList b.data.toList p := ⟨HP.out, fun _ _ h => by rw [at_some h2, at_some h3] at h; exact h4 (Option.some.inj h)⟩
          clear hp3
          have HM : Hid (Pm a.data.toList b.data.toList p) := Lib.hid HPM
          clear HPM
          obtain ⟨q, hq⟩ : ∃ q : Nat, a.size - p = q := ⟨_, rfl⟩
          obtain ⟨z, hz⟩ : ∃ z : Nat, b.size - p = z := ⟨_, rfl⟩
          have hqi : (a.size : Int) - (p : Int) = (q : Int) := by omega
          have hzi : (b.size : Int) - (p : Int) = (z : Int) := by omega
          go_wp2
          go_quiet (fail)
          go_wp2
          go_loopw [6] (fun i wr => ∃ e m : Nat, e ≤ q ∧ i = .int .i64 e ∧ wr = (w.alloc (.cells #[.int .i64 0, .int .i64 0, .string ⟨#[]⟩] 50)).drewN m ∧ Hid (Sf a.data.toList b.data.toList p e)) (fun i _ => q - (intOf i).toNat)
          case atStart => exact ⟨0, _, by omega, rfl, by first | rfl | exact World.drewN_drewN _ _ _, Lib.hid ⟨by omega, by omega, fun j hj => by omega⟩⟩
          case round =>
            obtain ⟨e, m, he, rfl, rfl, HS⟩ := hrel
            by_cases k1 : e < q
            · by_cases k6 : e < z
              · obtain ⟨x, hx⟩ : ∃ x : Nat, a.size - 1 - e = x := ⟨_, rfl⟩
                obtain ⟨y, hy⟩ : ∃ y : Nat, b.size - 1 - e = y := ⟨_, rfl⟩
                have hxi : (a.size : Int) - 1 - (e : Int) = (x : Int) := by omega
                have hyi : (b.size : Int) - 1 - (e : Int) = (y : Int) := by omega
                have k2 : x < a.size := by omega
                have k3 : y < b.size := by omega
                have ka : a.data.toList[a.data.toList.length - 1 - e]? = some a[x] := by rw [hA, hx]; exact at_some k2
                have kb : b.data.toList[b.data.toList.length - 1 - e]? = some b[y] := by rw [hB, hy]; exact at_some k3
                by_cases k4 : a[x] = b[y]
                · have k5 : ((a[x].toNat : Int) == (b[y].toNat : Int)) = true := by rw [k4]; simp
                  have HS2 : Hid (Sf a.data.toList b.data.toList p (e + 1)) := Lib.hid (sf_next HS.out (by omega) (by omega) (by rw [ka, kb, k4]))
                  clear ka kb hx hy
                  go_wp2
                  go_quiet (fail)
                  go_wp2
                  exact ⟨⟨e + 1, _, by omega, by go_num, rfl, HS2⟩, by simp [intOf]; omega⟩
                · have k5 : ((a[x].toNat : Int) == (b[y].toNat : Int)) = false := by
                    rw [beq_eq_false_iff_ne]; intro h; exact k4 (UInt8.toNat_inj.1 (by omega))
                  have HQ : Hid (Sq a.data.toList b.data.toList p e) := Lib.hid ⟨HS.out, fun _ _ h => by rw [ka, kb] at h; exact k4 (Option.some.inj h)⟩
                  clear ka kb hx hy
                  go_wp2
                  go_quiet (fail)
                  have hes := HQ.out.1
                  have hz1 : p + e ≤ a.size := by have := hes.1; omega
                  have hz2 : p + e ≤ b.size := by have := hes.2.1; omega
                  obtain ⟨y2, hy2⟩ : ∃ y2 : Nat, b.size - e = y2 := ⟨_, rfl⟩
                  obtain ⟨x2, hx2⟩ : ∃ x2 : Nat, a.size - e = x2 := ⟨_, rfl⟩
                  have hyi2 : (b.size : Int) - (e : Int) = (y2 : Int) := by omega
                  have hxi2 : (a.size : Int) - (e : Int) = (x2 : Int) := by omega
                  have hyp : p ≤ y2 := by omega
                  have hyb : y2 ≤ b.size := by omega
                  clear hes
                  go_wp2
                  have hb0 : Below w.heap.size w ((w.alloc (.cells #[.int .i64 0, .int .i64 0, .string ⟨#[]⟩] 50)).drewN (m + nq)) := below_N ((Below.refl _ _).alloc (Nat.le_refl _) _) _
                  have hbl := ((hb0.setCell (p := ⟨w.heap.size, 0, none⟩) (Nat.le_refl _) (.int .i64 p)).setCell (p := ⟨w.heap.size, 1, none⟩) (Nat.le_refl _) (.int .i64 x2)).setCell (p := ⟨w.heap.size, 2, none⟩) (Nat.le_refl _) (.string (b.extract p y2))
                  try simp only [Exit.inBlock, Exit.then]
                  refine bodyPost_ret (v := .agg #[.int .i64 p, .int .i64 x2, .string (b.extract p y2)]) ?_ rfl ⟨p, e, HM.out, HQ.out, by rw [hx2, hy2], hbl⟩
                  have hres : Try.f28.results = #[.cell 4 50] := by kernel_rfl
                  simp only [results, hres]
                  go_simp
              · have HQ : Hid (Sq a.data.toList b.data.toList p e) := Lib.hid ⟨HS.out, fun _ _ _ => by omega⟩
                go_wp2
                go_quiet (fail)
                have hes := HQ.out.1
                have hz1 : p + e ≤ a.size := by have := hes.1; omega
                have hz2 : p + e ≤ b.size := by have := hes.2.1; omega
                obtain ⟨y2, hy2⟩ : ∃ y2 : Nat, b.size - e = y2 := ⟨_, rfl⟩
                obtain ⟨x2, hx2⟩ : ∃ x2 : Nat, a.size - e = x2 := ⟨_, rfl⟩
                have hyi2 : (b.size : Int) - (e : Int) = (y2 : Int) := by omega
                have hxi2 : (a.size : Int) - (e : Int) = (x2 : Int) := by omega
                have hyp : p ≤ y2 := by omega
                have hyb : y2 ≤ b.size := by omega
                clear hes
                go_wp2
                have hb0 : Below w.heap.size w ((w.alloc (.cells #[.int .i64 0, .int .i64 0, .string ⟨#[]⟩] 50)).drewN (m + nq)) := below_N ((Below.refl _ _).alloc (Nat.le_refl _) _) _
                have hbl := ((hb0.setCell (p := ⟨w.heap.size, 0, none⟩) (Nat.le_refl _) (.int .i64 p)).setCell (p := ⟨w.heap.size, 1, none⟩) (Nat.le_refl _) (.int .i64 x2)).setCell (p := ⟨w.heap.size, 2, none⟩) (Nat.le_refl _) (.string (b.extract p y2))
                try simp only [Exit.inBlock, Exit.then]
                refine bodyPost_ret (v := .agg #[.int .i64 p, .int .i64 x2, .string (b.extract p y2)]) ?_ rfl ⟨p, e, HM.out, HQ.out, by rw [hx2, hy2], hbl⟩
                have hres : Try.f28.results = #[.cell 4 50] := by kernel_rfl
                simp only [results, hres]
                go_simp
            · have HQ : Hid (Sq a.data.toList b.data.toList p e) := Lib.hid ⟨HS.out, fun _ _ _ => by omega⟩
              go_wp2
              go_quiet (fail)
              have hes := HQ.out.1
              have hz1 : p + e ≤ a.size := by have := hes.1; omega
              have hz2 : p + e ≤ b.size := by have := hes.2.1; omega
              obtain ⟨y2, hy2⟩ : ∃ y2 : Nat, b.size - e = y2 := ⟨_, rfl⟩
              obtain ⟨x2, hx2⟩ : ∃ x2 : Nat, a.size - e = x2 := ⟨_, rfl⟩
              have hyi2 : (b.size : Int) - (e : Int) = (y2 : Int) := by omega
              have hxi2 : (a.size : Int) - (e : Int) = (x2 : Int) := by omega
              have hyp : p ≤ y2 := by omega
              have hyb : y2 ≤ b.size := by omega
              clear hes
              go_wp2
              have hb0 : Below w.heap.size w ((w.alloc (.cells #[.int .i64 0, .int .i64 0, .string ⟨#[]⟩] 50)).drewN (m + nq)) := below_N ((Below.refl _ _).alloc (Nat.le_refl _) _) _
              have hbl := ((hb0.setCell (p := ⟨w.heap.size, 0, none⟩) (Nat.le_refl _) (.int .i64 p)).setCell (p := ⟨w.heap.size, 1, none⟩) (Nat.le_refl _) (.int .i64 x2)).setCell (p := ⟨w.heap.size, 2, none⟩) (Nat.le_refl _) (.string (b.extract p y2))
              try simp only [Exit.inBlock, Exit.then]
              refine bodyPost_ret (v := .agg #[.int .i64 p, .int .i64 x2, .string (b.extract p y2)]) ?_ rfl ⟨p, e, HM.out, HQ.out, by rw [hx2, hy2], hbl⟩
              have hres : Try.f28.results = #[.cell 4 50] := by kernel_rfl
              simp only [results, hres]
              go_simp
      · have HPM : Pm a.data.toList b.data.toList p := ⟨HP.out, fun _ _ => by omega⟩
        clear hp3
        have HM : Hid (Pm a.data.toList b.data.toList p) := Lib.hid HPM
        clear HPM
        obtain ⟨q, hq⟩ : ∃ q : Nat, a.size - p = q := ⟨_, rfl⟩
        obtain ⟨z, hz⟩ : ∃ z : Nat, b.size - p = z := ⟨_, rfl⟩
        have hqi : (a.size : Int) - (p : Int) = (q : Int) := by omega
        have hzi : (b.size : Int) - (p : Int) = (z : Int) := by omega
        go_wp2
        go_quiet (fail)
        go_wp2
        go_loopw [6] (fun i wr => ∃ e m : Nat, e ≤ q ∧ i = .int .i64 e ∧ wr = (w.alloc (.cells #[.int .i64 0, .int .i64 0, .string ⟨#[]⟩] 50)).drewN m ∧ Hid (Sf a.data.toList b.data.toList p e)) (fun i _ => q - (intOf i).toNat)
        case atStart => exact ⟨0, _, by omega, rfl, by first | rfl | exact World.drewN_drewN _ _ _, Lib.hid ⟨by omega, by omega, fun j hj => by omega⟩⟩
        case round =>
          obtain ⟨e, m, he, rfl, rfl, HS⟩ := hrel
          by_cases k1 : e < q
          · by_cases k6 : e < z
            · exfalso; omega
            · have HQ : Hid (Sq a.data.toList b.data.toList p e) := Lib.hid ⟨HS.out, fun _ _ _ => by omega⟩
              go_wp2
              go_quiet (fail)
              have hes := HQ.out.1
              have hz1 : p + e ≤ a.size := by have := hes.1; omega
              have hz2 : p + e ≤ b.size := by have := hes.2.1; omega
              obtain ⟨y2, hy2⟩ : ∃ y2 : Nat, b.size - e = y2 := ⟨_, rfl⟩
              obtain ⟨x2, hx2⟩ : ∃ x2 : Nat, a.size - e = x2 := ⟨_, rfl⟩
              have hyi2 : (b.size : Int) - (e : Int) = (y2 : Int) := by omega
              have hxi2 : (a.size : Int) - (e : Int) = (x2 : Int) := by omega
              have hyp : p ≤ y2 := by omega
              have hyb : y2 ≤ b.size := by omega
              clear hes
              go_wp2
              have hb0 : Below w.heap.size w ((w.alloc (.cells #[.int .i64 0, .int .i64 0, .string ⟨#[]⟩] 50)).drewN (m + nq)) := below_N ((Below.refl _ _).alloc (Nat.le_refl _) _) _
              have hbl := ((hb0.setCell (p := ⟨w.heap.size, 0, none⟩) (Nat.le_refl _) (.int .i64 p)).setCell (p := ⟨w.heap.size, 1, none⟩) (Nat.le_refl _) (.int .i64 x2)).setCell (p := ⟨w.heap.size, 2, none⟩) (Nat.le_refl _) (.string (b.extract p y2))
              try simp only [Exit.inBlock, Exit.then]
              refine bodyPost_ret (v := .agg #[.int .i64 p, .int .i64 x2, .string (b.extract p y2)]) ?_ rfl ⟨p, e, HM.out, HQ.out, by rw [hx2, hy2], hbl⟩
              have hres : Try.f28.results = #[.cell 4 50] := by kernel_rfl
              simp only [results, hres]
              go_simp
          · exfalso; have := HS.out.2.1; omega
    · have HPM : Pm a.data.toList b.data.toList p := ⟨HP.out, fun _ _ => by omega⟩
      clear hp3
      have HM : Hid (Pm a.data.toList b.data.toList p) := Lib.hid HPM
      clear HPM
      obtain ⟨q, hq⟩ : ∃ q : Nat, a.size - p = q := ⟨_, rfl⟩
      obtain ⟨z, hz⟩ : ∃ z : Nat, b.size - p = z := ⟨_, rfl⟩
      have hqi : (a.size : Int) - (p : Int) = (q : Int) := by omega
      have hzi : (b.size : Int) - (p : Int) = (z : Int) := by omega
      go_wp2
      go_quiet (fail)
      go_wp2
      go_loopw [6] (fun i wr => ∃ e m : Nat, e ≤ q ∧ i = .int .i64 e ∧ wr = (w.alloc (.cells #[.int .i64 0, .int .i64 0, .string ⟨#[]⟩] 50)).drewN m ∧ Hid (Sf a.data.toList b.data.toList p e)) (fun i _ => q - (intOf i).toNat)
      case atStart => exact ⟨0, _, by omega, rfl, by first | rfl | exact World.drewN_drewN _ _ _, Lib.hid ⟨by omega, by omega, fun j hj => by omega⟩⟩
      case round =>
        obtain ⟨e, m, he, rfl, rfl, HS⟩ := hrel
        by_cases k1 : e < q
        · exfalso; omega
        · have HQ : Hid (Sq a.data.toList b.data.toList p e) := Lib.hid ⟨HS.out, fun _ _ _ => by omega⟩
          go_wp2
          go_quiet (fail)
          have hes := HQ.out.1
          have hz1 : p + e ≤ a.size := by have := hes.1; omega
          have hz2 : p + e ≤ b.size := by have := hes.2.1; omega
          obtain ⟨y2, hy2⟩ : ∃ y2 : Nat, b.size - e = y2 := ⟨_, rfl⟩
          obtain ⟨x2, hx2⟩ : ∃ x2 : Nat, a.size - e = x2 := ⟨_, rfl⟩
          have hyi2 : (b.size : Int) - (e : Int) = (y2 : Int) := by omega
          have hxi2 : (a.size : Int) - (e : Int) = (x2 : Int) := by omega
          have hyp : p ≤ y2 := by omega
          have hyb : y2 ≤ b.size := by omega
          clear hes
          go_wp2
          have hb0 : Below w.heap.size w ((w.alloc (.cells #[.int .i64 0, .int .i64 0, .string ⟨#[]⟩] 50)).drewN (m + nq)) := below_N ((Below.refl _ _).alloc (Nat.le_refl _) _) _
          have hbl := ((hb0.setCell (p := ⟨w.heap.size, 0, none⟩) (Nat.le_refl _) (.int .i64 p)).setCell (p := ⟨w.heap.size, 1, none⟩) (Nat.le_refl _) (.int .i64 x2)).setCell (p := ⟨w.heap.size, 2, none⟩) (Nat.le_refl _) (.string (b.extract p y2))
          try simp only [Exit.inBlock, Exit.then]
          refine bodyPost_ret (v := .agg #[.int .i64 p, .int .i64 x2, .string (b.extract p y2)]) ?_ rfl ⟨p, e, HM.out, HQ.out, by rw [hx2, hy2], hbl⟩
          have hres : Try.f28.results = #[.cell 4 50] := by kernel_rfl
          simp only [results, hres]
          go_simp
end Go.Proofs.Ytdgoblapmjpcaaa.Sp
