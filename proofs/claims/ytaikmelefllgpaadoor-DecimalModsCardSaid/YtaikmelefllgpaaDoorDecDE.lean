/-
  Package decimal's reference: sums of lists.
-/
import Derived.Test.YtaikmelefllgpaaDoorDecDD
namespace Go.Proofs.YtaikmelefllgpaaDoor.Dec
open Go.RowKit
set_option linter.unusedVariables false
set_option linter.unusedSimpArgs false
open Go.Proofs.YtaikmelefllgpaaDoor.Dig
open Go.ChangeShapes Go.WideShapes Go.Deep RO

set_option maxRecDepth 100000 in
set_option maxHeartbeats 8000000 in
theorem rdsum_any (v : Value) (L : List De) (w : World) (hv : Ds w w.heap.size v L) (hL : ∀ d ∈ L, vB d.g d.s d.x = true) (hl : L.length ≤ 1000) : Calls Tryd.prog 11 #[v] w fun e w' => e = retR (sumL false 0 0 L) ∧ Below w.heap.size w w' := by
  obtain ⟨n, hn⟩ : ∃ n, L.length = n := ⟨_, rfl⟩
  obtain ⟨a, cap, rfl, hn9⟩ := Rd.slice hv hn
  have T0 := SB.new w
  rcases Nat.eq_zero_or_pos n with h0 | h0
  · subst h0
    have hres : Ending.returned (.tuple #[.agg #[.bool false, .string ⟨#[]⟩, .int .i64 0], .int .i64 0]) = retR (sumL false 0 0 L) := by rw [List.length_eq_zero_iff.1 hn]; rfl
    have HRS := Lib.hid hres
    clear hn hv hL hres
    have T := T0
    obtain ⟨r0, r1, r2⟩ := T.r.cells
    go_enter Tryd.func11, Tryd.ntmps11
    go_wp2
    go_loopw [5] (fun i wr => i = .int .i64 0 ∧ SB w wr false ⟨#[]⟩ 0) (fun _ _ => 0)
    case atStart => exact ⟨rfl, T⟩
    case round =>
      obtain ⟨rfl, T⟩ := hrel
      obtain ⟨r0, r1, r2⟩ := T.r.cells
      obtain ⟨c0, c1, c2⟩ := T.c.cells
      have y0 := T.r.fz 0
      have y1 := T.r.fz 1
      have y2 := T.r.fz 2
      have v0 := T.c.fz 0
      have v1 := T.c.fz 1
      have v2 := T.c.fz 2
      have hres := HRS.out
      go_wp2
      exact bodyPost_ret (v := .tuple #[.agg #[.bool false, .string ⟨#[]⟩, .int .i64 0], .int .i64 0]) (by simp [results, Tryd.results11, go_sem, r0, r1, r2]) rfl ⟨hres, (((T.bel.setCell (by simp; try omega) _).setCell (by simp; try omega) _).setCell (by simp; try omega) _)⟩
  obtain ⟨gg, o, cap', hvv, hg, hcap, hcap9, hcell⟩ := Ds.at_ hv hn h0
  injection hvv with hv1 hv2 hv3
  subst hv1 hv3
  have HC := Lib.hid hcell
  have HN := Lib.hid hn
  have HL := Lib.hid hL
  clear hcell hL hv
  have hn1 : n ≤ 1000 := by omega
  clear hn
  go_enter Tryd.func11, Tryd.ntmps11
  go_wp2
  go_loopw [5] (fun i wr => ∃ (k : Nat) (g : Bool) (m : Nat) (x : Int), k ≤ n ∧ i = .int .i64 k ∧ okD g m x ∧ SB w wr g (S m) x ∧ Hid (sumL false 0 0 L = sumL g m x (L.drop k))) (fun i _ => n - (intOf i).toNat)
  case atStart => exact ⟨0, false, 0, 0, by omega, rfl, .inl ⟨rfl, rfl, rfl⟩, T0, Lib.hid rfl⟩
  case round =>
    obtain ⟨k, g, m, x, hk, rfl, hok, T, HX⟩ := hrel
    by_cases hlt : k < n
    · have hi : (k : Int) < n := by omega
      obtain ⟨d, hd⟩ := de_in HN.out hlt
      obtain ⟨e0, e1, e2⟩ := HC.out k d hd
      have e0 := (T.bel.cell (p := ⟨gg, o + k * 3, none⟩) hg).trans e0
      have e1 := (T.bel.cell (p := ⟨gg, o + k * 3 + 1, none⟩) hg).trans e1
      have e2 := (T.bel.cell (p := ⟨gg, o + k * 3 + 2, none⟩) hg).trans e2
      obtain ⟨dn, hds, hdo, hdv⟩ := de_val (HL.out d (List.mem_of_getElem? hd))
      obtain ⟨ra, rn, rc, re, hR⟩ : ∃ a b c e, addR g m x d.g (val d.s.data.toList) d.x = (a, b, c, e) := ⟨_, _, _, _, rfl⟩
      have hRok := addR_ok hok hdo
      rw [← hdv, hR] at hRok
      have HA := Lib.hid (fun w => rdadd_any g m x d.g dn d.x w hok hdo)
      rw [← hdv, hR, hdv, ← hds] at HA
      unfold retR at HA
      simp only at HA
      have HD := Lib.hid hd
      have HRR := Lib.hid hR
      have HOK := Lib.hid hRok
      clear hd hR hRok hdo hdv hds hok
      obtain ⟨dg, dS, dx⟩ := d
      simp only at e0 e1 e2 HA
      obtain ⟨M, hM⟩ : ∃ M, S m = M := ⟨_, rfl⟩
      obtain ⟨RS, hRS⟩ : ∃ M, S rn = M := ⟨_, rfl⟩
      rw [hM] at T
      rw [hM, hRS] at HA
      have HRS := Lib.hid hRS
      clear hM hRS hlt
      obtain ⟨r0, r1, r2⟩ := T.r.cells
      obtain ⟨c0, c1, c2⟩ := T.c.cells
      have y0 := T.r.fz 0
      have y1 := T.r.fz 1
      have y2 := T.r.fz 2
      have v0 := T.c.fz 0
      have v1 := T.c.fz 1
      have v2 := T.c.fz 2
      by_cases he : re = 0
      · have HN1 : Hid (sumL false 0 0 L = sumL ra rn rc (L.drop (k + 1))) := Lib.hid (by rw [HX.out]; exact sumL_go HD.out HRR.out he)
        subst he
        go_wp2
        go_region_with ((go_at_call 32; (with_reducible refine (HA.out _).mono ?_); rintro e w1 ⟨rfl, hX⟩; have T := (T.dr).step hX; clear hX r0 r1 r2 c0 c1 c2 y0 y1 y2 v0 v1 v2; obtain ⟨r0, r1, r2⟩ := T.r.cells; obtain ⟨c0, c1, c2⟩ := T.c.cells; have y0 := T.r.fz 0; have y1 := T.r.fz 1; have y2 := T.r.fz 2; have v0 := T.c.fz 0; have v1 := T.c.fz 1; have v2 := T.c.fz 2))
        all_goals
          have T9 := T.put ra RS rc
          rw [← HRS.out] at T9
          go_wp2
          refine ⟨⟨k + 1, ra, rn, rc, by omega, by go_num, HOK.out, ?_, HN1⟩, by simp [intOf] <;> omega⟩
          first
            | exact T9
            | (rw [← HRS.out]; exact T9)
      · have heb : (re != 0) = true := by rw [bne_iff_ne]; exact he
        have hres : Ending.returned (.tuple #[.agg #[.bool false, .string ⟨#[]⟩, .int .i64 0], .int .i64 re]) = retR (sumL false 0 0 L) := by rw [HX.out, sumL_err HD.out HRR.out he]; rfl
        have HRES := Lib.hid hres
        clear hres he
        go_wp2
        go_region_with ((go_at_call 32; (with_reducible refine (HA.out _).mono ?_); rintro e w1 ⟨rfl, hX⟩; have T := (T.dr).step hX; clear hX r0 r1 r2 c0 c1 c2 y0 y1 y2 v0 v1 v2; obtain ⟨r0, r1, r2⟩ := T.r.cells; obtain ⟨c0, c1, c2⟩ := T.c.cells; have y0 := T.r.fz 0; have y1 := T.r.fz 1; have y2 := T.r.fz 2; have v0 := T.c.fz 0; have v1 := T.c.fz 1; have v2 := T.c.fz 2))
        all_goals
          have T9 := T.put ra RS rc
          obtain ⟨r0, r1, r2⟩ := T9.r.cells
          have y0 := T9.r.fz 0
          have y1 := T9.r.fz 1
          have y2 := T9.r.fz 2
          go_wp2
          have hres := HRES.out
          exact bodyPost_ret (v := .tuple #[.agg #[.bool false, .string ⟨#[]⟩, .int .i64 0], .int .i64 re]) (by simp [results, Tryd.results11, go_sem, r0, r1, r2]) rfl ⟨hres, (((T9.bel.setCell (by simp; try omega) _).setCell (by simp; try omega) _).setCell (by simp; try omega) _)⟩
    · have hi : ¬ (k : Int) < n := by omega
      have hres : Ending.returned (.tuple #[.agg #[.bool g, .string (S m), .int .i64 x], .int .i64 0]) = retR (sumL false 0 0 L) := by rw [HX.out, sumL_end (by have := HN.out; omega)]; rfl
      have HRES := Lib.hid hres
      clear hres
      obtain ⟨M, hM⟩ : ∃ M, S m = M := ⟨_, rfl⟩
      rw [hM] at T HRES
      clear hM
      obtain ⟨r0, r1, r2⟩ := T.r.cells
      obtain ⟨c0, c1, c2⟩ := T.c.cells
      have y0 := T.r.fz 0
      have y1 := T.r.fz 1
      have y2 := T.r.fz 2
      have v0 := T.c.fz 0
      have v1 := T.c.fz 1
      have v2 := T.c.fz 2
      go_wp2
      have hres := HRES.out
      exact bodyPost_ret (v := .tuple #[.agg #[.bool g, .string M, .int .i64 x], .int .i64 0]) (by simp [results, Tryd.results11, go_sem, r0, r1, r2]) rfl ⟨hres, (((T.bel.setCell (by simp; try omega) _).setCell (by simp; try omega) _).setCell (by simp; try omega) _)⟩
end Go.Proofs.YtaikmelefllgpaaDoor.Dec
