/-
  Package decimal: sums of lists.
-/
import Derived.Test.YtaikmelefllgpaaDoorDecDC
import Derived.Deep.RegionWith
namespace Go.Proofs.YtaikmelefllgpaaDoor.Dec
open Go.RowKit
set_option linter.unusedVariables false
set_option linter.unusedSimpArgs false
open Go.Proofs.YtaikmelefllgpaaDoor.Dig
open Go.ChangeShapes Go.WideShapes Go.Deep RO

/-- A result that is none yet, and the sum so far, in blocks of their own. -/
structure SB (w W : World) (g : Bool) (s : ByteArray) (x : Int) : Prop where
  r : DC W w.heap.size false ⟨#[]⟩ 0
  c : DC W (w.heap.size + 1) g s x
  bel : Below w.heap.size w W
section
variable {w W W' : World} {g : Bool} {s : ByteArray} {x : Int}
theorem SB.new (w : World) : SB w ((w.alloc (.cells #[.bool false, .string ⟨#[]⟩, .int .i64 0] 23)).alloc (.cells #[.bool false, .string ⟨#[]⟩, .int .i64 0] 23)) false ⟨#[]⟩ 0 := by
  have h2 := DC.new (w.alloc (.cells #[.bool false, .string ⟨#[]⟩, .int .i64 0] 23)) false ⟨#[]⟩ 0
  rw [show (w.alloc (.cells #[.bool false, .string ⟨#[]⟩, .int .i64 0] 23)).heap.size = w.heap.size + 1 by simp] at h2
  exact ⟨(DC.new w false ⟨#[]⟩ 0).alloc _, h2, ((Below.refl _ _).alloc (Nat.le_refl _) _).alloc (by simp) _⟩
theorem SB.step (h : SB w W g s x) (hb : Below W.heap.size W W') : SB w W' g s x := ⟨h.r.below hb h.r.lt, h.c.below hb h.c.lt, h.bel.trans (hb.mono h.bel.size)⟩
theorem SB.al (h : SB w W g s x) (o : Obj) : SB w (W.alloc o) g s x := ⟨h.r.alloc _, h.c.alloc _, h.bel.alloc h.bel.size _⟩
theorem SB.dr (h : SB w W g s x) : SB w W.drew g s x := ⟨h.r, h.c, h.bel.drew⟩
theorem SB.put (h : SB w W g s x) (g' : Bool) (s' : ByteArray) (x' : Int) : SB w (((W.setCell ⟨w.heap.size + 1, 0, none⟩ (.bool g')).setCell ⟨w.heap.size + 1, 1, none⟩ (.string s')).setCell ⟨w.heap.size + 1, 2, none⟩ (.int .i64 x')) g' s' x' := by
  refine ⟨World.rowIs.setOther (World.rowIs.setOther (World.rowIs.setOther h.r (by simp) _) (by simp) _) (by simp) _, ?_, ((h.bel.setCell (by simp) _).setCell (by simp) _).setCell (by simp) _⟩
  exact (World.rowIs.set (World.rowIs.set (World.rowIs.set h.c 0 _) 1 _) 2 _).congr fun i hi => by
    rcases (show i = 0 ∨ i = 1 ∨ i = 2 by omega) with rfl | rfl | rfl <;> rfl
end
theorem sumL_err {g : Bool} {n : Nat} {x : Int} {L : List De} {k : Nat} {d : De} {a : Bool} {b : Nat} {c e : Int} (hd : L[k]? = some d) (hR : addR g n x d.g (val d.s.data.toList) d.x = (a, b, c, e)) (he : e ≠ 0) : sumL g n x (L.drop k) = (false, 0, 0, e) := by
  rw [drop_de hd]
  unfold sumL
  rw [hR]
  exact if_pos he
theorem sumL_go {g : Bool} {n : Nat} {x : Int} {L : List De} {k : Nat} {d : De} {a : Bool} {b : Nat} {c e : Int} (hd : L[k]? = some d) (hR : addR g n x d.g (val d.s.data.toList) d.x = (a, b, c, e)) (he : e = 0) : sumL g n x (L.drop k) = sumL a b c (L.drop (k + 1)) := by
  rw [drop_de hd]
  conv => lhs; unfold sumL
  rw [hR]
  exact if_neg (fun h => h he)
theorem sumL_end {g : Bool} {n : Nat} {x : Int} {L : List De} {k : Nat} (h : L.length ≤ k) : sumL g n x (L.drop k) = (g, n, x, 0) := by rw [List.drop_eq_nil_of_le h]; rfl
set_option maxRecDepth 100000 in
set_option maxHeartbeats 8000000 in
theorem dsum_any (v : Value) (L : List De) (w : World) (hv : Ds w w.heap.size v L) (hL : ∀ d ∈ L, vB d.g d.s d.x = true) (hl : L.length ≤ 1000) : Calls Tryd.prog 9 #[v] w fun e w' => e = retR (sumL false 0 0 L) ∧ Below w.heap.size w w' := by
  obtain ⟨n, hn⟩ : ∃ n, L.length = n := ⟨_, rfl⟩
  obtain ⟨a, cap, rfl, hn9⟩ := Rd.slice hv hn
  have T0 := SB.new w
  rcases Nat.eq_zero_or_pos n with h0 | h0
  · subst h0
    have hres : Ending.returned (.tuple #[.agg #[.bool false, .string ⟨#[]⟩, .int .i64 0], .int .i64 0]) = retR (sumL false 0 0 L) := by rw [List.length_eq_zero_iff.1 hn]; rfl
    have HRS := Lib.hid hres
    clear hn hv hL hres
    have T := T0
    obtain ⟨r0, r1, r2⟩ := T.r.cells
    go_enter Tryd.func9, Tryd.ntmps9
    go_wp2
    go_loopw [12] (fun i wr => i = .int .i64 0 ∧ SB w wr false ⟨#[]⟩ 0) (fun _ _ => 0)
    case atStart => exact ⟨rfl, T⟩
    case round =>
      obtain ⟨rfl, T⟩ := hrel
      obtain ⟨r0, r1, r2⟩ := T.r.cells
      obtain ⟨c0, c1, c2⟩ := T.c.cells
      have y0 := T.r.fz 0
      have y1 := T.r.fz 1
      have y2 := T.r.fz 2
      have v0 := T.c.fz 0
      have v1 := T.c.fz 1
      have v2 := T.c.fz 2
      have hres := HRS.out
      go_wp2
      exact bodyPost_ret (v := .tuple #[.agg #[.bool false, .string ⟨#[]⟩, .int .i64 0], .int .i64 0]) (by simp [results, Tryd.results9, go_sem, r0, r1, r2]) rfl ⟨hres, (((T.bel.setCell (by simp; try omega) _).setCell (by simp; try omega) _).setCell (by simp; try omega) _)⟩
  obtain ⟨gg, o, cap', hvv, hg, hcap, hcap9, hcell⟩ := Ds.at_ hv hn h0
  injection hvv with hv1 hv2 hv3
  subst hv1 hv3
  have HC := Lib.hid hcell
  have HN := Lib.hid hn
  have HL := Lib.hid hL
  clear hcell hL hv
  have hn1 : n ≤ 1000 := by omega
  clear hn
  go_enter Tryd.func9, Tryd.ntmps9
  go_wp2
  go_loopw [12] (fun i wr => ∃ (k : Nat) (g : Bool) (m : Nat) (x : Int), k ≤ n ∧ i = .int .i64 k ∧ okD g m x ∧ SB w wr g (S m) x ∧ Hid (sumL false 0 0 L = sumL g m x (L.drop k))) (fun i _ => n - (intOf i).toNat)
  case atStart => exact ⟨0, false, 0, 0, by omega, rfl, .inl ⟨rfl, rfl, rfl⟩, T0, Lib.hid rfl⟩
  case round =>
    obtain ⟨k, g, m, x, hk, rfl, hok, T, HX⟩ := hrel
    by_cases hlt : k < n
    · have hi : (k : Int) < n := by omega
      obtain ⟨d, hd⟩ := de_in HN.out hlt
      obtain ⟨e0, e1, e2⟩ := HC.out k d hd
      have e0 := (T.bel.cell (p := ⟨gg, o + k * 3, none⟩) hg).trans e0
      have e1 := (T.bel.cell (p := ⟨gg, o + k * 3 + 1, none⟩) hg).trans e1
      have e2 := (T.bel.cell (p := ⟨gg, o + k * 3 + 2, none⟩) hg).trans e2
      obtain ⟨dn, hds, hdo, hdv⟩ := de_val (HL.out d (List.mem_of_getElem? hd))
      obtain ⟨ra, rn, rc, re, hR⟩ : ∃ a b c e, addR g m x d.g (val d.s.data.toList) d.x = (a, b, c, e) := ⟨_, _, _, _, rfl⟩
      have hRok := addR_ok hok hdo
      rw [← hdv, hR] at hRok
      have HA := Lib.hid (fun w => dadd_any g m x d.g dn d.x w hok hdo)
      rw [← hdv, hR, hdv, ← hds] at HA
      unfold retR at HA
      simp only at HA
      have HD := Lib.hid hd
      have HRR := Lib.hid hR
      have HOK := Lib.hid hRok
      clear hd hR hRok hdo hdv hds hok
      obtain ⟨dg, dS, dx⟩ := d
      simp only at e0 e1 e2 HA
      obtain ⟨M, hM⟩ : ∃ M, S m = M := ⟨_, rfl⟩
      obtain ⟨RS, hRS⟩ : ∃ M, S rn = M := ⟨_, rfl⟩
      rw [hM] at T
      rw [hM, hRS] at HA
      have HRS := Lib.hid hRS
      clear hM hRS hlt
      obtain ⟨r0, r1, r2⟩ := T.r.cells
      obtain ⟨c0, c1, c2⟩ := T.c.cells
      have y0 := T.r.fz 0
      have y1 := T.r.fz 1
      have y2 := T.r.fz 2
      have v0 := T.c.fz 0
      have v1 := T.c.fz 1
      have v2 := T.c.fz 2
      have HL1 : Hid (∀ W, Below wr.heap.size wr W → True) := Lib.hid (fun _ _ => trivial)
      have l0 := T.r.lt
      have l1 := T.c.lt
      have l2 : gg < wr.heap.size := Nat.lt_of_lt_of_le hg T.bel.size
      have A1 := DC.new wr dg dS dx
      have T1 := T.al (.cells #[.bool dg, .string dS, .int .i64 dx] 23)
      by_cases he : re = 0
      · have HN1 : Hid (sumL false 0 0 L = sumL ra rn rc (L.drop (k + 1))) := Lib.hid (by rw [HX.out]; exact sumL_go HD.out HRR.out he)
        subst he
        go_wp2_with (go_at_call 21; (with_reducible refine (HA.out _).mono ?_); rintro e w1 ⟨rfl, hX⟩; have q0 := (T1.step hX).r.lt; have q1 := (T1.step hX).c.lt; have T := T1.step hX; clear hX r0 r1 r2 c0 c1 c2 y0 y1 y2 v0 v1 v2; obtain ⟨r0, r1, r2⟩ := T.r.cells; obtain ⟨c0, c1, c2⟩ := T.c.cells; have y0 := T.r.fz 0; have y1 := T.r.fz 1; have y2 := T.r.fz 2; have v0 := T.c.fz 0; have v1 := T.c.fz 1; have v2 := T.c.fz 2)
        have T9 := (T.put ra RS rc).al (.cells #[.bool ra, .string RS, .int .i64 rc] 23)
        rw [← HRS.out] at T9
        refine ⟨⟨k + 1, ra, rn, rc, by omega, by go_num, HOK.out, ?_, HN1⟩, by simp [intOf] <;> omega⟩
        first
          | exact T9
          | (rw [← HRS.out]; exact T9)
          | (simpa using T9)
      · have heb : (re != 0) = true := by rw [bne_iff_ne]; exact he
        have hres : Ending.returned (.tuple #[.agg #[.bool false, .string ⟨#[]⟩, .int .i64 0], .int .i64 re]) = retR (sumL false 0 0 L) := by rw [HX.out, sumL_err HD.out HRR.out he]; rfl
        have HRES := Lib.hid hres
        clear hres he
        go_wp2_with (go_at_call 21; (with_reducible refine (HA.out _).mono ?_); rintro e w1 ⟨rfl, hX⟩; have q0 := (T1.step hX).r.lt; have q1 := (T1.step hX).c.lt; have T := T1.step hX; clear hX r0 r1 r2 c0 c1 c2 y0 y1 y2 v0 v1 v2; obtain ⟨r0, r1, r2⟩ := T.r.cells; obtain ⟨c0, c1, c2⟩ := T.c.cells; have y0 := T.r.fz 0; have y1 := T.r.fz 1; have y2 := T.r.fz 2; have v0 := T.c.fz 0; have v1 := T.c.fz 1; have v2 := T.c.fz 2)
        have hres := HRES.out
        exact bodyPost_ret (v := .tuple #[.agg #[.bool false, .string ⟨#[]⟩, .int .i64 0], .int .i64 re]) (by simp [results, Tryd.results9, go_sem, r0, r1, r2, q0, Nat.ne_of_gt q0, Nat.ne_of_lt q0]) rfl ⟨hres, (((T.bel.setCell (by simp; try omega) _).setCell (by simp; try omega) _).setCell (by simp; try omega) _).alloc (by simp; omega) _⟩
    · have hi : ¬ (k : Int) < n := by omega
      have hres : Ending.returned (.tuple #[.agg #[.bool g, .string (S m), .int .i64 x], .int .i64 0]) = retR (sumL false 0 0 L) := by rw [HX.out, sumL_end (by have := HN.out; omega)]; rfl
      have HRES := Lib.hid hres
      clear hres
      obtain ⟨M, hM⟩ : ∃ M, S m = M := ⟨_, rfl⟩
      rw [hM] at T HRES
      clear hM
      obtain ⟨r0, r1, r2⟩ := T.r.cells
      obtain ⟨c0, c1, c2⟩ := T.c.cells
      have y0 := T.r.fz 0
      have y1 := T.r.fz 1
      have y2 := T.r.fz 2
      have v0 := T.c.fz 0
      have v1 := T.c.fz 1
      have v2 := T.c.fz 2
      go_wp2
      have hres := HRES.out
      exact bodyPost_ret (v := .tuple #[.agg #[.bool g, .string M, .int .i64 x], .int .i64 0]) (by simp [results, Tryd.results9, go_sem, r0, r1, r2]) rfl ⟨hres, (((T.bel.setCell (by simp; try omega) _).setCell (by simp; try omega) _).setCell (by simp; try omega) _)⟩
end Go.Proofs.YtaikmelefllgpaaDoor.Dec
