/-
  Package path: the order of paths and what is under a path, walked; the law PathCompares.
-/
import Derived.Test.YtfdfncffogjbdaaDoorPsJ
import Derived.Test.YtfdfncffogjbdaaDoorRowCut
import Derived.Deep.RegionHeld3
namespace Go.Proofs.YtfdfncffogjbdaaDoor.Ps
open Go.RowKit
set_option linter.unusedVariables false
set_option linter.unusedSimpArgs false
open RO

/-- Two steps where they lie. -/
structure Q6 (w W : World) (g1 p1 g2 p2 : Nat) (db : Bool) (ds : ByteArray) (dx : Int) (eb : Bool) (es : ByteArray) (ex : Int) : Prop where
  bel : Below w.heap.size w W
  l1 : g1 < w.heap.size
  l2 : g2 < w.heap.size
  e0 : W.cell? ⟨g1, p1, none⟩ = some (.bool db)
  e1 : W.cell? ⟨g1, p1 + 1, none⟩ = some (.string ds)
  e2 : W.cell? ⟨g1, p1 + 2, none⟩ = some (.int .i64 dx)
  f0 : W.cell? ⟨g2, p2, none⟩ = some (.bool eb)
  f1 : W.cell? ⟨g2, p2 + 1, none⟩ = some (.string es)
  f2 : W.cell? ⟨g2, p2 + 2, none⟩ = some (.int .i64 ex)
section
variable {w W W' : World} {g1 p1 g2 p2 : Nat} {db eb : Bool} {ds es : ByteArray} {dx ex : Int}
theorem Q6.d (h : Q6 w W g1 p1 g2 p2 db ds dx eb es ex) : Q6 w W.drew g1 p1 g2 p2 db ds dx eb es ex := ⟨h.bel.drew, h.l1, h.l2, h.e0, h.e1, h.e2, h.f0, h.f1, h.f2⟩
theorem Q6.step (hb : Below W.heap.size W W') (h : Q6 w W g1 p1 g2 p2 db ds dx eb es ex) : Q6 w W' g1 p1 g2 p2 db ds dx eb es ex := by
  have l1 : g1 < W.heap.size := Nat.lt_of_lt_of_le h.l1 h.bel.size
  have l2 : g2 < W.heap.size := Nat.lt_of_lt_of_le h.l2 h.bel.size
  exact ⟨h.bel.trans (hb.mono h.bel.size), h.l1, h.l2, (hb.cell (p := ⟨g1, p1, none⟩) l1).trans h.e0, (hb.cell (p := ⟨g1, p1 + 1, none⟩) l1).trans h.e1, (hb.cell (p := ⟨g1, p1 + 2, none⟩) l1).trans h.e2, (hb.cell (p := ⟨g2, p2, none⟩) l2).trans h.f0, (hb.cell (p := ⟨g2, p2 + 1, none⟩) l2).trans h.f1, (hb.cell (p := ⟨g2, p2 + 2, none⟩) l2).trans h.f2⟩
theorem Q6.all (h : Q6 w W g1 p1 g2 p2 db ds dx eb es ex) : Q6 w W g1 p1 g2 p2 db ds dx eb es ex ∧ W.cell? ⟨g1, p1, none⟩ = some (.bool db) ∧ W.cell? ⟨g1, p1 + 1, none⟩ = some (.string ds) ∧ W.cell? ⟨g1, p1 + 2, none⟩ = some (.int .i64 dx) ∧ W.cell? ⟨g2, p2, none⟩ = some (.bool eb) ∧ W.cell? ⟨g2, p2 + 1, none⟩ = some (.string es) ∧ W.cell? ⟨g2, p2 + 2, none⟩ = some (.int .i64 ex) :=
  ⟨h, h.e0, h.e1, h.e2, h.f0, h.f1, h.f2⟩
end
set_option maxRecDepth 100000 in
set_option maxHeartbeats 4000000 in
theorem comparef_any (v1 v2 : Value) (L M : List St) (w : World) (h1 : Ss w w.heap.size v1 L) (h2 : Ss w w.heap.size v2 M) : Calls Tryd.prog 44 #[v1, v2, .func (.func 45) #[] #[]] w fun e w' => e = .returned (.int .i64 (cmpL L M)) ∧ Below w.heap.size w w' := by
  obtain ⟨n, hn⟩ : ∃ n, L.length = n := ⟨_, rfl⟩
  obtain ⟨m, hm⟩ : ∃ m, M.length = m := ⟨_, rfl⟩
  obtain ⟨a1, cap1, rfl, hn9⟩ := Rd.slice h1 hn
  obtain ⟨a2, cap2, rfl, hm9⟩ := Rd.slice h2 hm
  have C1 := Lib.hid (Ss.cellsAt h1 hn)
  have C2 := Lib.hid (Ss.cellsAt h2 hm)
  have HLO := Lib.hid (fun (k : Nat) (d : St) (h : L[k]? = some d) (hk : m ≤ k) => cmpL_long (M := M) h (by omega))
  have HSH := Lib.hid (fun (d : St) (h : M[n]? = some d) => cmpL_short (L := L) h (by omega))
  have HEN := Lib.hid (fun (h : m ≤ n) => cmpL_end (L := L) (M := M) (k := n) (by omega) (by omega))
  clear hn hm h1 h2
  go_enter Tryd.func44, Tryd.ntmps44
  go_wp2
  go_loopw [13] (fun i wr => ∃ k : Nat, k ≤ n ∧ k ≤ m ∧ i = .int .i64 k ∧ Below w.heap.size w wr ∧ Hid (cmpL L M = cmpL (L.drop k) (M.drop k))) (fun i _ => n - (intOf i).toNat)
  case atStart => exact ⟨0, by omega, by omega, rfl, Below.refl _ _, Lib.hid rfl⟩
  case round =>
    obtain ⟨k, hk, hk2, rfl, hb, HX⟩ := hrel
    by_cases hlt : k < n
    · obtain ⟨g1, o1, d, rfl, hd, e0, e1, e2, hg1⟩ := C1.out _ hb k hlt
      by_cases hlm : k < m
      · obtain ⟨g2, o2, e, rfl, he, f0, f1, f2, hg2⟩ := C2.out _ hb k hlm
        have HS := Lib.hid (cmpL_step hd he)
        clear hd he
        obtain ⟨db, ds, dx⟩ := d
        obtain ⟨eb, es, ex⟩ := e
        simp only at e0 e1 e2 f0 f1 f2
        have HCS := Lib.hid (fun w => csteps_any db ds dx eb es ex w)
        obtain ⟨c, hc⟩ : ∃ c, cS ⟨db, ds, dx⟩ ⟨eb, es, ex⟩ = c := ⟨_, rfl⟩
        rw [hc] at HS HCS
        clear hc
        have hb1 : Below wr.heap.size wr (wr.alloc (.cells #[.bool db, .string ds, .int .i64 dx] 26)) := (Below.refl _ _).alloc (Nat.le_refl _) _
        have f0 := (hb1.cell (p := ⟨g2, o2 + k * 3, none⟩) (Nat.lt_of_lt_of_le hg2 hb.size)).trans f0
        have f1 := (hb1.cell (p := ⟨g2, o2 + k * 3 + 1, none⟩) (Nat.lt_of_lt_of_le hg2 hb.size)).trans f1
        have f2 := (hb1.cell (p := ⟨g2, o2 + k * 3 + 2, none⟩) (Nat.lt_of_lt_of_le hg2 hb.size)).trans f2
        have A := (SC.new wr db ds dx).alloc (.cells #[.bool eb, .string es, .int .i64 ex] 26)
        have B := SC.new (wr.alloc (.cells #[.bool db, .string ds, .int .i64 dx] 26)) eb es ex
        rw [show (wr.alloc (.cells #[.bool db, .string ds, .int .i64 dx] 26)).heap.size = wr.heap.size + 1 by simp] at B
        obtain ⟨a0, a1, a2⟩ := A.cells
        obtain ⟨b0, b1, b2⟩ := B.cells
        have bl : Below w.heap.size w ((wr.alloc (.cells #[.bool db, .string ds, .int .i64 dx] 26)).alloc (.cells #[.bool eb, .string es, .int .i64 ex] 26)) := (hb.alloc hb.size _).alloc (Nat.le_trans hb.size (by simp)) _
        by_cases hc0 : c = 0
        · have HX2 : Hid (cmpL L M = cmpL (L.drop (k + 1)) (M.drop (k + 1))) := Lib.hid (by rw [HX.out, HS.out, if_neg (by rw [hc0]; simp)])
          subst hc0
          clear HS HX
          go_wp2_with (go_at_call 45; (with_reducible refine (HCS.out _).mono ?_); rintro e w2 ⟨rfl, hX⟩; have bl := bl.trans (hX.mono bl.size); clear hX)
          exact ⟨⟨k + 1, by omega, by omega, by go_num, bl, HX2⟩, by simp [intOf]; omega⟩
        · have HX2 : Hid (cmpL L M = c) := Lib.hid (by rw [HX.out, HS.out, if_pos hc0])
          have hne : (c != 0) = true := by rw [bne_iff_ne]; exact hc0
          clear HS HX hc0
          go_wp2_with (go_at_call 45; (with_reducible refine (HCS.out _).mono ?_); rintro e w2 ⟨rfl, hX⟩; have bl := bl.trans (hX.mono bl.size); clear hX)
          go_ret
          exact ⟨ret_int HX2.out.symm, bl⟩
      · obtain rfl : k = m := by omega
        have HX2 : Hid (cmpL L M = 1) := Lib.hid (HX.out.trans (HLO.out _ _ hd (Nat.le_refl _)))
        clear hd
        obtain ⟨db, ds, dx⟩ := d
        simp only at e0 e1 e2
        have bl := hb.alloc hb.size (.cells #[.bool db, .string ds, .int .i64 dx] 26)
        go_wp2
        go_ret
        exact ⟨ret_int HX2.out.symm, bl⟩
    · obtain rfl : k = n := by omega
      by_cases hlm : k < m
      · obtain ⟨g2, o2, e, _, he, _⟩ := C2.out _ hb k hlm
        have HX2 : Hid (cmpL L M = -1) := Lib.hid (HX.out.trans (HSH.out _ he))
        clear he
        go_wp2
        go_ret
        exact ⟨ret_int HX2.out.symm, hb⟩
      · have HX2 : Hid (cmpL L M = 0) := Lib.hid (HX.out.trans (HEN.out (by omega)))
        go_wp2
        go_ret
        exact ⟨ret_int HX2.out.symm, hb⟩
set_option maxRecDepth 100000 in
set_option maxHeartbeats 4000000 in
theorem cmp_any (v1 v2 : Value) (L M : List St) (w : World) (h1 : Ss w w.heap.size v1 L) (h2 : Ss w w.heap.size v2 M) : Calls Tryd.prog 22 #[v1, v2] w fun e w' => e = .returned (.int .i64 (cmpL L M)) ∧ Below w.heap.size w w' := by
  have HE := Lib.hid (comparef_any v1 v2 L M w h1 h2)
  clear h1 h2
  go_enter Tryd.func22, Tryd.ntmps22
  go_wp2_with (go_at_call 44; (with_reducible refine (HE.out).mono ?_); rintro e w1 ⟨rfl, hX⟩)
  go_ret
  exact ⟨rfl, hX⟩
set_option maxRecDepth 100000 in
set_option maxHeartbeats 4000000 in
theorem rcmp_any (v1 v2 : Value) (L M : List St) (w : World) (h1 : Ss w w.heap.size v1 L) (h2 : Ss w w.heap.size v2 M) (hL : L.all stV = true) (hM : M.all stV = true) : Calls Tryd.prog 23 #[v1, v2] w fun e w' => e = .returned (.int .i64 (cmpL L M)) ∧ Below w.heap.size w w' := by
  obtain ⟨n, hn⟩ : ∃ n, L.length = n := ⟨_, rfl⟩
  obtain ⟨m, hm⟩ : ∃ m, M.length = m := ⟨_, rfl⟩
  obtain ⟨a1, cap1, rfl, hn9⟩ := Rd.slice h1 hn
  obtain ⟨a2, cap2, rfl, hm9⟩ := Rd.slice h2 hm
  have C1 := Lib.hid (Ss.cellsAt h1 hn)
  have C2 := Lib.hid (Ss.cellsAt h2 hm)
  have HLO := Lib.hid (fun (k : Nat) (d : St) (h : L[k]? = some d) (hk : m ≤ k) => cmpL_long (M := M) h (by omega))
  have HSH := Lib.hid (fun (d : St) (h : M[n]? = some d) => cmpL_short (L := L) h (by omega))
  have HEN := Lib.hid (fun (h : m ≤ n) => cmpL_end (L := L) (M := M) (k := n) (by omega) (by omega))
  have HA1 := Lib.hid (List.all_eq_true.1 hL)
  have HA2 := Lib.hid (List.all_eq_true.1 hM)
  clear hn hm h1 h2 hL hM
  go_enter Tryd.func23, Tryd.ntmps23
  go_wp2
  go_loopw [5] (fun i wr => ∃ k : Nat, k ≤ n ∧ k ≤ m ∧ i = .int .i64 k ∧ Below w.heap.size w wr ∧ Hid (cmpL L M = cmpL (L.drop k) (M.drop k))) (fun i _ => n - (intOf i).toNat)
  case atStart => exact ⟨0, by omega, by omega, rfl, Below.refl _ _, Lib.hid rfl⟩
  case round =>
    obtain ⟨k, hk, hk2, rfl, hb, HX⟩ := hrel
    by_cases hlt : k < n
    · by_cases hlm : k < m
      · obtain ⟨g1, o1, d, rfl, hd, e0, e1, e2, hg1⟩ := C1.out _ hb k hlt
        obtain ⟨g2, o2, e, rfl, he, f0, f1, f2, hg2⟩ := C2.out _ hb k hlm
        have HS := Lib.hid (cmpL_step hd he)
        have v1 := HA1.out d (List.mem_of_getElem? hd)
        have v2 := HA2.out e (List.mem_of_getElem? he)
        clear hd he
        obtain ⟨db, ds, dx⟩ := d
        obtain ⟨eb, es, ex⟩ := e
        simp only at e0 e1 e2 f0 f1 f2
        have HCS := Lib.hid (fun w => rsteps_any db ds dx eb es ex w v1 v2)
        obtain ⟨c, hc⟩ : ∃ c, cS ⟨db, ds, dx⟩ ⟨eb, es, ex⟩ = c := ⟨_, rfl⟩
        rw [hc] at HS HCS
        clear hc v1 v2
        have T : Q6 w wr g1 (o1 + k * 3) g2 (o2 + k * 3) db ds dx eb es ex := ⟨hb, hg1, hg2, e0, e1, e2, f0, f1, f2⟩
        by_cases hc0 : c = 0
        · have HX2 : Hid (cmpL L M = cmpL (L.drop (k + 1)) (M.drop (k + 1))) := Lib.hid (by rw [HX.out, HS.out, if_neg (by rw [hc0]; simp)])
          subst hc0
          clear HS HX
          go_wp2
          go_region_held3 (fun (W : World) => Q6 w W g1 (o1 + k * 3) g2 (o2 + k * 3) db ds dx eb es ex ∧ W.cell? ⟨g1, o1 + k * 3, none⟩ = some (.bool db) ∧ W.cell? ⟨g1, o1 + k * 3 + 1, none⟩ = some (.string ds) ∧ W.cell? ⟨g1, o1 + k * 3 + 2, none⟩ = some (.int .i64 dx) ∧ W.cell? ⟨g2, o2 + k * 3, none⟩ = some (.bool eb) ∧ W.cell? ⟨g2, o2 + k * 3 + 1, none⟩ = some (.string es) ∧ W.cell? ⟨g2, o2 + k * 3 + 2, none⟩ = some (.int .i64 ex)) ((first | (go_split_ands; exact Q6.all (by assumption)) | (go_split_ands; exact Q6.all (Q6.d (by assumption))) | (go_split_ands; exact Q6.all (Q6.step hX (by assumption))))) (first | (go_at_call 46; (with_reducible refine (HCS.out _).mono ?_); rintro e w2 ⟨rfl, hX⟩))
          rename_i hH
          have bl := hH.1.bel
          clear hH T
          go_wp2
          exact ⟨⟨k + 1, by omega, by omega, by go_num, bl, HX2⟩, by simp [intOf]; omega⟩
        · have HX2 : Hid (cmpL L M = c) := Lib.hid (by rw [HX.out, HS.out, if_pos hc0])
          have hne : (c != 0) = true := by rw [bne_iff_ne]; exact hc0
          clear HS HX hc0
          go_wp2
          go_region_held3 (fun (W : World) => Q6 w W g1 (o1 + k * 3) g2 (o2 + k * 3) db ds dx eb es ex ∧ W.cell? ⟨g1, o1 + k * 3, none⟩ = some (.bool db) ∧ W.cell? ⟨g1, o1 + k * 3 + 1, none⟩ = some (.string ds) ∧ W.cell? ⟨g1, o1 + k * 3 + 2, none⟩ = some (.int .i64 dx) ∧ W.cell? ⟨g2, o2 + k * 3, none⟩ = some (.bool eb) ∧ W.cell? ⟨g2, o2 + k * 3 + 1, none⟩ = some (.string es) ∧ W.cell? ⟨g2, o2 + k * 3 + 2, none⟩ = some (.int .i64 ex)) ((first | (go_split_ands; exact Q6.all (by assumption)) | (go_split_ands; exact Q6.all (Q6.d (by assumption))) | (go_split_ands; exact Q6.all (Q6.step hX (by assumption))))) (first | (go_at_call 46; (with_reducible refine (HCS.out _).mono ?_); rintro e w2 ⟨rfl, hX⟩))
          rename_i hH
          have bl := hH.1.bel
          clear hH T
          go_wp2
          go_ret
          exact ⟨ret_int HX2.out.symm, bl⟩
      · obtain rfl : k = m := by omega
        obtain ⟨g1, o1, d, _, hd, _⟩ := C1.out _ hb k hlt
        have HX2 : Hid (cmpL L M = 1) := Lib.hid (HX.out.trans (HLO.out _ _ hd (Nat.le_refl _)))
        clear hd
        go_wp2
        go_ret
        exact ⟨ret_int HX2.out.symm, hb⟩
    · obtain rfl : k = n := by omega
      by_cases hlm : k < m
      · obtain ⟨g2, o2, e, _, he, _⟩ := C2.out _ hb k hlm
        have HX2 : Hid (cmpL L M = -1) := Lib.hid (HX.out.trans (HSH.out _ he))
        clear he
        go_wp2
        go_ret
        exact ⟨ret_int HX2.out.symm, hb⟩
      · have HX2 : Hid (cmpL L M = 0) := Lib.hid (HX.out.trans (HEN.out (by omega)))
        go_wp2
        go_ret
        exact ⟨ret_int HX2.out.symm, hb⟩
/-- Does a path begin with another one? -/
def undB (L M : List St) : Bool := decide (M.length ≤ L.length) && eqL (L.take M.length) M
theorem sz_st : ∀ w, (sizeOf 26).run Tryd.prog w = .ok 3 w := Tryd.sizeOf26
set_option maxRecDepth 100000 in
set_option maxHeartbeats 4000000 in
theorem under_any (v1 v2 : Value) (L M : List St) (w : World) (h1 : Ss w w.heap.size v1 L) (h2 : Ss w w.heap.size v2 M) : Calls Tryd.prog 24 #[v1, v2] w fun e w' => e = .returned (.bool (undB L M)) ∧ Below w.heap.size w w' := by
  obtain ⟨n, hn⟩ : ∃ n, L.length = n := ⟨_, rfl⟩
  obtain ⟨m, hm⟩ : ∃ m, M.length = m := ⟨_, rfl⟩
  by_cases hnm : m ≤ n
  · have HE : Hid (undB L M = eqL (L.take m) M) := Lib.hid (by unfold undB; rw [hm, hn, decide_eq_true hnm, Bool.true_and])
    obtain ⟨a', c', hr, hs⟩ := Rd.to_ (t := 22) Tryd.underlying22 sz_st h1 (m := m) (by omega)
    obtain ⟨a1, cap1, rfl, hn9⟩ := Rd.slice h1 hn
    obtain ⟨a2, cap2, rfl, hm9⟩ := Rd.slice h2 hm
    have HEQ := Lib.hid (sequal_any (.slice a' m c') (.slice a2 m cap2) (L.take m) M w hr h2)
    clear hn hm h1 h2 hr
    go_enter Tryd.func24, Tryd.ntmps24
    go_wp2_with (go_at_call 43; (with_reducible refine (HEQ.out).mono ?_); rintro e w1 ⟨rfl, hX⟩)
    go_ret
    exact ⟨ret_bool HE.out.symm, hX⟩
  · have HE : Hid (undB L M = false) := Lib.hid (by unfold undB; rw [hm, hn, decide_eq_false hnm, Bool.false_and])
    obtain ⟨a1, cap1, rfl, hn9⟩ := Rd.slice h1 hn
    obtain ⟨a2, cap2, rfl, hm9⟩ := Rd.slice h2 hm
    clear hn hm h1 h2
    go_enter Tryd.func24, Tryd.ntmps24
    go_wp2
    go_ret
    exact ⟨ret_bool HE.out.symm, Below.refl _ _⟩
set_option maxRecDepth 100000 in
set_option maxHeartbeats 4000000 in
theorem runder_any (v1 v2 : Value) (L M : List St) (w : World) (h1 : Ss w w.heap.size v1 L) (h2 : Ss w w.heap.size v2 M) : Calls Tryd.prog 25 #[v1, v2] w fun e w' => e = .returned (.bool (undB L M)) ∧ Below w.heap.size w w' := by
  obtain ⟨n, hn⟩ : ∃ n, L.length = n := ⟨_, rfl⟩
  obtain ⟨m, hm⟩ : ∃ m, M.length = m := ⟨_, rfl⟩
  by_cases hnm : m ≤ n
  · have HE : Hid (undB L M = eqL (L.take m) M) := Lib.hid (by unfold undB; rw [hm, hn, decide_eq_true hnm, Bool.true_and])
    obtain ⟨a', c', hr, hs⟩ := Rd.to_ (t := 22) Tryd.underlying22 sz_st h1 (m := m) (by omega)
    obtain ⟨a1, cap1, rfl, hn9⟩ := Rd.slice h1 hn
    obtain ⟨a2, cap2, rfl, hm9⟩ := Rd.slice h2 hm
    have HEQ := Lib.hid (requal_any (.slice a' m c') (.slice a2 m cap2) (L.take m) M w hr h2)
    clear hn hm h1 h2 hr
    go_enter Tryd.func25, Tryd.ntmps25
    go_wp2_with (go_at_call 19; (with_reducible refine (HEQ.out).mono ?_); rintro e w1 ⟨rfl, hX⟩)
    go_ret
    exact ⟨ret_bool HE.out.symm, hX⟩
  · have HE : Hid (undB L M = false) := Lib.hid (by unfold undB; rw [hm, hn, decide_eq_false hnm, Bool.false_and])
    obtain ⟨a1, cap1, rfl, hn9⟩ := Rd.slice h1 hn
    obtain ⟨a2, cap2, rfl, hm9⟩ := Rd.slice h2 hm
    clear hn hm h1 h2
    go_enter Tryd.func25, Tryd.ntmps25
    go_wp2
    go_ret
    exact ⟨ret_bool HE.out.symm, Below.refl _ _⟩
theorem pv_all2 {L : List St} (h : pvB L = true) : L.all stV = true := by
  unfold pvB at h
  rw [Bool.and_eq_true] at h
  exact h.2
set_option maxRecDepth 100000 in
set_option maxHeartbeats 4000000 in
theorem compares_walk (a1 : Option Addr) (n cap1 : Nat) (a2 : Option Addr) (m cap2 : Nat) (w : World) (hT : Utf.Tabs w) (ht : Tb w) {L M : List St} (h1 : L.length = n ∧ Ss w w.heap.size (.slice a1 n cap1) L ∧ ∀ d ∈ L, d.ok) (h2 : M.length = m ∧ Ss w w.heap.size (.slice a2 m cap2) M ∧ ∀ d ∈ M, d.ok) : Calls Tryd.prog 6 #[.slice a1 n cap1, .slice a2 m cap2] w fun e w' => e = .returned (.bool true) ∧ Below w.heap.size w w' := by
  obtain ⟨hn, hv1, hok1⟩ := h1
  obtain ⟨hm, hv2, hok2⟩ := h2
  have HL := Lib.hid (fun (w' : World) (hb : Below w.heap.size w w') => lives_any w' (hT.below hb) (ht.next hb))
  have HV1 := Lib.hid (fun (w' : World) (hb : Below w.heap.size w w') => rpvalid_any _ L w' (hv1.below hb |>.mono hb.size) hok1)
  have HV2 := Lib.hid (fun (w' : World) (hb : Below w.heap.size w w') => rpvalid_any _ M w' (hv2.below hb |>.mono hb.size) hok2)
  have bl := Below.refl w.heap.size w
  have HS1 := Lib.hid (fun (w' : World) (hb : Below w.heap.size w w') => (show Ss w' w'.heap.size _ L from (hv1.below hb).mono hb.size))
  have HS2 := Lib.hid (fun (w' : World) (hb : Below w.heap.size w w') => (show Ss w' w'.heap.size _ M from (hv2.below hb).mono hb.size))
  clear hT ht hok1 hok2 hn hm hv1 hv2
  cases e1 : pvB L with
  | false =>
    rw [e1] at HV1
    clear e1 HV2
    go_enter Tryd.func6, Tryd.ntmps6
    go_wp2_with (first | (go_at_call 11; (with_reducible refine (HV1.out _ bl).mono ?_); rintro e w1 ⟨rfl, hX⟩; have bl := bl.trans (hX.mono bl.size); clear hX) | (go_at_call 9; (with_reducible refine (HL.out _ bl).mono ?_); rintro e w1 ⟨rfl, hX⟩; have bl := bl.trans (hX.mono bl.size); clear hX))
    go_ret
    exact ⟨rfl, bl⟩
  | true =>
    rw [e1] at HV1
    cases e2 : pvB M with
    | false =>
      rw [e2] at HV2
      clear e1 e2
      go_enter Tryd.func6, Tryd.ntmps6
      go_wp2_with (first | (go_at_call 11; first | ((with_reducible refine (HV1.out _ bl).mono ?_); rintro e w1 ⟨rfl, hX⟩; have bl := bl.trans (hX.mono bl.size); clear hX) | ((with_reducible refine (HV2.out _ bl).mono ?_); rintro e w1 ⟨rfl, hX⟩; have bl := bl.trans (hX.mono bl.size); clear hX)) | (go_at_call 9; (with_reducible refine (HL.out _ bl).mono ?_); rintro e w1 ⟨rfl, hX⟩; have bl := bl.trans (hX.mono bl.size); clear hX))
      go_ret
      exact ⟨rfl, bl⟩
    | true =>
      rw [e2] at HV2
      have HE := Lib.hid (fun (w' : World) (hb : Below w.heap.size w w') => equal_any _ _ L M w' (HS1.out _ hb) (HS2.out _ hb))
      have HRE := Lib.hid (fun (w' : World) (hb : Below w.heap.size w w') => requal_any _ _ L M w' (HS1.out _ hb) (HS2.out _ hb))
      have HC := Lib.hid (fun (w' : World) (hb : Below w.heap.size w w') => cmp_any _ _ L M w' (HS1.out _ hb) (HS2.out _ hb))
      have HRC := Lib.hid (fun (w' : World) (hb : Below w.heap.size w w') => rcmp_any _ _ L M w' (HS1.out _ hb) (HS2.out _ hb) (pv_all2 e1) (pv_all2 e2))
      have HU := Lib.hid (fun (w' : World) (hb : Below w.heap.size w w') => under_any _ _ L M w' (HS1.out _ hb) (HS2.out _ hb))
      have HRU := Lib.hid (fun (w' : World) (hb : Below w.heap.size w w') => runder_any _ _ L M w' (HS1.out _ hb) (HS2.out _ hb))
      generalize eqL L M = q1 at *
      generalize cmpL L M = q2 at *
      generalize undB L M = q3 at *
      clear e1 e2 HS1 HS2
      go_enter Tryd.func6, Tryd.ntmps6
      go_wp2_with (first | (go_at_call 11; first | ((with_reducible refine (HV1.out _ bl).mono ?_); rintro e w1 ⟨rfl, hX⟩; have bl := bl.trans (hX.mono bl.size); clear hX) | ((with_reducible refine (HV2.out _ bl).mono ?_); rintro e w1 ⟨rfl, hX⟩; have bl := bl.trans (hX.mono bl.size); clear hX)) | (go_at_call 21; (with_reducible refine (HE.out _ bl).mono ?_); rintro e w1 ⟨rfl, hX⟩; have bl := bl.trans (hX.mono bl.size); clear hX) | (go_at_call 19; (with_reducible refine (HRE.out _ bl).mono ?_); rintro e w1 ⟨rfl, hX⟩; have bl := bl.trans (hX.mono bl.size); clear hX) | (go_at_call 22; (with_reducible refine (HC.out _ bl).mono ?_); rintro e w1 ⟨rfl, hX⟩; have bl := bl.trans (hX.mono bl.size); clear hX) | (go_at_call 23; (with_reducible refine (HRC.out _ bl).mono ?_); rintro e w1 ⟨rfl, hX⟩; have bl := bl.trans (hX.mono bl.size); clear hX) | (go_at_call 24; (with_reducible refine (HU.out _ bl).mono ?_); rintro e w1 ⟨rfl, hX⟩; have bl := bl.trans (hX.mono bl.size); clear hX) | (go_at_call 25; (with_reducible refine (HRU.out _ bl).mono ?_); rintro e w1 ⟨rfl, hX⟩; have bl := bl.trans (hX.mono bl.size); clear hX) | (go_at_call 9; (with_reducible refine (HL.out _ bl).mono ?_); rintro e w1 ⟨rfl, hX⟩; have bl := bl.trans (hX.mono bl.size); clear hX))
      go_ret
      exact ⟨rfl, bl⟩
end Go.Proofs.YtfdfncffogjbdaaDoor.Ps
