/-
  Package moment: the chapter's example, read.
-/
import Derived.Test.YtkbddelacjjapaaDoorMomM
namespace Go.Proofs.YtkbddelacjjapaaDoor.Mom
open Go.RowKit
set_option linter.unusedVariables false
set_option linter.unusedSimpArgs false
open Go.Proofs.YtkbddelacjjapaaDoor.Cal

theorem FC.new (w : World) : FC (w.alloc (.cells #[.int .i64 0, .int .i64 0, .int .i64 0, .int .i64 0, .int .i64 0, .int .i64 0, .int .i64 0, .int .i64 0, .bool false, .int .i64 0, .int .i64 0] 44)) w.heap.size 0 0 0 0 0 0 0 0 false 0 0 :=
  World.rowIs_alloc w _ 44 (ff 0 0 0 0 0 0 0 0 false 0 0) (fun i hi => by
    have hi' : i < 11 := hi
    rcases (show i = 0 ∨ i = 1 ∨ i = 2 ∨ i = 3 ∨ i = 4 ∨ i = 5 ∨ i = 6 ∨ i = 7 ∨ i = 8 ∨ i = 9 ∨ i = 10 by omega) with rfl | rfl | rfl | rfl | rfl | rfl | rfl | rfl | rfl | rfl | rfl <;> rfl)
/-- Fields with some date, and a result, in blocks of their own. -/
structure C3 (w W : World) : Prop where
  c : ∃ y mo d, FC W (w.heap.size + 1) 0 y mo d 0 0 0 0 false 0 0
  r : FC W w.heap.size 0 0 0 0 0 0 0 0 false 0 0
  bel : Below w.heap.size w W
section
variable {w W W' : World}
theorem C3.dr (H : C3 w W) : C3 w W.drew := ⟨by obtain ⟨_, _, _, hc⟩ := H.c; exact ⟨_, _, _, hc⟩, H.r, H.bel.drew⟩
theorem C3.step (hb : Below W.heap.size W W') (H : C3 w W) : C3 w W' := by
  obtain ⟨y, mo, d, hc⟩ := H.c
  exact ⟨⟨_, _, _, hc.below hb hc.lt⟩, H.r.below hb H.r.lt, H.bel.trans (hb.mono H.bel.size)⟩
theorem C3.new (w : World) : C3 w ((w.alloc (.cells #[.int .i64 0, .int .i64 0, .int .i64 0, .int .i64 0, .int .i64 0, .int .i64 0, .int .i64 0, .int .i64 0, .bool false, .int .i64 0, .int .i64 0] 44)).alloc (.cells #[.int .i64 0, .int .i64 0, .int .i64 0, .int .i64 0, .int .i64 0, .int .i64 0, .int .i64 0, .int .i64 0, .bool false, .int .i64 0, .int .i64 0] 44)) := by
  have h1 := FC.new w
  have h2 := FC.new (w.alloc (.cells #[.int .i64 0, .int .i64 0, .int .i64 0, .int .i64 0, .int .i64 0, .int .i64 0, .int .i64 0, .int .i64 0, .bool false, .int .i64 0, .int .i64 0] 44))
  rw [show (w.alloc (.cells #[.int .i64 0, .int .i64 0, .int .i64 0, .int .i64 0, .int .i64 0, .int .i64 0, .int .i64 0, .int .i64 0, .bool false, .int .i64 0, .int .i64 0] 44)).heap.size = w.heap.size + 1 by simp] at h2
  exact ⟨⟨_, _, _, h2⟩, h1.alloc _, ((Below.refl _ _).alloc (Nat.le_refl _) _).alloc (by simp) _⟩
theorem C3.oth (H : C3 w W) (i : Nat) (v : Value) : FC (W.setCell ⟨w.heap.size + 1, i, none⟩ v) w.heap.size 0 0 0 0 0 0 0 0 false 0 0 ∧ Below w.heap.size w (W.setCell ⟨w.heap.size + 1, i, none⟩ v) :=
  ⟨World.rowIs.setOther H.r (by simp) v, H.bel.setCell (by simp) _⟩
theorem C3.p1 (H : C3 w W) (x : Int) : C3 w (W.setCell ⟨w.heap.size + 1, 1, none⟩ (.int .i64 x)) := by
  obtain ⟨y, mo, d, hc⟩ := H.c
  refine ⟨⟨x, mo, d, ?_⟩, (H.oth 1 _).1, (H.oth 1 _).2⟩
  exact (World.rowIs.set hc 1 _).congr fun i hi => by
    rcases (show i = 0 ∨ i = 1 ∨ i = 2 ∨ i = 3 ∨ i = 4 ∨ i = 5 ∨ i = 6 ∨ i = 7 ∨ i = 8 ∨ i = 9 ∨ i = 10 by omega) with rfl | rfl | rfl | rfl | rfl | rfl | rfl | rfl | rfl | rfl | rfl <;> rfl
theorem C3.p2 (H : C3 w W) (x : Int) : C3 w (W.setCell ⟨w.heap.size + 1, 2, none⟩ (.int .i64 x)) := by
  obtain ⟨y, mo, d, hc⟩ := H.c
  refine ⟨⟨y, x, d, ?_⟩, (H.oth 2 _).1, (H.oth 2 _).2⟩
  exact (World.rowIs.set hc 2 _).congr fun i hi => by
    rcases (show i = 0 ∨ i = 1 ∨ i = 2 ∨ i = 3 ∨ i = 4 ∨ i = 5 ∨ i = 6 ∨ i = 7 ∨ i = 8 ∨ i = 9 ∨ i = 10 by omega) with rfl | rfl | rfl | rfl | rfl | rfl | rfl | rfl | rfl | rfl | rfl <;> rfl
theorem C3.p3 (H : C3 w W) (x : Int) : C3 w (W.setCell ⟨w.heap.size + 1, 3, none⟩ (.int .i64 x)) := by
  obtain ⟨y, mo, d, hc⟩ := H.c
  refine ⟨⟨y, mo, x, ?_⟩, (H.oth 3 _).1, (H.oth 3 _).2⟩
  exact (World.rowIs.set hc 3 _).congr fun i hi => by
    rcases (show i = 0 ∨ i = 1 ∨ i = 2 ∨ i = 3 ∨ i = 4 ∨ i = 5 ∨ i = 6 ∨ i = 7 ∨ i = 8 ∨ i = 9 ∨ i = 10 by omega) with rfl | rfl | rfl | rfl | rfl | rfl | rfl | rfl | rfl | rfl | rfl <;> rfl
theorem C3.fin (H : C3 w W) (y mo d : Int) : FC (((W.setCell ⟨w.heap.size + 1, 1, none⟩ (.int .i64 y)).setCell ⟨w.heap.size + 1, 2, none⟩ (.int .i64 mo)).setCell ⟨w.heap.size + 1, 3, none⟩ (.int .i64 d)) (w.heap.size + 1) 0 y mo d 0 0 0 0 false 0 0 ∧ FC (((W.setCell ⟨w.heap.size + 1, 1, none⟩ (.int .i64 y)).setCell ⟨w.heap.size + 1, 2, none⟩ (.int .i64 mo)).setCell ⟨w.heap.size + 1, 3, none⟩ (.int .i64 d)) w.heap.size 0 0 0 0 0 0 0 0 false 0 0 ∧ Below w.heap.size w (((W.setCell ⟨w.heap.size + 1, 1, none⟩ (.int .i64 y)).setCell ⟨w.heap.size + 1, 2, none⟩ (.int .i64 mo)).setCell ⟨w.heap.size + 1, 3, none⟩ (.int .i64 d)) := by
  have q := ((H.p1 y).p2 mo).p3 d
  refine ⟨?_, q.r, q.bel⟩
  obtain ⟨_, _, _, hc⟩ := H.c
  exact (World.rowIs.set (World.rowIs.set (World.rowIs.set hc 1 _) 2 _) 3 _).congr fun i hi => by
    rcases (show i = 0 ∨ i = 1 ∨ i = 2 ∨ i = 3 ∨ i = 4 ∨ i = 5 ∨ i = 6 ∨ i = 7 ∨ i = 8 ∨ i = 9 ∨ i = 10 by omega) with rfl | rfl | rfl | rfl | rfl | rfl | rfl | rfl | rfl | rfl | rfl <;> rfl
end
set_option maxRecDepth 100000 in
set_option maxHeartbeats 8000000 in
theorem split_lit (s d0 f1 f2 f3 s' r : ByteArray) (y mo d h mi se na zh zm : Int) (w : World)
    (hs : s.size = 29) (hd0 : s.extract 0 10 = d0) (hm : FormB d0 ⟨#[48, 48, 48, 48, 45, 48, 48, 45, 48, 48]⟩)
    (hf1 : s.extract 0 4 = f1) (hf2 : s.extract 5 7 = f2) (hf3 : s.extract 8 10 = f3) (z1 : f1.size = 4) (z2 : f2.size = 2) (z3 : f3.size = 2) (a1 : Lib.atoi f1.data.toList = some y) (a2 : Lib.atoi f2.data.toList = some mo) (a3 : Lib.atoi f3.data.toList = some d)
    (hsp : ∀ hh : 10 < s.size, (s[10]'hh).toNat = 32) (hs' : s.extract 11 29 = s') (zs' : s'.size = 18) (zr : r.size = 6)
    (HCL : ∀ (A : Nat) (W : World) (k y mo d zh zm : Int), FC W A k y mo d 0 0 0 0 false zh zm → Calls Tryd.prog 35 #[.pointer (some ⟨A, 0, none⟩), .string s'] W fun e w' => e = .returned (.tuple #[.string r, .bool true]) ∧ FC w' A k y mo d h mi se na false zh zm ∧ Below A W w')
    (HZN : ∀ (A : Nat) (W : World) (k y mo d h mi se na zh0 zm0 : Int), FC W A k y mo d h mi se na false zh0 zm0 → Calls Tryd.prog 36 #[.pointer (some ⟨A, 0, none⟩), .string r] W fun e w' => e = .returned (.bool true) ∧ FC w' A k y mo d h mi se na true zh zm ∧ Below A W w') :
    Calls Tryd.prog 22 #[.string s] w fun e w' => e = .returned (.tuple #[.agg #[.int .i64 4, .int .i64 y, .int .i64 mo, .int .i64 d, .int .i64 h, .int .i64 mi, .int .i64 se, .int .i64 na, .bool true, .int .i64 zh, .int .i64 zm], .bool true]) ∧ Below w.heap.size w w' := by
  have HM := Lib.hid (fun w => matches_yes d0 ⟨#[48, 48, 48, 48, 45, 48, 48, 45, 48, 48]⟩ w hm (by have := hm.1; have h8 : (⟨#[48, 48, 48, 48, 45, 48, 48, 45, 48, 48]⟩ : ByteArray).size = 10 := rfl; omega))
  have HN1 := Lib.hid (fun w => number_any f1 y w (by omega) a1)
  have HN2 := Lib.hid (fun w => number_any f2 mo w (by omega) a2)
  have HN3 := Lib.hid (fun w => number_any f3 d w (by omega) a3)
  have HC := Lib.hid HCL
  have HZ := Lib.hid HZN
  clear HCL HZN
  have h10 : 10 < s.size := by omega
  have hsp := hsp h10
  have t1 : ((s[10].toNat : Int) != 84) = true := by rw [hsp]; rfl
  have t2 : ((s[10].toNat : Int) != 116) = true := by rw [hsp]; rfl
  have t3 : ((s[10].toNat : Int) != 32) = false := by rw [hsp]; rfl
  have r1 : r.toList.isEmpty = false := by
    rw [toList_data]
    cases hc : r.data.toList with
    | nil => have : r.size = 0 := by show r.data.toList.length = 0; rw [hc]; rfl
             omega
    | cons _ _ => rfl
  have r2 : ¬ r.toList = [] := by intro e; rw [e] at r1; cases r1
  have HT0 := Lib.hid (C3.new w)
  clear hm a1 a2 a3 hsp z1 z2 z3
  go_enter Tryd.func22, Tryd.ntmps22
  go_wp2_with (go_at_call 33; (with_reducible refine (HM.out _).mono ?_); rintro e w1 ⟨rfl, hX⟩; have HT1 := Lib.hid (C3.step hX HT0.out); clear hX)
  have T := HT1.out
  go_region_held3 (fun (W : World) => C3 w W ∧ True) ((first | (exact ⟨by assumption, trivial⟩) | (go_split_ands; exact ⟨C3.dr (by assumption), trivial⟩) | (go_split_ands; exact ⟨C3.step hX (by assumption), trivial⟩) | (go_split_ands; exact ⟨C3.p1 (by assumption) _, trivial⟩) | (go_split_ands; exact ⟨C3.p2 (by assumption) _, trivial⟩) | (go_split_ands; exact ⟨C3.p3 (by assumption) _, trivial⟩))) (first | (go_at_call 34; first | ((with_reducible refine (HN1.out _).mono ?_); rintro e wn ⟨rfl, hX⟩) | ((with_reducible refine (HN2.out _).mono ?_); rintro e wn ⟨rfl, hX⟩) | ((with_reducible refine (HN3.out _).mono ?_); rintro e wn ⟨rfl, hX⟩)) | (go_split_ands; obtain ⟨q1, q2, q3, hD⟩ := C3.c (by assumption); have g1 := hD.at_ 1 (by omega); have g2 := hD.at_ 2 (by omega); have g3 := hD.at_ 3 (by omega); have v1 := hD.fz 1; have v2 := hD.fz 2; have v3 := hD.fz 3; go_simp))
  rename_i hH
  obtain ⟨T9, R9, B9⟩ := C3.fin (W := wn) (by assumption) y mo d
  have HF9 := Lib.hid T9
  have HR9 := Lib.hid R9
  have HB9 := Lib.hid B9
  clear hH T T9 R9 B9
  generalize (((wn.setCell ⟨w.heap.size + 1, 1, none⟩ (.int .i64 y)).setCell ⟨w.heap.size + 1, 2, none⟩ (.int .i64 mo)).setCell ⟨w.heap.size + 1, 3, none⟩ (.int .i64 d)) = W9 at *
  have g0 : W9.cell? ⟨w.heap.size + 1, 0, none⟩ = some (.int .i64 0) := HF9.out.at_ 0 (by omega)
  have v0 := HF9.out.fz 0
  have HF10 := Lib.hid (HF9.out.p0 1)
  have HR10 : Hid (FC (W9.setCell ⟨w.heap.size + 1, 0, none⟩ (.int .i64 1)) w.heap.size 0 0 0 0 0 0 0 0 false 0 0) := Lib.hid (World.rowIs.setOther HR9.out (by simp) _)
  have HB10 := Lib.hid (HB9.out.setCell (p := ⟨w.heap.size + 1, 0, none⟩) (by simp) (.int .i64 1))
  go_wp2_with (first | (go_at_call 35; go_loud ((with_reducible refine (HC.out _ _ _ _ _ _ _ _ HF10.out).mono ?_); rintro e w3 ⟨rfl, hF, hB⟩; have HF11 := Lib.hid hF; have HR11 := Lib.hid (HR10.out.below hB (by omega)); have HB11 := Lib.hid (HB10.out.trans (hB.mono (by omega))); clear g0 v0; have g0 : w3.cell? ⟨w.heap.size + 1, 0, none⟩ = some (.int .i64 1) := HF11.out.at_ 0 (by omega); clear hF hB)) | (go_at_call 36; go_loud ((with_reducible refine (HZ.out _ _ _ _ _ _ _ _ _ _ _ _ HF11.out).mono ?_); rintro e w4 ⟨rfl, hF, hB⟩; have HF12 := Lib.hid hF; have HR12 := Lib.hid (HR11.out.below hB (by omega)); have HB12 := Lib.hid (HB11.out.trans (hB.mono (by omega))); clear g0; have g0 : w4.cell? ⟨w.heap.size + 1, 0, none⟩ = some (.int .i64 1) := HF12.out.at_ 0 (by omega); have g1 : w4.cell? ⟨w.heap.size + 1, 1, none⟩ = some (.int .i64 y) := HF12.out.at_ 1 (by omega); have g2 : w4.cell? ⟨w.heap.size + 1, 2, none⟩ = some (.int .i64 mo) := HF12.out.at_ 2 (by omega); have g3 : w4.cell? ⟨w.heap.size + 1, 3, none⟩ = some (.int .i64 d) := HF12.out.at_ 3 (by omega); have g4 : w4.cell? ⟨w.heap.size + 1, 4, none⟩ = some (.int .i64 h) := HF12.out.at_ 4 (by omega); have g5 : w4.cell? ⟨w.heap.size + 1, 5, none⟩ = some (.int .i64 mi) := HF12.out.at_ 5 (by omega); have g6 : w4.cell? ⟨w.heap.size + 1, 6, none⟩ = some (.int .i64 se) := HF12.out.at_ 6 (by omega); have g7 : w4.cell? ⟨w.heap.size + 1, 7, none⟩ = some (.int .i64 na) := HF12.out.at_ 7 (by omega); have g8 : w4.cell? ⟨w.heap.size + 1, 8, none⟩ = some (.bool true) := HF12.out.at_ 8 (by omega); have g9 : w4.cell? ⟨w.heap.size + 1, 9, none⟩ = some (.int .i64 zh) := HF12.out.at_ 9 (by omega); have g10 : w4.cell? ⟨w.heap.size + 1, 10, none⟩ = some (.int .i64 zm) := HF12.out.at_ 10 (by omega); have v0 := HF12.out.fz 0; have c0 : w4.cell? ⟨w.heap.size, 0, none⟩ = some (.int .i64 0) := HR12.out.at_ 0 (by omega); have x0 := HR12.out.fz 0; have c1 : w4.cell? ⟨w.heap.size, 1, none⟩ = some (.int .i64 0) := HR12.out.at_ 1 (by omega); have x1 := HR12.out.fz 1; have c2 : w4.cell? ⟨w.heap.size, 2, none⟩ = some (.int .i64 0) := HR12.out.at_ 2 (by omega); have x2 := HR12.out.fz 2; have c3 : w4.cell? ⟨w.heap.size, 3, none⟩ = some (.int .i64 0) := HR12.out.at_ 3 (by omega); have x3 := HR12.out.fz 3; have c4 : w4.cell? ⟨w.heap.size, 4, none⟩ = some (.int .i64 0) := HR12.out.at_ 4 (by omega); have x4 := HR12.out.fz 4; have c5 : w4.cell? ⟨w.heap.size, 5, none⟩ = some (.int .i64 0) := HR12.out.at_ 5 (by omega); have x5 := HR12.out.fz 5; have c6 : w4.cell? ⟨w.heap.size, 6, none⟩ = some (.int .i64 0) := HR12.out.at_ 6 (by omega); have x6 := HR12.out.fz 6; have c7 : w4.cell? ⟨w.heap.size, 7, none⟩ = some (.int .i64 0) := HR12.out.at_ 7 (by omega); have x7 := HR12.out.fz 7; have c8 : w4.cell? ⟨w.heap.size, 8, none⟩ = some (.bool false) := HR12.out.at_ 8 (by omega); have x8 := HR12.out.fz 8; have c9 : w4.cell? ⟨w.heap.size, 9, none⟩ = some (.int .i64 0) := HR12.out.at_ 9 (by omega); have x9 := HR12.out.fz 9; have c10 : w4.cell? ⟨w.heap.size, 10, none⟩ = some (.int .i64 0) := HR12.out.at_ 10 (by omega); have x10 := HR12.out.fz 10; clear hF hB)))
  exact bodyPost_ret (v := .tuple #[.agg #[.int .i64 4, .int .i64 y, .int .i64 mo, .int .i64 d, .int .i64 h, .int .i64 mi, .int .i64 se, .int .i64 na, .bool true, .int .i64 zh, .int .i64 zm], .bool true]) (by simp [results, Tryd.results22, go_sem, c0, c1, c2, c3, c4, c5, c6, c7, c8, c9, c10]) rfl ⟨rfl, ((((((((((((HB12.out.setCell (by simp) _).setCell (by simp) _).setCell (by simp) _).setCell (by simp) _).setCell (by simp) _).setCell (by simp) _).setCell (by simp) _).setCell (by simp) _).setCell (by simp) _).setCell (by simp) _).setCell (by simp) _).setCell (by simp) _)⟩
end Go.Proofs.YtkbddelacjjapaaDoor.Mom
