/-
  Package moment: the offset of a text.
-/
import Derived.Test.YtkbddelacjjapaaDoorMomL
namespace Go.Proofs.YtkbddelacjjapaaDoor.Mom
open Go.RowKit
set_option linter.unusedVariables false
set_option linter.unusedSimpArgs false

theorem toList_data (s : ByteArray) : s.toList = s.data.toList := by
  obtain ⟨⟨l⟩⟩ := s; exact ByteArray.toList_mk l
theorem beq_no {a : ByteArray} {l : List UInt8} (h : a.size ≠ l.length) : (a.toList == l) = false := by
  rw [beq_eq_false_iff_ne, toList_data]
  intro e
  exact h (congrArg List.length e)
/-- The fields lie in a block, with some offset. -/
structure C9 (w W : World) (A : Nat) (k y mo d h mi se na : Int) (ea : Bool) : Prop where
  c : ∃ zh zm, FC W A k y mo d h mi se na ea zh zm
  bel : Below A w W
section
variable {w W W' : World} {A : Nat} {k y mo d h mi se na : Int} {ea : Bool}
theorem C9.dr (H : C9 w W A k y mo d h mi se na ea) : C9 w W.drew A k y mo d h mi se na ea := ⟨by obtain ⟨_, _, hc⟩ := H.c; exact ⟨_, _, hc⟩, H.bel.drew⟩
theorem C9.step (hb : Below W.heap.size W W') (H : C9 w W A k y mo d h mi se na ea) : C9 w W' A k y mo d h mi se na ea := by
  obtain ⟨zh, zm, hc⟩ := H.c
  exact ⟨⟨_, _, hc.below hb hc.lt⟩, H.bel.trans (hb.mono (Nat.le_of_lt hc.lt))⟩
theorem C9.fin (H : C9 w W A k y mo d h mi se na ea) (x z : Int) : FC ((W.setCell ⟨A, 9, none⟩ (.int .i64 x)).setCell ⟨A, 10, none⟩ (.int .i64 z)) A k y mo d h mi se na ea x z ∧ Below A w ((W.setCell ⟨A, 9, none⟩ (.int .i64 x)).setCell ⟨A, 10, none⟩ (.int .i64 z)) := by
  obtain ⟨_, _, hc⟩ := H.c
  refine ⟨?_, (H.bel.setCell (Nat.le_refl _) _).setCell (Nat.le_refl _) _⟩
  exact (World.rowIs.set (World.rowIs.set hc 9 _) 10 _).congr fun i hi => by
    rcases (show i = 0 ∨ i = 1 ∨ i = 2 ∨ i = 3 ∨ i = 4 ∨ i = 5 ∨ i = 6 ∨ i = 7 ∨ i = 8 ∨ i = 9 ∨ i = 10 by omega) with rfl | rfl | rfl | rfl | rfl | rfl | rfl | rfl | rfl | rfl | rfl <;> rfl
theorem C9.p9 (H : C9 w W A k y mo d h mi se na ea) (x : Int) : C9 w (W.setCell ⟨A, 9, none⟩ (.int .i64 x)) A k y mo d h mi se na ea := by
  obtain ⟨zh, zm, hc⟩ := H.c
  refine ⟨⟨x, zm, ?_⟩, H.bel.setCell (Nat.le_refl _) _⟩
  exact (World.rowIs.set hc 9 _).congr fun i hi => by
    rcases (show i = 0 ∨ i = 1 ∨ i = 2 ∨ i = 3 ∨ i = 4 ∨ i = 5 ∨ i = 6 ∨ i = 7 ∨ i = 8 ∨ i = 9 ∨ i = 10 by omega) with rfl | rfl | rfl | rfl | rfl | rfl | rfl | rfl | rfl | rfl | rfl <;> rfl
theorem C9.p10 (H : C9 w W A k y mo d h mi se na ea) (x : Int) : C9 w (W.setCell ⟨A, 10, none⟩ (.int .i64 x)) A k y mo d h mi se na ea := by
  obtain ⟨zh, zm, hc⟩ := H.c
  refine ⟨⟨zh, x, ?_⟩, H.bel.setCell (Nat.le_refl _) _⟩
  exact (World.rowIs.set hc 10 _).congr fun i hi => by
    rcases (show i = 0 ∨ i = 1 ∨ i = 2 ∨ i = 3 ∨ i = 4 ∨ i = 5 ∨ i = 6 ∨ i = 7 ∨ i = 8 ∨ i = 9 ∨ i = 10 by omega) with rfl | rfl | rfl | rfl | rfl | rfl | rfl | rfl | rfl | rfl | rfl <;> rfl
end
theorem FC.p8 {W : World} {A : Nat} {k y mo d h mi se na zh zm : Int} {ea : Bool} (hc : FC W A k y mo d h mi se na ea zh zm) (x : Bool) : FC (W.setCell ⟨A, 8, none⟩ (.bool x)) A k y mo d h mi se na x zh zm :=
  (World.rowIs.set hc 8 _).congr fun i hi => by
    rcases (show i = 0 ∨ i = 1 ∨ i = 2 ∨ i = 3 ∨ i = 4 ∨ i = 5 ∨ i = 6 ∨ i = 7 ∨ i = 8 ∨ i = 9 ∨ i = 10 by omega) with rfl | rfl | rfl | rfl | rfl | rfl | rfl | rfl | rfl | rfl | rfl <;> rfl
theorem FC.p0 {W : World} {A : Nat} {k y mo d h mi se na zh zm : Int} {ea : Bool} (hc : FC W A k y mo d h mi se na ea zh zm) (x : Int) : FC (W.setCell ⟨A, 0, none⟩ (.int .i64 x)) A x y mo d h mi se na ea zh zm :=
  (World.rowIs.set hc 0 _).congr fun i hi => by
    rcases (show i = 0 ∨ i = 1 ∨ i = 2 ∨ i = 3 ∨ i = 4 ∨ i = 5 ∨ i = 6 ∨ i = 7 ∨ i = 8 ∨ i = 9 ∨ i = 10 by omega) with rfl | rfl | rfl | rfl | rfl | rfl | rfl | rfl | rfl | rfl | rfl <;> rfl
set_option maxRecDepth 100000 in
set_option maxHeartbeats 4000000 in
theorem fzone_lit (A : Nat) (s e1 e2 : ByteArray) (zh zm : Int) (w : World) (k y mo d h mi se na zh0 zm0 : Int)
    (hF : FC w A k y mo d h mi se na false zh0 zm0) (hs : s.size = 6) (hm : FormB s ⟨#[43, 48, 48, 58, 48, 48]⟩)
    (he1 : s.extract 1 3 = e1) (he2 : s.extract 4 6 = e2) (z1 : e1.size = 2) (z2 : e2.size = 2) (a1 : Lib.atoi e1.data.toList = some zh) (a2 : Lib.atoi e2.data.toList = some zm) :
    Calls Tryd.prog 36 #[.pointer (some ⟨A, 0, none⟩), .string s] w fun e w' => e = .returned (.bool true) ∧ FC w' A k y mo d h mi se na true zh zm ∧ Below A w w' := by
  have HM := Lib.hid (fun w => matches_yes s ⟨#[43, 48, 48, 58, 48, 48]⟩ w hm (by omega))
  have HN1 := Lib.hid (fun w => number_any e1 zh w (by omega) a1)
  have HN2 := Lib.hid (fun w => number_any e2 zm w (by omega) a2)
  have b1 : (s.toList == [90]) = false := beq_no (by rw [hs]; decide)
  have b2 : (s.toList == [122]) = false := beq_no (by rw [hs]; decide)
  have HF := Lib.hid hF
  have hA := hF.lt
  have HB0 : Hid (Below A w w) := Lib.hid (Below.refl _ _)
  clear hm a1 a2 hF z1 z2
  go_enter Tryd.func36, Tryd.ntmps36
  go_wp2_with (go_at_call 33; (with_reducible refine (HM.out _).mono ?_); rintro e w1 ⟨rfl, hX⟩; have HF1 := Lib.hid (HF.out.below hX hA); have HB1 := Lib.hid (hX.mono (Nat.le_of_lt hA)); have g8 : w1.cell? ⟨A, 8, none⟩ = some (.bool false) := HF1.out.at_ 8 (by omega); have f8 := HF1.out.fz 8; clear hX)
  have T : C9 w (w1.setCell ⟨A, 8, none⟩ (.bool true)) A k y mo d h mi se na true := ⟨⟨_, _, HF1.out.p8 true⟩, HB1.out.setCell (Nat.le_refl _) _⟩
  clear g8 f8
  generalize w1.setCell ⟨A, 8, none⟩ (.bool true) = W8 at *
  go_region_held3 (fun (W : World) => C9 w W A k y mo d h mi se na true ∧ True) ((first | (exact ⟨by assumption, trivial⟩) | (go_split_ands; exact ⟨C9.dr (by assumption), trivial⟩) | (go_split_ands; exact ⟨C9.step hX (by assumption), trivial⟩) | (go_split_ands; exact ⟨C9.p9 (by assumption) _, trivial⟩) | (go_split_ands; exact ⟨C9.p10 (by assumption) _, trivial⟩))) (first | (go_at_call 34; first | ((with_reducible refine (HN1.out _).mono ?_); rintro e wn ⟨rfl, hX⟩) | ((with_reducible refine (HN2.out _).mono ?_); rintro e wn ⟨rfl, hX⟩)) | (go_split_ands; obtain ⟨q1, q2, hD⟩ := C9.c (by assumption); have g9 := hD.at_ 9 (by omega); have g10 := hD.at_ 10 (by omega); have f9 := hD.fz 9; have f10 := hD.fz 10; go_simp))
  rename_i hH
  obtain ⟨T9, B9⟩ := C9.fin (W := wn) (by assumption) zh zm
  have HF9 := Lib.hid T9
  have HB9 := Lib.hid B9
  clear hH T T9 B9
  go_wp2
  go_ret
  exact ⟨rfl, HF9.out, HB9.out⟩
end Go.Proofs.YtkbddelacjjapaaDoor.Mom
