/-
  Package moment: the fields of a text.
-/
import Derived.Test.YtkbddelacjjapaaDoorMomK
import Derived.Test.YtkbddelacjjapaaDoorShelf3
namespace Go.Proofs.YtkbddelacjjapaaDoor.Mom
open Go.RowKit
set_option linter.unusedVariables false
set_option linter.unusedSimpArgs false

def ff (k y mo d h mi se na : Int) (ea : Bool) (zh zm : Int) : Nat → Value
  | 0 => .int .i64 k
  | 1 => .int .i64 y
  | 2 => .int .i64 mo
  | 3 => .int .i64 d
  | 4 => .int .i64 h
  | 5 => .int .i64 mi
  | 6 => .int .i64 se
  | 7 => .int .i64 na
  | 8 => .bool ea
  | 9 => .int .i64 zh
  | _ => .int .i64 zm
def FC (w : World) (A : Nat) (k y mo d h mi se na : Int) (ea : Bool) (zh zm : Int) : Prop := w.rowIs A 44 11 (ff k y mo d h mi se na ea zh zm)
section
variable {w w' : World} {A : Nat} {k y mo d h mi se na zh zm : Int} {ea : Bool}
theorem FC.at_ (H : FC w A k y mo d h mi se na ea zh zm) (i : Nat) (hi : i < 11) : w.cell? ⟨A, i, none⟩ = some (ff k y mo d h mi se na ea zh zm i) := World.rowIs.cell H hi
theorem FC.fz (H : FC w A k y mo d h mi se na ea zh zm) (i : Nat) : w.frozen? ⟨A, i, none⟩ = false := World.rowIs.frozen H i
theorem FC.lt (H : FC w A k y mo d h mi se na ea zh zm) : A < w.heap.size := World.rowIs.lt H
theorem FC.below {B : Nat} (H : FC w A k y mo d h mi se na ea zh zm) (hb : Below B w w') (hn : A < B) : FC w' A k y mo d h mi se na ea zh zm := World.rowIs.of_block H (hb.block A hn)
theorem FC.alloc (H : FC w A k y mo d h mi se na ea zh zm) (x : Obj) : FC (w.alloc x) A k y mo d h mi se na ea zh zm := World.rowIs.alloc H x
end
/-- The fields lie in a block, with some time of day. -/
structure C1 (w W : World) (A : Nat) (k y mo d na : Int) (ea : Bool) (zh zm : Int) : Prop where
  c : ∃ h mi se, FC W A k y mo d h mi se na ea zh zm
  bel : Below A w W
section
variable {w W W' : World} {A : Nat} {k y mo d na zh zm : Int} {ea : Bool}
theorem C1.dr (H : C1 w W A k y mo d na ea zh zm) : C1 w W.drew A k y mo d na ea zh zm := ⟨by obtain ⟨_, _, _, hc⟩ := H.c; exact ⟨_, _, _, hc⟩, H.bel.drew⟩
theorem C1.step (hb : Below W.heap.size W W') (H : C1 w W A k y mo d na ea zh zm) : C1 w W' A k y mo d na ea zh zm := by
  obtain ⟨h, mi, se, hc⟩ := H.c
  exact ⟨⟨_, _, _, hc.below hb hc.lt⟩, H.bel.trans (hb.mono (Nat.le_of_lt hc.lt))⟩
theorem C1.p4 (H : C1 w W A k y mo d na ea zh zm) (x : Int) : C1 w (W.setCell ⟨A, 4, none⟩ (.int .i64 x)) A k y mo d na ea zh zm := by
  obtain ⟨h, mi, se, hc⟩ := H.c
  refine ⟨⟨x, mi, se, ?_⟩, H.bel.setCell (Nat.le_refl _) _⟩
  exact (World.rowIs.set hc 4 _).congr fun i hi => by
    rcases (show i = 0 ∨ i = 1 ∨ i = 2 ∨ i = 3 ∨ i = 4 ∨ i = 5 ∨ i = 6 ∨ i = 7 ∨ i = 8 ∨ i = 9 ∨ i = 10 by omega) with rfl | rfl | rfl | rfl | rfl | rfl | rfl | rfl | rfl | rfl | rfl <;> rfl
theorem C1.p5 (H : C1 w W A k y mo d na ea zh zm) (x : Int) : C1 w (W.setCell ⟨A, 5, none⟩ (.int .i64 x)) A k y mo d na ea zh zm := by
  obtain ⟨h, mi, se, hc⟩ := H.c
  refine ⟨⟨h, x, se, ?_⟩, H.bel.setCell (Nat.le_refl _) _⟩
  exact (World.rowIs.set hc 5 _).congr fun i hi => by
    rcases (show i = 0 ∨ i = 1 ∨ i = 2 ∨ i = 3 ∨ i = 4 ∨ i = 5 ∨ i = 6 ∨ i = 7 ∨ i = 8 ∨ i = 9 ∨ i = 10 by omega) with rfl | rfl | rfl | rfl | rfl | rfl | rfl | rfl | rfl | rfl | rfl <;> rfl
theorem C1.p6 (H : C1 w W A k y mo d na ea zh zm) (x : Int) : C1 w (W.setCell ⟨A, 6, none⟩ (.int .i64 x)) A k y mo d na ea zh zm := by
  obtain ⟨h, mi, se, hc⟩ := H.c
  refine ⟨⟨h, mi, x, ?_⟩, H.bel.setCell (Nat.le_refl _) _⟩
  exact (World.rowIs.set hc 6 _).congr fun i hi => by
    rcases (show i = 0 ∨ i = 1 ∨ i = 2 ∨ i = 3 ∨ i = 4 ∨ i = 5 ∨ i = 6 ∨ i = 7 ∨ i = 8 ∨ i = 9 ∨ i = 10 by omega) with rfl | rfl | rfl | rfl | rfl | rfl | rfl | rfl | rfl | rfl | rfl <;> rfl
end
theorem C1.fin {w W : World} {A : Nat} {k y mo d na zh zm : Int} {ea : Bool} (H : C1 w W A k y mo d na ea zh zm) (h mi se : Int) : FC (((W.setCell ⟨A, 4, none⟩ (.int .i64 h)).setCell ⟨A, 5, none⟩ (.int .i64 mi)).setCell ⟨A, 6, none⟩ (.int .i64 se)) A k y mo d h mi se na ea zh zm ∧ Below A w (((W.setCell ⟨A, 4, none⟩ (.int .i64 h)).setCell ⟨A, 5, none⟩ (.int .i64 mi)).setCell ⟨A, 6, none⟩ (.int .i64 se)) := by
  obtain ⟨h', mi', se', hc⟩ := H.c
  refine ⟨?_, ((H.bel.setCell (Nat.le_refl _) _).setCell (Nat.le_refl _) _).setCell (Nat.le_refl _) _⟩
  exact (World.rowIs.set (World.rowIs.set (World.rowIs.set hc 4 _) 5 _) 6 _).congr fun i hi => by
    rcases (show i = 0 ∨ i = 1 ∨ i = 2 ∨ i = 3 ∨ i = 4 ∨ i = 5 ∨ i = 6 ∨ i = 7 ∨ i = 8 ∨ i = 9 ∨ i = 10 by omega) with rfl | rfl | rfl | rfl | rfl | rfl | rfl | rfl | rfl | rfl | rfl <;> rfl
/-- The fields lie in a block, with some fraction. -/
structure C7 (w W : World) (A : Nat) (k y mo d h mi se : Int) (ea : Bool) (zh zm : Int) : Prop where
  c : ∃ na, FC W A k y mo d h mi se na ea zh zm
  bel : Below A w W
section
variable {w W W' : World} {A : Nat} {k y mo d h mi se zh zm : Int} {ea : Bool}
theorem C7.dr (H : C7 w W A k y mo d h mi se ea zh zm) : C7 w W.drew A k y mo d h mi se ea zh zm := ⟨by obtain ⟨_, hc⟩ := H.c; exact ⟨_, hc⟩, H.bel.drew⟩
theorem C7.step (hb : Below W.heap.size W W') (H : C7 w W A k y mo d h mi se ea zh zm) : C7 w W' A k y mo d h mi se ea zh zm := by
  obtain ⟨na, hc⟩ := H.c
  exact ⟨⟨_, hc.below hb hc.lt⟩, H.bel.trans (hb.mono (Nat.le_of_lt hc.lt))⟩
theorem C7.fin (H : C7 w W A k y mo d h mi se ea zh zm) (x : Int) : FC (W.setCell ⟨A, 7, none⟩ (.int .i64 x)) A k y mo d h mi se x ea zh zm ∧ Below A w (W.setCell ⟨A, 7, none⟩ (.int .i64 x)) := by
  obtain ⟨na, hc⟩ := H.c
  refine ⟨?_, H.bel.setCell (Nat.le_refl _) _⟩
  exact (World.rowIs.set hc 7 _).congr fun i hi => by
    rcases (show i = 0 ∨ i = 1 ∨ i = 2 ∨ i = 3 ∨ i = 4 ∨ i = 5 ∨ i = 6 ∨ i = 7 ∨ i = 8 ∨ i = 9 ∨ i = 10 by omega) with rfl | rfl | rfl | rfl | rfl | rfl | rfl | rfl | rfl | rfl | rfl <;> rfl
theorem C7.p (H : C7 w W A k y mo d h mi se ea zh zm) (x : Int) : C7 w (W.setCell ⟨A, 7, none⟩ (.int .i64 x)) A k y mo d h mi se ea zh zm := ⟨⟨x, (H.fin x).1⟩, (H.fin x).2⟩
end
theorem trim_digits (s : ByteArray) (w : World) : Calls Tryd.prog 49 #[.string s, .string ⟨#[48, 49, 50, 51, 52, 53, 54, 55, 56, 57]⟩] w fun e w' => e = .returned (.string ⟨(Lib.trimLeftS s.data.toList [48, 49, 50, 51, 52, 53, 54, 55, 56, 57]).toArray⟩) ∧ Below w.heap.size w w' :=
  Any.strings_TrimLeft_laid Tryd.hand161 (by kernel_rfl) s ⟨#[48, 49, 50, 51, 52, 53, 54, 55, 56, 57]⟩ w (by decide) (fun j b hj => by
    have : b ∈ ([48, 49, 50, 51, 52, 53, 54, 55, 56, 57] : List UInt8) := List.mem_of_getElem? hj
    simp at this
    rcases this with rfl | rfl | rfl | rfl | rfl | rfl | rfl | rfl | rfl | rfl <;> decide)
set_option maxRecDepth 100000 in
set_option maxHeartbeats 4000000 in
theorem fclock_lit (A : Nat) (s e0 e1 e2 e3 s1 s2 t u r pt : ByteArray) (h mi se na : Int) (w : World) (k y mo d : Int) (zh zm : Int)
    (hF : FC w A k y mo d 0 0 0 0 false zh zm) (hs : s.size = 18) (he0 : s.extract 0 8 = e0) (hm : FormB e0 pt) (hpt : pt = ⟨#[48, 48, 58, 48, 48, 58, 48, 48]⟩)
    (he1 : s.extract 0 2 = e1) (he2 : s.extract 3 5 = e2) (he3 : s.extract 6 8 = e3) (z1 : e1.size = 2) (z2 : e2.size = 2) (z3 : e3.size = 2) (a1 : Lib.atoi e1.data.toList = some h) (a2 : Lib.atoi e2.data.toList = some mi) (a3 : Lib.atoi e3.data.toList = some se)
    (hs1 : s.extract 8 18 = s1) (zs1 : s1.size = 10) (hp1 : Lib.hasPrefix s1.data.toList [46] = true) (hs2 : s1.extract 1 10 = s2) (zs2 : s2.size = 9) (ht : (⟨(Lib.trimLeftS s2.data.toList [48, 49, 50, 51, 52, 53, 54, 55, 56, 57]).toArray⟩ : ByteArray) = t) (zt : t.size = 6)
    (hu : s2.extract 0 3 = u) (zu : u.size = 3) (a4 : Lib.atoi (u ++ ⟨#[48, 48, 48, 48, 48, 48]⟩).data.toList = some na) (hr : s2.extract 3 9 = r) :
    Calls Tryd.prog 35 #[.pointer (some ⟨A, 0, none⟩), .string s] w fun e w' => e = .returned (.tuple #[.string r, .bool true]) ∧ FC w' A k y mo d h mi se na false zh zm ∧ Below A w w' := by
  have HM := Lib.hid (fun w => matches_yes e0 pt w hm (by have := hm.1; rw [hpt] at this; have h8 : (⟨#[48, 48, 58, 48, 48, 58, 48, 48]⟩ : ByteArray).size = 8 := rfl; omega))
  rw [hpt] at HM
  have HN1 := Lib.hid (fun w => number_any e1 h w (by omega) a1)
  have HN2 := Lib.hid (fun w => number_any e2 mi w (by omega) a2)
  have HN3 := Lib.hid (fun w => number_any e3 se w (by omega) a3)
  have HF := Lib.hid hF
  have hA := hF.lt
  have HP : Hid (∀ w, Calls Tryd.prog 48 #[.string s1, .string ⟨#[46]⟩] w fun e w' => e = .returned (.bool true) ∧ w' = w) := Lib.hid (fun w => by
    have := Tryd.strings_HasPrefix s1 ⟨#[46]⟩ w
    rwa [show Lib.hasPrefix s1.data.toList (⟨#[46]⟩ : ByteArray).data.toList = true from hp1] at this)
  have HTL := Lib.hid (fun w => trim_digits s2 w)
  rw [ht] at HTL
  have HRE : Hid (∀ w, Calls Tryd.prog 42 #[.string ⟨#[48]⟩, .int .i64 6] w fun e w' => e = .returned (.string ⟨#[48, 48, 48, 48, 48, 48]⟩) ∧ Below w.heap.size w w') := Lib.hid (fun w => Tryd.strings_Repeat ⟨#[48]⟩ 6 w (by decide) (by decide))
  have zz : (⟨#[48, 48, 48, 48, 48, 48]⟩ : ByteArray).size = 6 := rfl
  generalize (⟨#[48, 48, 48, 48, 48, 48]⟩ : ByteArray) = Z at *
  have HN4 := Lib.hid (fun w => number_any (u ++ Z) na w (by rw [sz_app]; omega) a4)
  have hc1 : ¬ 9223372036854775807 < u.size + Z.size := by omega
  have hc2 : u.size + Z.size ≤ 9223372036854775807 := by omega
  clear hm hpt a1 a2 a3 a4 hF z1 z2 z3 ht hp1
  go_enter Tryd.func35, Tryd.ntmps35
  go_wp2_with (go_at_call 33; (with_reducible refine (HM.out _).mono ?_); rintro e w1 ⟨rfl, hX⟩; have HF1 := Lib.hid (HF.out.below hX hA); have HB1 := Lib.hid (hX.mono (Nat.le_of_lt hA)); clear hX)
  have T : C1 w w1 A k y mo d 0 false zh zm := ⟨⟨_, _, _, HF1.out⟩, HB1.out⟩
  go_region_held3 (fun (W : World) => C1 w W A k y mo d 0 false zh zm ∧ True) ((first | (exact ⟨by assumption, trivial⟩) | (go_split_ands; exact ⟨C1.dr (by assumption), trivial⟩) | (go_split_ands; exact ⟨C1.step hX (by assumption), trivial⟩) | (go_split_ands; exact ⟨C1.p4 (by assumption) _, trivial⟩) | (go_split_ands; exact ⟨C1.p5 (by assumption) _, trivial⟩) | (go_split_ands; exact ⟨C1.p6 (by assumption) _, trivial⟩))) (first | (go_at_call 34; first | ((with_reducible refine (HN1.out _).mono ?_); rintro e wn ⟨rfl, hX⟩) | ((with_reducible refine (HN2.out _).mono ?_); rintro e wn ⟨rfl, hX⟩) | ((with_reducible refine (HN3.out _).mono ?_); rintro e wn ⟨rfl, hX⟩)) | (go_split_ands; obtain ⟨q1, q2, q3, hD⟩ := C1.c (by assumption); have g4 := hD.at_ 4 (by omega); have g5 := hD.at_ 5 (by omega); have g6 := hD.at_ 6 (by omega); have f4 := hD.fz 4; have f5 := hD.fz 5; have f6 := hD.fz 6; go_simp))
  rename_i hH
  obtain ⟨T9, B9⟩ := C1.fin (W := wn) (by assumption) h mi se
  have HF9 := Lib.hid T9
  have HB9 := Lib.hid B9
  clear hH T T9 B9
  generalize (((wn.setCell ⟨A, 4, none⟩ (.int .i64 h)).setCell ⟨A, 5, none⟩ (.int .i64 mi)).setCell ⟨A, 6, none⟩ (.int .i64 se)) = W9 at *
  go_wp2_with (first | (go_at_call 48; (with_reducible refine (HP.out _).mono ?_); rintro e w2 ⟨rfl, rfl⟩) | (go_at_call 49; (with_reducible refine (HTL.out _).mono ?_); rintro e w2 ⟨rfl, hX⟩; have HF10 := Lib.hid (HF9.out.below hX HF9.out.lt); have HB10 := Lib.hid (HB9.out.trans (hX.mono (Nat.le_of_lt HF9.out.lt))); clear hX))
  have T : C7 w w2 A k y mo d h mi se false zh zm := ⟨⟨_, HF10.out⟩, HB10.out⟩
  have w6 : IntKind.i64.wrap 6 = 6 := IntWalk.i64_in _ (by omega)
  go_region_held3 (fun (W : World) => C7 w W A k y mo d h mi se false zh zm ∧ True) ((first | (exact ⟨by assumption, trivial⟩) | (go_split_ands; exact ⟨C7.dr (by assumption), trivial⟩) | (go_split_ands; exact ⟨C7.step hX (by assumption), trivial⟩) | (go_split_ands; exact ⟨C7.p (by assumption) _, trivial⟩))) (first | (go_at_call 42; (with_reducible refine (HRE.out _).mono ?_); rintro e wm ⟨rfl, hX⟩) | (go_at_call 34; (with_reducible refine (HN4.out _).mono ?_); rintro e wm ⟨rfl, hX⟩) | (go_split_ands; obtain ⟨q1, hD⟩ := C7.c (by assumption); have g7 := hD.at_ 7 (by omega); have f7 := hD.fz 7; go_simp))
  rename_i hH
  obtain ⟨T9, B9⟩ := C7.fin (W := wm) (by assumption) na
  have HF11 := Lib.hid T9
  have HB11 := Lib.hid B9
  clear hH T T9 B9 w6
  go_wp2
  go_ret2
  exact ⟨rfl, HF11.out, HB11.out⟩
end Go.Proofs.YtkbddelacjjapaaDoor.Mom
