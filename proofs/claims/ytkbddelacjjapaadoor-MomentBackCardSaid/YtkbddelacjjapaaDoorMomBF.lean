/-
  Package moment: what any text says.
-/
import Derived.Test.YtkbddelacjjapaaDoorMomBE
namespace Go.Proofs.YtkbddelacjjapaaDoor.Mom
open Go.RowKit
set_option linter.unusedVariables false
set_option linter.unusedSimpArgs false
open Go.Proofs.YtkbddelacjjapaaDoor.Cal

def SPpost (w : World) : Option FL → Ending → World → Prop
  | none, e, w' => e = .returned (.tuple #[.agg #[.int .i64 0, .int .i64 0, .int .i64 0, .int .i64 0, .int .i64 0, .int .i64 0, .int .i64 0, .int .i64 0, .bool false, .int .i64 0, .int .i64 0], .bool false]) ∧ Below w.heap.size w w'
  | some f, e, w' => e = .returned (.tuple #[.agg #[.int .i64 f.k, .int .i64 f.y, .int .i64 f.mo, .int .i64 f.d, .int .i64 f.h, .int .i64 f.mi, .int .i64 f.se, .int .i64 f.na, .bool f.ea, .int .i64 f.zh, .int .i64 f.zm], .bool true]) ∧ Below w.heap.size w w'
theorem clk_rest {l : List UInt8} {h mi se na : Nat} {r : List UInt8} (H : clkL l = some (h, mi, se, na, r)) : r.length ≤ l.length := by
  unfold clkL at H
  split at H
  · split at H
    · split at H
      · simp only [Option.some.injEq, Prod.mk.injEq] at H
        obtain ⟨-, -, -, -, rfl⟩ := H
        simp only [List.length_drop]
        omega
      · cases H
    · simp only [Option.some.injEq, Prod.mk.injEq] at H
      obtain ⟨-, -, -, -, rfl⟩ := H
      simp only [List.length_drop]
      omega
  · cases H
theorem head_at (s : ByteArray) (i : Nat) (h : i < s.size) : (s.data.toList.drop i).head? = some (s[i]'h) := by
  rw [List.head?_drop]
  exact List.getElem?_eq_getElem (show i < s.data.toList.length from h)
theorem ba_eq (r : List UInt8) : (⟨r.toArray⟩ : ByteArray).data.toList = r := by simp
theorem u8_nat {a : UInt8} {n : Nat} (hn : n < 256) : a.toNat = n ↔ a = UInt8.ofNat n := by
  rw [← UInt8.toNat_inj, UInt8.toNat_ofNat']
  omega
theorem split_any (s : ByteArray) (w : World) (hs : s.size ≤ 9223372036854775807) : Calls Tryd.prog 22 #[.string s] w fun e w' => SPpost w (spL s.data.toList) e w' := by
  by_cases hf : formL (s.extract 0 10).data.toList p10 = true
  · have hz := form_size hf rfl
    have hf2 : formL (sub s.data.toList 0 10) p10 = true := by rw [← ex_sub]; exact hf
    have n1 := sub_num hf2 0 4 (by decide) (by decide) (idx2 _ (by decide))
    have n2 := sub_num hf2 5 7 (by decide) (by decide) (idx2 _ (by decide))
    have n3 := sub_num hf2 8 10 (by decide) (by decide) (idx2 _ (by decide))
    have ne : ∀ (l : List UInt8) (n : Nat), l.length = n + 1 → l ≠ [] := fun l n hl e => by rw [e] at hl; cases hl
    have a1 : Lib.atoi (s.extract 0 4).data.toList = some (nvl (sub s.data.toList 0 4) : Int) := by rw [ex_sub]; exact atoi_digs _ (ne _ 3 n1.1) n1.2.1
    have a2 : Lib.atoi (s.extract 5 7).data.toList = some (nvl (sub s.data.toList 5 7) : Int) := by rw [ex_sub]; exact atoi_digs _ (ne _ 1 n2.1) n2.2.1
    have a3 : Lib.atoi (s.extract 8 10).data.toList = some (nvl (sub s.data.toList 8 10) : Int) := by rw [ex_sub]; exact atoi_digs _ (ne _ 1 n3.1) n3.2.1
    by_cases h10 : s.size = 10
    · have e : spL s.data.toList = some ⟨1, nvl (sub s.data.toList 0 4), nvl (sub s.data.toList 5 7), nvl (sub s.data.toList 8 10), 0, 0, 0, 0, false, 0, 0⟩ := by unfold spL; rw [if_pos hf2, if_pos (show s.data.toList.length = 10 from h10)]
      rw [e]
      exact split_d1 s _ _ _ w hz hf a1 a2 a3 h10
    · have h11 : 10 < s.size := by omega
      have hh := head_at s 10 h11
      by_cases hb : (s.data.toList.drop 10).head? = some 84 ∨ (s.data.toList.drop 10).head? = some 116 ∨ (s.data.toList.drop 10).head? = some 32
      · have hb2 : ∀ hh : 10 < s.size, (s[10]'hh).toNat = 84 ∨ (s[10]'hh).toNat = 116 ∨ (s[10]'hh).toNat = 32 := fun _ => by
          rw [hh] at hb
          simp only [Option.some.injEq] at hb
          rcases hb with q | q | q
          · exact .inl (by rw [q]; rfl)
          · exact .inr (.inl (by rw [q]; rfl))
          · exact .inr (.inr (by rw [q]; rfl))
        have hE := ex_end s 11
        have hsx : (s.extract 11 s.size).size ≤ 9223372036854775807 := by rw [ByteArray.size_extract]; omega
        have HC := fun (A : Nat) (W : World) (k y mo d : Int) (hF : FC W A k y mo d 0 0 0 0 false 0 0) => fclock_any A (s.extract 11 s.size) W k y mo d hF hsx
        rw [hE] at HC
        cases hc : clkL (s.data.toList.drop 11) with
        | none =>
          have e : spL s.data.toList = none := by unfold spL; rw [if_pos hf2, if_neg (show ¬ s.data.toList.length = 10 from h10), if_pos hb, hc]
          rw [e]
          rw [hc] at HC
          exact split_t1 s _ _ _ w hz hf a1 a2 a3 h11 hb2 _ rfl (Lib.hid HC)
        | some v =>
          obtain ⟨h, mi, se, na, r⟩ := v
          rw [hc] at HC
          by_cases hr : r = []
          · have e : spL s.data.toList = some ⟨3, nvl (sub s.data.toList 0 4), nvl (sub s.data.toList 5 7), nvl (sub s.data.toList 8 10), h, mi, se, na, false, 0, 0⟩ := by
              unfold spL; rw [if_pos hf2, if_neg (show ¬ s.data.toList.length = 10 from h10), if_pos hb, hc]; simp only []; rw [if_pos hr]
            rw [e]
            subst hr
            exact split_t2 s _ _ _ _ _ _ _ w hz hf a1 a2 a3 h11 hb2 _ rfl (Lib.hid HC)
          · have hrs : (⟨r.toArray⟩ : ByteArray).size ≤ 9223372036854775807 := by
              have h1 := clk_rest hc
              have h2 : (⟨r.toArray⟩ : ByteArray).size = r.length := by simp [ByteArray.size]
              rw [List.length_drop] at h1
              have h3 : s.data.toList.length = s.size := rfl
              omega
            have HZ := fun (A : Nat) (W : World) (k y mo d h mi se na : Int) (hF : FC W A k y mo d h mi se na false 0 0) => fzone_any A ⟨r.toArray⟩ W k y mo d h mi se na hF hrs
            rw [ba_eq] at HZ
            cases hzn : znpL r with
            | none =>
              have e : spL s.data.toList = none := by
                unfold spL; rw [if_pos hf2, if_neg (show ¬ s.data.toList.length = 10 from h10), if_pos hb, hc]; simp only []; rw [if_neg hr, hzn]
              rw [e]
              rw [hzn] at HZ
              exact split_t3 s _ _ _ _ _ _ _ ⟨r.toArray⟩ (by rw [ba_eq]; exact hr) w hz hf a1 a2 a3 h11 hb2 _ rfl (Lib.hid HC) (Lib.hid HZ)
            | some v =>
              obtain ⟨ea, zh, zm⟩ := v
              have e : spL s.data.toList = some ⟨4, nvl (sub s.data.toList 0 4), nvl (sub s.data.toList 5 7), nvl (sub s.data.toList 8 10), h, mi, se, na, ea, zh, zm⟩ := by
                unfold spL; rw [if_pos hf2, if_neg (show ¬ s.data.toList.length = 10 from h10), if_pos hb, hc]; simp only []; rw [if_neg hr, hzn]
              rw [e]
              rw [hzn] at HZ
              exact split_t4 s _ _ _ _ _ _ _ _ _ _ ⟨r.toArray⟩ (by rw [ba_eq]; exact hr) w hz hf a1 a2 a3 h11 hb2 _ rfl (Lib.hid HC) (Lib.hid HZ)
      · have e : spL s.data.toList = none := by unfold spL; rw [if_pos hf2, if_neg (show ¬ s.data.toList.length = 10 from h10), if_neg hb]
        rw [e]
        refine split_d2 s _ _ _ w hz hf a1 a2 a3 h11 (fun _ => ?_)
        rw [hh] at hb
        simp only [Option.some.injEq] at hb
        exact ⟨fun q => hb (.inl ((u8_nat (by decide)).1 q)), fun q => hb (.inr (.inl ((u8_nat (by decide)).1 q))), fun q => hb (.inr (.inr ((u8_nat (by decide)).1 q)))⟩
  · have hf2 : ¬ formL (sub s.data.toList 0 10) p10 = true := by rw [← ex_sub]; exact hf
    have hnd : s.size < 10 ∨ (10 ≤ s.size ∧ formL (s.extract 0 10).data.toList p10 = false) := by
      by_cases h : s.size < 10
      · exact .inl h
      · exact .inr ⟨by omega, by simpa using hf⟩
    have HC := fun (A : Nat) (W : World) (k y mo d : Int) (hF : FC W A k y mo d 0 0 0 0 false 0 0) => fclock_any A s W k y mo d hF hs
    cases hc : clkL s.data.toList with
    | none =>
      have e : spL s.data.toList = none := by unfold spL; rw [if_neg hf2, hc]
      rw [e]
      rw [hc] at HC
      exact split_n1 s (Lib.hid HC) w hnd
    | some v =>
      obtain ⟨h, mi, se, na, r⟩ := v
      rw [hc] at HC
      by_cases hr : r = []
      · have e : spL s.data.toList = some ⟨2, 0, 0, 0, h, mi, se, na, false, 0, 0⟩ := by unfold spL; rw [if_neg hf2, hc]; simp only []; rw [if_pos hr]
        rw [e]
        subst hr
        exact split_n2 s _ _ _ _ (Lib.hid HC) w hnd
      · have e : spL s.data.toList = none := by unfold spL; rw [if_neg hf2, hc]; simp only []; rw [if_neg hr]
        rw [e]
        exact split_n3 s _ _ _ _ ⟨r.toArray⟩ (by rw [ba_eq]; exact hr) (Lib.hid HC) w hnd
theorem FC.newl (w : World) (k y mo d ho mi se na : Int) (ea : Bool) (zh zm : Int) : FC (w.alloc (.cells #[.int .i64 k, .int .i64 y, .int .i64 mo, .int .i64 d, .int .i64 ho, .int .i64 mi, .int .i64 se, .int .i64 na, .bool ea, .int .i64 zh, .int .i64 zm] 44)) w.heap.size k y mo d ho mi se na ea zh zm :=
  World.rowIs_alloc w _ 44 (ff k y mo d ho mi se na ea zh zm) (fun i hi => by
    have hi' : i < 11 := hi
    rcases (show i = 0 ∨ i = 1 ∨ i = 2 ∨ i = 3 ∨ i = 4 ∨ i = 5 ∨ i = 6 ∨ i = 7 ∨ i = 8 ∨ i = 9 ∨ i = 10 by omega) with rfl | rfl | rfl | rfl | rfl | rfl | rfl | rfl | rfl | rfl | rfl <;> rfl)
/-- Fields, a time and a result, in blocks of their own. -/
structure PM (w w1 W : World) (k y mo d ho mi se na : Int) (ea : Bool) (zh zm : Int) : Prop where
  lt : w.heap.size < w1.heap.size
  F : FC W w1.heap.size k y mo d ho mi se na ea zh zm
  T : TB W (w1.heap.size + 1) k 0 0 0
  R : TB W w.heap.size 0 0 0 0
  bel : Below w.heap.size w W
theorem PM.new {w w1 : World} (h1 : Below (w.alloc (.cells #[.int .i64 0, .int .i64 0, .int .i64 0, .int .i64 0] 23)).heap.size (w.alloc (.cells #[.int .i64 0, .int .i64 0, .int .i64 0, .int .i64 0] 23)) w1) (k y mo d ho mi se na : Int) (ea : Bool) (zh zm : Int) : PM w w1 ((w1.alloc (.cells #[.int .i64 k, .int .i64 y, .int .i64 mo, .int .i64 d, .int .i64 ho, .int .i64 mi, .int .i64 se, .int .i64 na, .bool ea, .int .i64 zh, .int .i64 zm] 44)).alloc (.cells #[.int .i64 k, .int .i64 0, .int .i64 0, .int .i64 0] 23)) k y mo d ho mi se na ea zh zm := by
  have z1 := h1.size
  rw [World.size_alloc] at z1
  have r1 := (TB.new w 0 0 0 0).below h1 (by simp)
  have a1 := (FC.newl w1 k y mo d ho mi se na ea zh zm).alloc (.cells #[.int .i64 k, .int .i64 0, .int .i64 0, .int .i64 0] 23)
  have a2 := TB.new (w1.alloc (.cells #[.int .i64 k, .int .i64 y, .int .i64 mo, .int .i64 d, .int .i64 ho, .int .i64 mi, .int .i64 se, .int .i64 na, .bool ea, .int .i64 zh, .int .i64 zm] 44)) k 0 0 0
  rw [World.size_alloc] at a2
  have b1 : Below w.heap.size w ((w1.alloc (.cells #[.int .i64 k, .int .i64 y, .int .i64 mo, .int .i64 d, .int .i64 ho, .int .i64 mi, .int .i64 se, .int .i64 na, .bool ea, .int .i64 zh, .int .i64 zm] 44)).alloc (.cells #[.int .i64 k, .int .i64 0, .int .i64 0, .int .i64 0] 23)) := ((((Below.refl _ _).alloc (Nat.le_refl _) _).trans (h1.mono (by simp))).alloc (by omega) _).alloc (by simp; omega) _
  exact ⟨by omega, a1, a2, (r1.alloc _).alloc _, b1⟩
theorem PM.below {w w1 W W' : World} {k y mo d ho mi se na zh zm : Int} {ea : Bool} (H : PM w w1 W k y mo d ho mi se na ea zh zm) (hb : Below W.heap.size W W') : PM w w1 W' k y mo d ho mi se na ea zh zm :=
  ⟨H.lt, H.F.below hb H.F.lt, H.T.below hb H.T.lt, H.R.below hb H.R.lt, H.bel.trans (hb.mono H.bel.size)⟩
theorem PM.bel1 {w w1 : World} (h1 : Below (w.alloc (.cells #[.int .i64 0, .int .i64 0, .int .i64 0, .int .i64 0] 23)).heap.size (w.alloc (.cells #[.int .i64 0, .int .i64 0, .int .i64 0, .int .i64 0] 23)) w1) : TB w1 w.heap.size 0 0 0 0 ∧ Below w.heap.size w w1 :=
  ⟨(TB.new w 0 0 0 0).below h1 (by simp), ((Below.refl _ _).alloc (Nat.le_refl _) _).trans (h1.mono (by simp))⟩
theorem PM.fin2 {w w1 W : World} {k y mo d ho mi se na zh zm : Int} {ea : Bool} (H : PM w w1 W k y mo d ho mi se na ea zh zm) (N X Y : Int) : TB (((W.setCell ⟨w1.heap.size + 1, 2, none⟩ (.int .i64 N)).setCell ⟨w1.heap.size + 1, 3, none⟩ (.int .i64 X)).setCell ⟨w1.heap.size + 1, 3, none⟩ (.int .i64 Y)) (w1.heap.size + 1) k 0 N Y ∧ TB (((W.setCell ⟨w1.heap.size + 1, 2, none⟩ (.int .i64 N)).setCell ⟨w1.heap.size + 1, 3, none⟩ (.int .i64 X)).setCell ⟨w1.heap.size + 1, 3, none⟩ (.int .i64 Y)) w.heap.size 0 0 0 0 ∧ Below w.heap.size w (((W.setCell ⟨w1.heap.size + 1, 2, none⟩ (.int .i64 N)).setCell ⟨w1.heap.size + 1, 3, none⟩ (.int .i64 X)).setCell ⟨w1.heap.size + 1, 3, none⟩ (.int .i64 Y)) := by
  refine ⟨?_, (World.rowIs.setOther (World.rowIs.setOther (World.rowIs.setOther H.R (by simp; have := H.lt; omega) _) (by simp; have := H.lt; omega) _) (by simp; have := H.lt; omega) _), (((H.bel.setCell (by simp; have := H.lt; omega) _).setCell (by simp; have := H.lt; omega) _).setCell (by simp; have := H.lt; omega) _)⟩
  exact World.rowIs.congr (World.rowIs.set (World.rowIs.set (World.rowIs.set H.T 2 _) 3 _) 3 _) fun i hi => by
    rcases (show i = 0 ∨ i = 1 ∨ i = 2 ∨ i = 3 by omega) with rfl | rfl | rfl | rfl <;> rfl
theorem PM.fin3 {w w1 W : World} {k y mo d ho mi se na zh zm : Int} {ea : Bool} (H : PM w w1 W k y mo d ho mi se na ea zh zm) (D N X Y : Int) : TB ((((W.setCell ⟨w1.heap.size + 1, 1, none⟩ (.int .i64 D)).setCell ⟨w1.heap.size + 1, 2, none⟩ (.int .i64 N)).setCell ⟨w1.heap.size + 1, 3, none⟩ (.int .i64 X)).setCell ⟨w1.heap.size + 1, 3, none⟩ (.int .i64 Y)) (w1.heap.size + 1) k D N Y ∧ TB ((((W.setCell ⟨w1.heap.size + 1, 1, none⟩ (.int .i64 D)).setCell ⟨w1.heap.size + 1, 2, none⟩ (.int .i64 N)).setCell ⟨w1.heap.size + 1, 3, none⟩ (.int .i64 X)).setCell ⟨w1.heap.size + 1, 3, none⟩ (.int .i64 Y)) w.heap.size 0 0 0 0 ∧ Below w.heap.size w ((((W.setCell ⟨w1.heap.size + 1, 1, none⟩ (.int .i64 D)).setCell ⟨w1.heap.size + 1, 2, none⟩ (.int .i64 N)).setCell ⟨w1.heap.size + 1, 3, none⟩ (.int .i64 X)).setCell ⟨w1.heap.size + 1, 3, none⟩ (.int .i64 Y)) := by
  refine ⟨?_, (World.rowIs.setOther (World.rowIs.setOther (World.rowIs.setOther (World.rowIs.setOther H.R (by simp; have := H.lt; omega) _) (by simp; have := H.lt; omega) _) (by simp; have := H.lt; omega) _) (by simp; have := H.lt; omega) _), ((((H.bel.setCell (by simp; have := H.lt; omega) _).setCell (by simp; have := H.lt; omega) _).setCell (by simp; have := H.lt; omega) _).setCell (by simp; have := H.lt; omega) _)⟩
  exact World.rowIs.congr (World.rowIs.set (World.rowIs.set (World.rowIs.set (World.rowIs.set H.T 1 _) 2 _) 3 _) 3 _) fun i hi => by
    rcases (show i = 0 ∨ i = 1 ∨ i = 2 ∨ i = 3 by omega) with rfl | rfl | rfl | rfl <;> rfl
set_option maxRecDepth 100000 in
set_option maxHeartbeats 8000000 in
theorem parse_0 (s : ByteArray) (w : World) (HS : Hid (∀ w, Calls Tryd.prog 22 #[.string s] w fun e w' => e = .returned (.tuple #[.agg #[.int .i64 0, .int .i64 0, .int .i64 0, .int .i64 0, .int .i64 0, .int .i64 0, .int .i64 0, .int .i64 0, .bool false, .int .i64 0, .int .i64 0], .bool false]) ∧ Below w.heap.size w w')) : Calls Tryd.prog 12 #[.string s] w fun e w' => e = .returned (.tuple #[.agg #[.int .i64 0, .int .i64 0, .int .i64 0, .int .i64 0], .int .i64 3]) ∧ Below w.heap.size w w' := by
  go_enter Tryd.func12, Tryd.ntmps12
  go_wp2_with (go_at_call 22; go_loud ((with_reducible refine (HS.out _).mono ?_); rintro e w1 ⟨rfl, hX1⟩; obtain ⟨R0, B0⟩ := PM.bel1 hX1; have R1 := R0.alloc (.cells #[.int .i64 0, .int .i64 0, .int .i64 0, .int .i64 0, .int .i64 0, .int .i64 0, .int .i64 0, .int .i64 0, .bool false, .int .i64 0, .int .i64 0] 44); have B1 := B0.alloc B0.size (.cells #[.int .i64 0, .int .i64 0, .int .i64 0, .int .i64 0, .int .i64 0, .int .i64 0, .int .i64 0, .int .i64 0, .bool false, .int .i64 0, .int .i64 0] 44); obtain ⟨c0, c1, c2, c3⟩ := R1.cells; have y0 := R1.fz 0; have y1 := R1.fz 1; have y2 := R1.fz 2; have y3 := R1.fz 3; clear hX1))
  exact bodyPost_ret (v := .tuple #[.agg #[.int .i64 0, .int .i64 0, .int .i64 0, .int .i64 0], .int .i64 3]) (by simp [results, Tryd.results12, go_sem, c0, c1, c2, c3]) rfl ⟨rfl, ((((B1.setCell (by simp; try omega) _).setCell (by simp; try omega) _).setCell (by simp; try omega) _).setCell (by simp; try omega) _)⟩
set_option maxRecDepth 100000 in
set_option maxHeartbeats 8000000 in
theorem parse_1 (s : ByteArray) (k y mo d ho mi se na zh zm : Int) (ea : Bool) (D ER : Int) (w : World) (hk : k ≠ 2) (he : ER ≠ 0) (HS : Hid (∀ w, Calls Tryd.prog 22 #[.string s] w fun e w' => e = .returned (.tuple #[.agg #[.int .i64 k, .int .i64 y, .int .i64 mo, .int .i64 d, .int .i64 ho, .int .i64 mi, .int .i64 se, .int .i64 na, .bool ea, .int .i64 zh, .int .i64 zm], .bool true]) ∧ Below w.heap.size w w')) (HD : Hid (∀ w, Calls Tryd.prog 23 #[.int .i64 y, .int .i64 mo, .int .i64 d] w fun e w' => e = .returned (.tuple #[.int .i64 D, .int .i64 ER]) ∧ Below w.heap.size w w')) : Calls Tryd.prog 12 #[.string s] w fun e w' => e = .returned (.tuple #[.agg #[.int .i64 0, .int .i64 0, .int .i64 0, .int .i64 0], .int .i64 2]) ∧ Below w.heap.size w w' := by
  have hk2 : (k != 2) = true := by simpa using hk
  have he2 : (ER != 0) = true := by simpa using he
  clear hk he
  go_enter Tryd.func12, Tryd.ntmps12
  go_wp2_with (first | (go_at_call 22; go_loud ((with_reducible refine (HS.out _).mono ?_); rintro e w1 ⟨rfl, hX1⟩; have hlt := (PM.new hX1 k y mo d ho mi se na ea zh zm).lt; have G1 := Lib.hid (PM.new hX1 k y mo d ho mi se na ea zh zm); clear hX1)) | (go_at_call 23; go_loud ((with_reducible refine (HD.out _).mono ?_); rintro e w2 ⟨rfl, hX2⟩; have PM1 := G1.out.below hX2; have g0 : w2.cell? ⟨w1.heap.size, 0, none⟩ = some (.int .i64 k) := PM1.F.at_ 0 (by omega); have g1 : w2.cell? ⟨w1.heap.size, 1, none⟩ = some (.int .i64 y) := PM1.F.at_ 1 (by omega); have g2 : w2.cell? ⟨w1.heap.size, 2, none⟩ = some (.int .i64 mo) := PM1.F.at_ 2 (by omega); have g3 : w2.cell? ⟨w1.heap.size, 3, none⟩ = some (.int .i64 d) := PM1.F.at_ 3 (by omega); have g4 : w2.cell? ⟨w1.heap.size, 4, none⟩ = some (.int .i64 ho) := PM1.F.at_ 4 (by omega); have g5 : w2.cell? ⟨w1.heap.size, 5, none⟩ = some (.int .i64 mi) := PM1.F.at_ 5 (by omega); have g6 : w2.cell? ⟨w1.heap.size, 6, none⟩ = some (.int .i64 se) := PM1.F.at_ 6 (by omega); have g7 : w2.cell? ⟨w1.heap.size, 7, none⟩ = some (.int .i64 na) := PM1.F.at_ 7 (by omega); have g8 : w2.cell? ⟨w1.heap.size, 8, none⟩ = some (.bool ea) := PM1.F.at_ 8 (by omega); have g9 : w2.cell? ⟨w1.heap.size, 9, none⟩ = some (.int .i64 zh) := PM1.F.at_ 9 (by omega); have g10 : w2.cell? ⟨w1.heap.size, 10, none⟩ = some (.int .i64 zm) := PM1.F.at_ 10 (by omega); obtain ⟨a0, a1, a2, a3⟩ := PM1.T.cells; have u1 := PM1.T.fz 1; have u2 := PM1.T.fz 2; have u3 := PM1.T.fz 3; obtain ⟨c0, c1, c2, c3⟩ := PM1.R.cells; have y0 := PM1.R.fz 0; have y1 := PM1.R.fz 1; have y2 := PM1.R.fz 2; have y3 := PM1.R.fz 3; clear hX2)))
  exact bodyPost_ret (v := .tuple #[.agg #[.int .i64 0, .int .i64 0, .int .i64 0, .int .i64 0], .int .i64 2]) (by simp [results, Tryd.results12, go_sem, c0, c1, c2, c3]) rfl ⟨rfl, ((((PM1.bel.setCell (by simp; try omega) _).setCell (by simp; try omega) _).setCell (by simp; try omega) _).setCell (by simp; try omega) _)⟩
set_option maxRecDepth 100000 in
set_option maxHeartbeats 8000000 in
theorem parse_2 (s : ByteArray) (k y mo d ho mi se na zh zm : Int) (ea : Bool) (D ER : Int) (w : World) (hk : k ≠ 2) (hE : ER = 0) (HS : Hid (∀ w, Calls Tryd.prog 22 #[.string s] w fun e w' => e = .returned (.tuple #[.agg #[.int .i64 k, .int .i64 y, .int .i64 mo, .int .i64 d, .int .i64 ho, .int .i64 mi, .int .i64 se, .int .i64 na, .bool ea, .int .i64 zh, .int .i64 zm], .bool true]) ∧ Below w.heap.size w w')) (HD : Hid (∀ w, Calls Tryd.prog 23 #[.int .i64 y, .int .i64 mo, .int .i64 d] w fun e w' => e = .returned (.tuple #[.int .i64 D, .int .i64 ER]) ∧ Below w.heap.size w w')) (hb : 23 < ho ∨ (ho ≤ 23 ∧ 59 < mi) ∨ (ho ≤ 23 ∧ mi ≤ 59 ∧ 59 < se) ∨ (ho ≤ 23 ∧ mi ≤ 59 ∧ se ≤ 59 ∧ 23 < zh) ∨ (ho ≤ 23 ∧ mi ≤ 59 ∧ se ≤ 59 ∧ zh ≤ 23 ∧ 59 < zm)) : Calls Tryd.prog 12 #[.string s] w fun e w' => e = .returned (.tuple #[.agg #[.int .i64 0, .int .i64 0, .int .i64 0, .int .i64 0], .int .i64 2]) ∧ Below w.heap.size w w' := by
  have hk2 : (k != 2) = true := by simpa using hk
  subst hE
  clear hk
  have HB := Lib.hid hb
  clear hb
  go_enter Tryd.func12, Tryd.ntmps12
  go_upto_region 10 with (first | (go_at_call 22; go_loud ((with_reducible refine (HS.out _).mono ?_); rintro e w1 ⟨rfl, hX1⟩; have hlt := (PM.new hX1 k y mo d ho mi se na ea zh zm).lt; have G1 := Lib.hid (PM.new hX1 k y mo d ho mi se na ea zh zm); clear hX1)) | (go_at_call 23; go_loud ((with_reducible refine (HD.out _).mono ?_); rintro e w2 ⟨rfl, hX2⟩; have PM1 := G1.out.below hX2; have g0 : w2.cell? ⟨w1.heap.size, 0, none⟩ = some (.int .i64 k) := PM1.F.at_ 0 (by omega); have g1 : w2.cell? ⟨w1.heap.size, 1, none⟩ = some (.int .i64 y) := PM1.F.at_ 1 (by omega); have g2 : w2.cell? ⟨w1.heap.size, 2, none⟩ = some (.int .i64 mo) := PM1.F.at_ 2 (by omega); have g3 : w2.cell? ⟨w1.heap.size, 3, none⟩ = some (.int .i64 d) := PM1.F.at_ 3 (by omega); have g4 : w2.cell? ⟨w1.heap.size, 4, none⟩ = some (.int .i64 ho) := PM1.F.at_ 4 (by omega); have g5 : w2.cell? ⟨w1.heap.size, 5, none⟩ = some (.int .i64 mi) := PM1.F.at_ 5 (by omega); have g6 : w2.cell? ⟨w1.heap.size, 6, none⟩ = some (.int .i64 se) := PM1.F.at_ 6 (by omega); have g7 : w2.cell? ⟨w1.heap.size, 7, none⟩ = some (.int .i64 na) := PM1.F.at_ 7 (by omega); have g8 : w2.cell? ⟨w1.heap.size, 8, none⟩ = some (.bool ea) := PM1.F.at_ 8 (by omega); have g9 : w2.cell? ⟨w1.heap.size, 9, none⟩ = some (.int .i64 zh) := PM1.F.at_ 9 (by omega); have g10 : w2.cell? ⟨w1.heap.size, 10, none⟩ = some (.int .i64 zm) := PM1.F.at_ 10 (by omega); obtain ⟨a0, a1, a2, a3⟩ := PM1.T.cells; have u1 := PM1.T.fz 1; have u2 := PM1.T.fz 2; have u3 := PM1.T.fz 3; obtain ⟨c0, c1, c2, c3⟩ := PM1.R.cells; have y0 := PM1.R.fz 0; have y1 := PM1.R.fz 1; have y2 := PM1.R.fz 2; have y3 := PM1.R.fz 3; clear hX2)))
  rcases HB.out with q | ⟨q1, q⟩ | ⟨q1, q2, q⟩ | ⟨q1, q2, q3, q⟩ | ⟨q1, q2, q3, q4, q⟩
  · clear HB
    go_wp2
    exact bodyPost_ret (v := .tuple #[.agg #[.int .i64 0, .int .i64 0, .int .i64 0, .int .i64 0], .int .i64 2]) (by simp [results, Tryd.results12, go_sem, c0, c1, c2, c3]) rfl ⟨rfl, (((((PM1.bel.setCell (by simp; try omega) _).setCell (by simp; try omega) _).setCell (by simp; try omega) _).setCell (by simp; try omega) _).setCell (by simp; try omega) _)⟩
  · have p0 : ¬ 23 < ho := by omega
    clear q1 HB
    go_wp2
    exact bodyPost_ret (v := .tuple #[.agg #[.int .i64 0, .int .i64 0, .int .i64 0, .int .i64 0], .int .i64 2]) (by simp [results, Tryd.results12, go_sem, c0, c1, c2, c3]) rfl ⟨rfl, (((((PM1.bel.setCell (by simp; try omega) _).setCell (by simp; try omega) _).setCell (by simp; try omega) _).setCell (by simp; try omega) _).setCell (by simp; try omega) _)⟩
  · have p0 : ¬ 23 < ho := by omega
    have p1 : ¬ 59 < mi := by omega
    clear q1 q2 HB
    go_wp2
    exact bodyPost_ret (v := .tuple #[.agg #[.int .i64 0, .int .i64 0, .int .i64 0, .int .i64 0], .int .i64 2]) (by simp [results, Tryd.results12, go_sem, c0, c1, c2, c3]) rfl ⟨rfl, (((((PM1.bel.setCell (by simp; try omega) _).setCell (by simp; try omega) _).setCell (by simp; try omega) _).setCell (by simp; try omega) _).setCell (by simp; try omega) _)⟩
  · have p0 : ¬ 23 < ho := by omega
    have p1 : ¬ 59 < mi := by omega
    have p2 : ¬ 59 < se := by omega
    clear q1 q2 q3 HB
    go_wp2
    exact bodyPost_ret (v := .tuple #[.agg #[.int .i64 0, .int .i64 0, .int .i64 0, .int .i64 0], .int .i64 2]) (by simp [results, Tryd.results12, go_sem, c0, c1, c2, c3]) rfl ⟨rfl, (((((PM1.bel.setCell (by simp; try omega) _).setCell (by simp; try omega) _).setCell (by simp; try omega) _).setCell (by simp; try omega) _).setCell (by simp; try omega) _)⟩
  · have p0 : ¬ 23 < ho := by omega
    have p1 : ¬ 59 < mi := by omega
    have p2 : ¬ 59 < se := by omega
    have p3 : ¬ 23 < zh := by omega
    clear q1 q2 q3 q4 HB
    go_wp2
    exact bodyPost_ret (v := .tuple #[.agg #[.int .i64 0, .int .i64 0, .int .i64 0, .int .i64 0], .int .i64 2]) (by simp [results, Tryd.results12, go_sem, c0, c1, c2, c3]) rfl ⟨rfl, (((((PM1.bel.setCell (by simp; try omega) _).setCell (by simp; try omega) _).setCell (by simp; try omega) _).setCell (by simp; try omega) _).setCell (by simp; try omega) _)⟩
set_option maxRecDepth 100000 in
set_option maxHeartbeats 8000000 in
theorem parse_3 (s : ByteArray) (k y mo d ho mi se na zh zm : Int) (ea : Bool) (w : World) (hk : k = 2) (HS : Hid (∀ w, Calls Tryd.prog 22 #[.string s] w fun e w' => e = .returned (.tuple #[.agg #[.int .i64 k, .int .i64 y, .int .i64 mo, .int .i64 d, .int .i64 ho, .int .i64 mi, .int .i64 se, .int .i64 na, .bool ea, .int .i64 zh, .int .i64 zm], .bool true]) ∧ Below w.heap.size w w')) (hb : 23 < ho ∨ (ho ≤ 23 ∧ 59 < mi) ∨ (ho ≤ 23 ∧ mi ≤ 59 ∧ 59 < se) ∨ (ho ≤ 23 ∧ mi ≤ 59 ∧ se ≤ 59 ∧ 23 < zh) ∨ (ho ≤ 23 ∧ mi ≤ 59 ∧ se ≤ 59 ∧ zh ≤ 23 ∧ 59 < zm)) : Calls Tryd.prog 12 #[.string s] w fun e w' => e = .returned (.tuple #[.agg #[.int .i64 0, .int .i64 0, .int .i64 0, .int .i64 0], .int .i64 2]) ∧ Below w.heap.size w w' := by
  subst hk
  have HB := Lib.hid hb
  clear hb
  go_enter Tryd.func12, Tryd.ntmps12
  go_upto_region 10 with (go_at_call 22; go_loud ((with_reducible refine (HS.out _).mono ?_); rintro e w1 ⟨rfl, hX1⟩; have hlt := (PM.new hX1 2 y mo d ho mi se na ea zh zm).lt; have G1 := Lib.hid (PM.new hX1 2 y mo d ho mi se na ea zh zm); clear hX1))
  have PM1 := G1.out
  clear G1
  generalize ((w1.alloc (.cells #[.int .i64 2, .int .i64 y, .int .i64 mo, .int .i64 d, .int .i64 ho, .int .i64 mi, .int .i64 se, .int .i64 na, .bool ea, .int .i64 zh, .int .i64 zm] 44)).alloc (.cells #[.int .i64 2, .int .i64 0, .int .i64 0, .int .i64 0] 23)) = W0 at PM1 ⊢
  have g0 : W0.cell? ⟨w1.heap.size, 0, none⟩ = some (.int .i64 2) := PM1.F.at_ 0 (by omega)
  have g1 : W0.cell? ⟨w1.heap.size, 1, none⟩ = some (.int .i64 y) := PM1.F.at_ 1 (by omega)
  have g2 : W0.cell? ⟨w1.heap.size, 2, none⟩ = some (.int .i64 mo) := PM1.F.at_ 2 (by omega)
  have g3 : W0.cell? ⟨w1.heap.size, 3, none⟩ = some (.int .i64 d) := PM1.F.at_ 3 (by omega)
  have g4 : W0.cell? ⟨w1.heap.size, 4, none⟩ = some (.int .i64 ho) := PM1.F.at_ 4 (by omega)
  have g5 : W0.cell? ⟨w1.heap.size, 5, none⟩ = some (.int .i64 mi) := PM1.F.at_ 5 (by omega)
  have g6 : W0.cell? ⟨w1.heap.size, 6, none⟩ = some (.int .i64 se) := PM1.F.at_ 6 (by omega)
  have g7 : W0.cell? ⟨w1.heap.size, 7, none⟩ = some (.int .i64 na) := PM1.F.at_ 7 (by omega)
  have g8 : W0.cell? ⟨w1.heap.size, 8, none⟩ = some (.bool ea) := PM1.F.at_ 8 (by omega)
  have g9 : W0.cell? ⟨w1.heap.size, 9, none⟩ = some (.int .i64 zh) := PM1.F.at_ 9 (by omega)
  have g10 : W0.cell? ⟨w1.heap.size, 10, none⟩ = some (.int .i64 zm) := PM1.F.at_ 10 (by omega)
  obtain ⟨a0, a1, a2, a3⟩ := PM1.T.cells
  have u1 := PM1.T.fz 1
  have u2 := PM1.T.fz 2
  have u3 := PM1.T.fz 3
  obtain ⟨c0, c1, c2, c3⟩ := PM1.R.cells
  have y0 := PM1.R.fz 0
  have y1 := PM1.R.fz 1
  have y2 := PM1.R.fz 2
  have y3 := PM1.R.fz 3
  rcases HB.out with q | ⟨q1, q⟩ | ⟨q1, q2, q⟩ | ⟨q1, q2, q3, q⟩ | ⟨q1, q2, q3, q4, q⟩
  · clear HB
    go_wp2
    exact bodyPost_ret (v := .tuple #[.agg #[.int .i64 0, .int .i64 0, .int .i64 0, .int .i64 0], .int .i64 2]) (by simp [results, Tryd.results12, go_sem, c0, c1, c2, c3]) rfl ⟨rfl, ((((PM1.bel.setCell (by simp; try omega) _).setCell (by simp; try omega) _).setCell (by simp; try omega) _).setCell (by simp; try omega) _)⟩
  · have p0 : ¬ 23 < ho := by omega
    clear q1 HB
    go_wp2
    exact bodyPost_ret (v := .tuple #[.agg #[.int .i64 0, .int .i64 0, .int .i64 0, .int .i64 0], .int .i64 2]) (by simp [results, Tryd.results12, go_sem, c0, c1, c2, c3]) rfl ⟨rfl, ((((PM1.bel.setCell (by simp; try omega) _).setCell (by simp; try omega) _).setCell (by simp; try omega) _).setCell (by simp; try omega) _)⟩
  · have p0 : ¬ 23 < ho := by omega
    have p1 : ¬ 59 < mi := by omega
    clear q1 q2 HB
    go_wp2
    exact bodyPost_ret (v := .tuple #[.agg #[.int .i64 0, .int .i64 0, .int .i64 0, .int .i64 0], .int .i64 2]) (by simp [results, Tryd.results12, go_sem, c0, c1, c2, c3]) rfl ⟨rfl, ((((PM1.bel.setCell (by simp; try omega) _).setCell (by simp; try omega) _).setCell (by simp; try omega) _).setCell (by simp; try omega) _)⟩
  · have p0 : ¬ 23 < ho := by omega
    have p1 : ¬ 59 < mi := by omega
    have p2 : ¬ 59 < se := by omega
    clear q1 q2 q3 HB
    go_wp2
    exact bodyPost_ret (v := .tuple #[.agg #[.int .i64 0, .int .i64 0, .int .i64 0, .int .i64 0], .int .i64 2]) (by simp [results, Tryd.results12, go_sem, c0, c1, c2, c3]) rfl ⟨rfl, ((((PM1.bel.setCell (by simp; try omega) _).setCell (by simp; try omega) _).setCell (by simp; try omega) _).setCell (by simp; try omega) _)⟩
  · have p0 : ¬ 23 < ho := by omega
    have p1 : ¬ 59 < mi := by omega
    have p2 : ¬ 59 < se := by omega
    have p3 : ¬ 23 < zh := by omega
    clear q1 q2 q3 q4 HB
    go_wp2
    exact bodyPost_ret (v := .tuple #[.agg #[.int .i64 0, .int .i64 0, .int .i64 0, .int .i64 0], .int .i64 2]) (by simp [results, Tryd.results12, go_sem, c0, c1, c2, c3]) rfl ⟨rfl, ((((PM1.bel.setCell (by simp; try omega) _).setCell (by simp; try omega) _).setCell (by simp; try omega) _).setCell (by simp; try omega) _)⟩
set_option maxRecDepth 100000 in
set_option maxHeartbeats 8000000 in
theorem parse_4 (s : ByteArray) (k y mo d ho mi se na zh zm : Int) (ea : Bool) (D ER : Int) (w : World) (hk : k ≠ 2) (hE : ER = 0) (HS : Hid (∀ w, Calls Tryd.prog 22 #[.string s] w fun e w' => e = .returned (.tuple #[.agg #[.int .i64 k, .int .i64 y, .int .i64 mo, .int .i64 d, .int .i64 ho, .int .i64 mi, .int .i64 se, .int .i64 na, .bool ea, .int .i64 zh, .int .i64 zm], .bool true]) ∧ Below w.heap.size w w')) (HD : Hid (∀ w, Calls Tryd.prog 23 #[.int .i64 y, .int .i64 mo, .int .i64 d] w fun e w' => e = .returned (.tuple #[.int .i64 D, .int .i64 ER]) ∧ Below w.heap.size w w')) (b1 : 0 ≤ ho ∧ ho ≤ 23) (b2 : 0 ≤ mi ∧ mi ≤ 59) (b3 : 0 ≤ se ∧ se ≤ 59) (b4 : 0 ≤ zh ∧ zh ≤ 23) (b5 : 0 ≤ zm ∧ zm ≤ 59) (b6 : 0 ≤ na ∧ na ≤ 999999999) : Calls Tryd.prog 12 #[.string s] w fun e w' => e = .returned (.tuple #[.agg #[.int .i64 k, .int .i64 D, .int .i64 (ho * 3600000000000 + mi * 60000000000 + se * 1000000000 + na), .int .i64 (if ea = true then zh * 60 + zm else -(zh * 60 + zm))], .int .i64 0]) ∧ Below w.heap.size w w' := by
  have hk2 : (k != 2) = true := by simpa using hk
  subst hE
  clear hk
  have p1 : ¬ 23 < ho := by omega
  have p2 : ¬ 59 < mi := by omega
  have p3 : ¬ 59 < se := by omega
  have p4 : ¬ 23 < zh := by omega
  have p5 : ¬ 59 < zm := by omega
  have w1' : IntKind.i64.wrap (ho * 3600000000000) = ho * 3600000000000 := IntWalk.i64_in _ (by omega)
  have w2' : IntKind.i64.wrap (mi * 60000000000) = mi * 60000000000 := IntWalk.i64_in _ (by omega)
  have w3' : IntKind.i64.wrap (se * 1000000000) = se * 1000000000 := IntWalk.i64_in _ (by omega)
  have w4' : IntKind.i64.wrap (ho * 3600000000000 + mi * 60000000000) = ho * 3600000000000 + mi * 60000000000 := IntWalk.i64_in _ (by omega)
  have w5' : IntKind.i64.wrap (ho * 3600000000000 + mi * 60000000000 + se * 1000000000) = ho * 3600000000000 + mi * 60000000000 + se * 1000000000 := IntWalk.i64_in _ (by omega)
  have w6' : IntKind.i64.wrap (ho * 3600000000000 + mi * 60000000000 + se * 1000000000 + na) = ho * 3600000000000 + mi * 60000000000 + se * 1000000000 + na := IntWalk.i64_in _ (by omega)
  have w7' : IntKind.i64.wrap (zh * 60) = zh * 60 := IntWalk.i64_in _ (by omega)
  have w8' : IntKind.i64.wrap (zh * 60 + zm) = zh * 60 + zm := IntWalk.i64_in _ (by omega)
  have w9' : IntKind.i64.wrap (-(zh * 60 + zm)) = -(zh * 60 + zm) := IntWalk.i64_in _ (by omega)
  go_enter Tryd.func12, Tryd.ntmps12
  go_upto_region 10 with (first | (go_at_call 22; go_loud ((with_reducible refine (HS.out _).mono ?_); rintro e w1 ⟨rfl, hX1⟩; have hlt := (PM.new hX1 k y mo d ho mi se na ea zh zm).lt; have G1 := Lib.hid (PM.new hX1 k y mo d ho mi se na ea zh zm); clear hX1)) | (go_at_call 23; go_loud ((with_reducible refine (HD.out _).mono ?_); rintro e w2 ⟨rfl, hX2⟩; have PM1 := G1.out.below hX2; have g0 : w2.cell? ⟨w1.heap.size, 0, none⟩ = some (.int .i64 k) := PM1.F.at_ 0 (by omega); have g1 : w2.cell? ⟨w1.heap.size, 1, none⟩ = some (.int .i64 y) := PM1.F.at_ 1 (by omega); have g2 : w2.cell? ⟨w1.heap.size, 2, none⟩ = some (.int .i64 mo) := PM1.F.at_ 2 (by omega); have g3 : w2.cell? ⟨w1.heap.size, 3, none⟩ = some (.int .i64 d) := PM1.F.at_ 3 (by omega); have g4 : w2.cell? ⟨w1.heap.size, 4, none⟩ = some (.int .i64 ho) := PM1.F.at_ 4 (by omega); have g5 : w2.cell? ⟨w1.heap.size, 5, none⟩ = some (.int .i64 mi) := PM1.F.at_ 5 (by omega); have g6 : w2.cell? ⟨w1.heap.size, 6, none⟩ = some (.int .i64 se) := PM1.F.at_ 6 (by omega); have g7 : w2.cell? ⟨w1.heap.size, 7, none⟩ = some (.int .i64 na) := PM1.F.at_ 7 (by omega); have g8 : w2.cell? ⟨w1.heap.size, 8, none⟩ = some (.bool ea) := PM1.F.at_ 8 (by omega); have g9 : w2.cell? ⟨w1.heap.size, 9, none⟩ = some (.int .i64 zh) := PM1.F.at_ 9 (by omega); have g10 : w2.cell? ⟨w1.heap.size, 10, none⟩ = some (.int .i64 zm) := PM1.F.at_ 10 (by omega); obtain ⟨a0, a1, a2, a3⟩ := PM1.T.cells; have u1 := PM1.T.fz 1; have u2 := PM1.T.fz 2; have u3 := PM1.T.fz 3; obtain ⟨c0, c1, c2, c3⟩ := PM1.R.cells; have y0 := PM1.R.fz 0; have y1 := PM1.R.fz 1; have y2 := PM1.R.fz 2; have y3 := PM1.R.fz 3; clear hX2)))
  cases ea
  · go_upto_region 16 with fail
    obtain ⟨T9, R9, B9⟩ := PM1.fin3 D (ho * 3600000000000 + mi * 60000000000 + se * 1000000000 + na) (zh * 60 + zm) (-(zh * 60 + zm))
    generalize ((((w2.setCell ⟨w1.heap.size + 1, 1, none⟩ (.int .i64 D)).setCell ⟨w1.heap.size + 1, 2, none⟩ (.int .i64 (ho * 3600000000000 + mi * 60000000000 + se * 1000000000 + na))).setCell ⟨w1.heap.size + 1, 3, none⟩ (.int .i64 (zh * 60 + zm))).setCell ⟨w1.heap.size + 1, 3, none⟩ (.int .i64 (-(zh * 60 + zm)))) = W9 at T9 R9 B9 ⊢
    clear a0 a1 a2 a3 u1 u2 u3 c0 c1 c2 c3 y0 y1 y2 y3 PM1
    obtain ⟨a0, a1, a2, a3⟩ := T9.cells
    obtain ⟨c0, c1, c2, c3⟩ := R9.cells
    have y0 := R9.fz 0
    have y1 := R9.fz 1
    have y2 := R9.fz 2
    have y3 := R9.fz 3
    go_wp2
    exact bodyPost_ret (v := .tuple #[.agg #[.int .i64 k, .int .i64 D, .int .i64 (ho * 3600000000000 + mi * 60000000000 + se * 1000000000 + na), .int .i64 (-(zh * 60 + zm))], .int .i64 0]) (by simp [results, Tryd.results12, go_sem, c0, c1, c2, c3]) rfl ⟨rfl, ((((B9.setCell (by simp; try omega) _).setCell (by simp; try omega) _).setCell (by simp; try omega) _).setCell (by simp; try omega) _)⟩
  · go_wp2
    exact bodyPost_ret (v := .tuple #[.agg #[.int .i64 k, .int .i64 D, .int .i64 (ho * 3600000000000 + mi * 60000000000 + se * 1000000000 + na), .int .i64 (zh * 60 + zm)], .int .i64 0]) (by simp [results, Tryd.results12, go_sem, c0, c1, c2, c3]) rfl ⟨rfl, (((((((PM1.bel.setCell (by simp; try omega) _).setCell (by simp; try omega) _).setCell (by simp; try omega) _).setCell (by simp; try omega) _).setCell (by simp; try omega) _).setCell (by simp; try omega) _).setCell (by simp; try omega) _)⟩
set_option maxRecDepth 100000 in
set_option maxHeartbeats 8000000 in
theorem parse_5 (s : ByteArray) (k y mo d ho mi se na zh zm : Int) (ea : Bool) (w : World) (hk : k = 2) (HS : Hid (∀ w, Calls Tryd.prog 22 #[.string s] w fun e w' => e = .returned (.tuple #[.agg #[.int .i64 k, .int .i64 y, .int .i64 mo, .int .i64 d, .int .i64 ho, .int .i64 mi, .int .i64 se, .int .i64 na, .bool ea, .int .i64 zh, .int .i64 zm], .bool true]) ∧ Below w.heap.size w w')) (b1 : 0 ≤ ho ∧ ho ≤ 23) (b2 : 0 ≤ mi ∧ mi ≤ 59) (b3 : 0 ≤ se ∧ se ≤ 59) (b4 : 0 ≤ zh ∧ zh ≤ 23) (b5 : 0 ≤ zm ∧ zm ≤ 59) (b6 : 0 ≤ na ∧ na ≤ 999999999) : Calls Tryd.prog 12 #[.string s] w fun e w' => e = .returned (.tuple #[.agg #[.int .i64 2, .int .i64 0, .int .i64 (ho * 3600000000000 + mi * 60000000000 + se * 1000000000 + na), .int .i64 (if ea = true then zh * 60 + zm else -(zh * 60 + zm))], .int .i64 0]) ∧ Below w.heap.size w w' := by
  subst hk
  have p1 : ¬ 23 < ho := by omega
  have p2 : ¬ 59 < mi := by omega
  have p3 : ¬ 59 < se := by omega
  have p4 : ¬ 23 < zh := by omega
  have p5 : ¬ 59 < zm := by omega
  have w1' : IntKind.i64.wrap (ho * 3600000000000) = ho * 3600000000000 := IntWalk.i64_in _ (by omega)
  have w2' : IntKind.i64.wrap (mi * 60000000000) = mi * 60000000000 := IntWalk.i64_in _ (by omega)
  have w3' : IntKind.i64.wrap (se * 1000000000) = se * 1000000000 := IntWalk.i64_in _ (by omega)
  have w4' : IntKind.i64.wrap (ho * 3600000000000 + mi * 60000000000) = ho * 3600000000000 + mi * 60000000000 := IntWalk.i64_in _ (by omega)
  have w5' : IntKind.i64.wrap (ho * 3600000000000 + mi * 60000000000 + se * 1000000000) = ho * 3600000000000 + mi * 60000000000 + se * 1000000000 := IntWalk.i64_in _ (by omega)
  have w6' : IntKind.i64.wrap (ho * 3600000000000 + mi * 60000000000 + se * 1000000000 + na) = ho * 3600000000000 + mi * 60000000000 + se * 1000000000 + na := IntWalk.i64_in _ (by omega)
  have w7' : IntKind.i64.wrap (zh * 60) = zh * 60 := IntWalk.i64_in _ (by omega)
  have w8' : IntKind.i64.wrap (zh * 60 + zm) = zh * 60 + zm := IntWalk.i64_in _ (by omega)
  have w9' : IntKind.i64.wrap (-(zh * 60 + zm)) = -(zh * 60 + zm) := IntWalk.i64_in _ (by omega)
  go_enter Tryd.func12, Tryd.ntmps12
  go_upto_region 10 with (go_at_call 22; go_loud ((with_reducible refine (HS.out _).mono ?_); rintro e w1 ⟨rfl, hX1⟩; have hlt := (PM.new hX1 2 y mo d ho mi se na ea zh zm).lt; have G1 := Lib.hid (PM.new hX1 2 y mo d ho mi se na ea zh zm); clear hX1))
  have PM1 := G1.out
  clear G1
  generalize ((w1.alloc (.cells #[.int .i64 2, .int .i64 y, .int .i64 mo, .int .i64 d, .int .i64 ho, .int .i64 mi, .int .i64 se, .int .i64 na, .bool ea, .int .i64 zh, .int .i64 zm] 44)).alloc (.cells #[.int .i64 2, .int .i64 0, .int .i64 0, .int .i64 0] 23)) = W0 at PM1 ⊢
  have g0 : W0.cell? ⟨w1.heap.size, 0, none⟩ = some (.int .i64 2) := PM1.F.at_ 0 (by omega)
  have g1 : W0.cell? ⟨w1.heap.size, 1, none⟩ = some (.int .i64 y) := PM1.F.at_ 1 (by omega)
  have g2 : W0.cell? ⟨w1.heap.size, 2, none⟩ = some (.int .i64 mo) := PM1.F.at_ 2 (by omega)
  have g3 : W0.cell? ⟨w1.heap.size, 3, none⟩ = some (.int .i64 d) := PM1.F.at_ 3 (by omega)
  have g4 : W0.cell? ⟨w1.heap.size, 4, none⟩ = some (.int .i64 ho) := PM1.F.at_ 4 (by omega)
  have g5 : W0.cell? ⟨w1.heap.size, 5, none⟩ = some (.int .i64 mi) := PM1.F.at_ 5 (by omega)
  have g6 : W0.cell? ⟨w1.heap.size, 6, none⟩ = some (.int .i64 se) := PM1.F.at_ 6 (by omega)
  have g7 : W0.cell? ⟨w1.heap.size, 7, none⟩ = some (.int .i64 na) := PM1.F.at_ 7 (by omega)
  have g8 : W0.cell? ⟨w1.heap.size, 8, none⟩ = some (.bool ea) := PM1.F.at_ 8 (by omega)
  have g9 : W0.cell? ⟨w1.heap.size, 9, none⟩ = some (.int .i64 zh) := PM1.F.at_ 9 (by omega)
  have g10 : W0.cell? ⟨w1.heap.size, 10, none⟩ = some (.int .i64 zm) := PM1.F.at_ 10 (by omega)
  obtain ⟨a0, a1, a2, a3⟩ := PM1.T.cells
  have u1 := PM1.T.fz 1
  have u2 := PM1.T.fz 2
  have u3 := PM1.T.fz 3
  obtain ⟨c0, c1, c2, c3⟩ := PM1.R.cells
  have y0 := PM1.R.fz 0
  have y1 := PM1.R.fz 1
  have y2 := PM1.R.fz 2
  have y3 := PM1.R.fz 3
  cases ea
  · go_upto_region 16 with fail
    obtain ⟨T9, R9, B9⟩ := PM1.fin2 (ho * 3600000000000 + mi * 60000000000 + se * 1000000000 + na) (zh * 60 + zm) (-(zh * 60 + zm))
    generalize (((W0.setCell ⟨w1.heap.size + 1, 2, none⟩ (.int .i64 (ho * 3600000000000 + mi * 60000000000 + se * 1000000000 + na))).setCell ⟨w1.heap.size + 1, 3, none⟩ (.int .i64 (zh * 60 + zm))).setCell ⟨w1.heap.size + 1, 3, none⟩ (.int .i64 (-(zh * 60 + zm)))) = W9 at T9 R9 B9 ⊢
    clear a0 a1 a2 a3 u1 u2 u3 c0 c1 c2 c3 y0 y1 y2 y3 PM1
    obtain ⟨a0, a1, a2, a3⟩ := T9.cells
    obtain ⟨c0, c1, c2, c3⟩ := R9.cells
    have y0 := R9.fz 0
    have y1 := R9.fz 1
    have y2 := R9.fz 2
    have y3 := R9.fz 3
    go_wp2
    exact bodyPost_ret (v := .tuple #[.agg #[.int .i64 2, .int .i64 0, .int .i64 (ho * 3600000000000 + mi * 60000000000 + se * 1000000000 + na), .int .i64 (-(zh * 60 + zm))], .int .i64 0]) (by simp [results, Tryd.results12, go_sem, c0, c1, c2, c3]) rfl ⟨rfl, ((((B9.setCell (by simp; try omega) _).setCell (by simp; try omega) _).setCell (by simp; try omega) _).setCell (by simp; try omega) _)⟩
  · go_wp2
    exact bodyPost_ret (v := .tuple #[.agg #[.int .i64 2, .int .i64 0, .int .i64 (ho * 3600000000000 + mi * 60000000000 + se * 1000000000 + na), .int .i64 (zh * 60 + zm)], .int .i64 0]) (by simp [results, Tryd.results12, go_sem, c0, c1, c2, c3]) rfl ⟨rfl, ((((((PM1.bel.setCell (by simp; try omega) _).setCell (by simp; try omega) _).setCell (by simp; try omega) _).setCell (by simp; try omega) _).setCell (by simp; try omega) _).setCell (by simp; try omega) _)⟩
end Go.Proofs.YtkbddelacjjapaaDoor.Mom
