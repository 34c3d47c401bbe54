/-
  The law's walk: DecimalMakes.
-/
import Derived.Test.YtelehjdhjjedhaaDoorDecE
import Derived.Deep.RegionLaw
namespace Go.Proofs.YtelehjdhjjedhaaDoor.Dec
open Go.RowKit
set_option linter.unusedVariables false
set_option linter.unusedSimpArgs false
open Go.Proofs.YtelehjdhjjedhaaDoor.Dig

theorem DC.d {w : World} {A : Nat} {g : Bool} {s : ByteArray} {x : Int} (h : DC w A g s x) : DC w.drew A g s x := h
theorem makes_both (g : Bool) (s : ByteArray) (x : Int) (hs : s.size ≤ 1000) (hx : -9223372036854775808 ≤ x ∧ x ≤ 9223372036854775807) : ∃ (a : Bool) (b : ByteArray) (c e : Int),
    (∀ w, Calls Tryd.prog 7 #[.bool g, .string s, .int .i64 x] w fun r w' => r = .returned (.tuple #[.agg #[.bool a, .string b, .int .i64 c], .int .i64 e]) ∧ Below w.heap.size w w') ∧
    ∀ w, Calls Tryd.prog 8 #[.bool g, .string s, .int .i64 x] w fun r w' => r = .returned (.tuple #[.agg #[.bool a, .string b, .int .i64 c], .int .i64 e]) ∧ Below w.heap.size w w' := by
  cases h : digs s.data.toList with
  | true => exact ⟨_, _, _, _, fun w => make_any g s _ x w ⟨h, rfl⟩ (by omega) hx, fun w => rmake_any g s _ x w ⟨h, rfl⟩ (by omega) hx⟩
  | false => exact ⟨_, _, _, _, fun w => make_bad g s x w h (by omega), fun w => rmake_bad g s x w h (by omega)⟩
set_option maxRecDepth 100000 in
set_option maxHeartbeats 4000000 in
theorem makes_walk (n : Bool) (s : ByteArray) (g : Bool) (t : ByteArray) (x : Int) (w : World) (hs : s.size ≤ maxLen) (ht : t.size ≤ maxLen) (hx : -9223372036854775808 ≤ x ∧ x ≤ 9223372036854775807) : Calls Tryd.prog 3 #[.bool n, .string s, .agg #[.bool g, .string t, .int .i64 x]] w fun e w' => e = .returned (.bool true) ∧ Below w.heap.size w w' := by
  unfold maxLen at hs ht
  have HL := Lib.hid lives_any
  have b0 : Below w.heap.size w (w.alloc (.cells #[.bool g, .string t, .int .i64 x] 23)) := (Below.refl _ _).alloc (Nat.le_refl _) _
  by_cases h : 1000 < s.size
  · go_enter Tryd.func3, Tryd.ntmps3
    go_wp2_with (go_at_call 6; (with_reducible refine (HL.out _).mono ?_); rintro e w1 ⟨rfl, hb⟩; have b1 := b0.trans (hb.mono b0.size))
    go_ret
    exact ⟨rfl, b1⟩
  have h' : ¬ (1000 : Int) < (s.size : Int) := by omega
  obtain ⟨a, b, c, d, HM, HR⟩ := makes_both n s x (by omega) hx
  have HM := Lib.hid HM
  have HR := Lib.hid HR
  have HV := Lib.hid (fun w => dvalid_any g t x w (by omega) hx)
  have HW := Lib.hid (fun w => rdvalid_any g t x w (by omega) hx)
  obtain ⟨v, hv⟩ : ∃ v, vB g t x = v := ⟨_, rfl⟩
  rw [hv] at HV HW
  clear hv
  have D0 := Lib.hid (DC.new w g t x)
  go_enter Tryd.func3, Tryd.ntmps3
  go_wp2_with (first
    | (go_at_call 7; go_loud ((with_reducible refine (HM.out _).mono ?_); rintro e w1 ⟨rfl, hb⟩; have D1 := (D0.out.below hb D0.out.lt).alloc (.cells #[.bool a, .string b, .int .i64 c] 23); have X1 := DC.new w1 a b c; have b1 := (b0.trans (hb.mono b0.size)).alloc (Nat.le_trans b0.size hb.size) (.cells #[.bool a, .string b, .int .i64 c] 23); clear hb; obtain ⟨d0, d1, d2⟩ := D1.cells))
    | (go_at_call 8; go_loud ((with_reducible refine (HR.out _).mono ?_); rintro e w2 ⟨rfl, hb⟩; have D := ((D1.below hb D1.lt).alloc (.cells #[.bool a, .string b, .int .i64 c] 23)).d; have X := ((X1.below hb X1.lt).alloc (.cells #[.bool a, .string b, .int .i64 c] 23)).d; have Y := (DC.new w2 a b c).d; have bl := ((b1.trans (hb.mono b1.size)).alloc (Nat.le_trans b1.size hb.size) (.cells #[.bool a, .string b, .int .i64 c] 23)).drew; clear hb)))
  clear D1 X1 b1 D0 b0 d0 d1 d2
  obtain ⟨d0, d1, d2⟩ := D.cells
  obtain ⟨x0, x1, x2⟩ := X.cells
  obtain ⟨y0, y1, y2⟩ := Y.cells
  go_region_law (first
    | (go_simp; go_at_call 9; (with_reducible refine (HV.out _).mono ?_); rintro e wn ⟨rfl, hb⟩; have D' := D.below hb D.lt; have X' := X.below hb X.lt; have Y' := Y.below hb Y.lt; have bl' := bl.trans (hb.mono bl.size); clear hb D X Y bl d0 d1 d2 x0 x1 x2 y0 y1 y2; have D := D'; have X := X'; have Y := Y'; have bl := bl'; clear D' X' Y' bl'; obtain ⟨d0, d1, d2⟩ := D.cells; obtain ⟨x0, x1, x2⟩ := X.cells; obtain ⟨y0, y1, y2⟩ := Y.cells)
    | (go_simp; go_at_call 10; (with_reducible refine (HW.out _).mono ?_); rintro e wn ⟨rfl, hb⟩; have D' := D.below hb D.lt; have X' := X.below hb X.lt; have Y' := Y.below hb Y.lt; have bl' := bl.trans (hb.mono bl.size); clear hb D X Y bl d0 d1 d2 x0 x1 x2 y0 y1 y2; have D := D'; have X := X'; have Y := Y'; have bl := bl'; clear D' X' Y' bl'; obtain ⟨d0, d1, d2⟩ := D.cells; obtain ⟨x0, x1, x2⟩ := X.cells; obtain ⟨y0, y1, y2⟩ := Y.cells)
    | (go_simp; go_at_call 6; (with_reducible refine (HL.out _).mono ?_); rintro e wn ⟨rfl, hb⟩; have D' := D.below hb D.lt; have X' := X.below hb X.lt; have Y' := Y.below hb Y.lt; have bl' := bl.trans (hb.mono bl.size); clear hb D X Y bl d0 d1 d2 x0 x1 x2 y0 y1 y2; have D := D'; have X := X'; have Y := Y'; have bl := bl'; clear D' X' Y' bl'; obtain ⟨d0, d1, d2⟩ := D.cells; obtain ⟨x0, x1, x2⟩ := X.cells; obtain ⟨y0, y1, y2⟩ := Y.cells))
  all_goals
    go_wp2
    go_ret
    exact ⟨rfl, bl⟩
end Go.Proofs.YtelehjdhjjedhaaDoor.Dec
