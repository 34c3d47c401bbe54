/-
  The library's two tables of UTF-8, as a call finds them (for a program that does not reach the library's slow decoder).
-/
import Derived.Test.YtfdfncffogjbdaaDoorUtfB
import Derived.Lib.LaidU8
import Derived.PinnedBridge
import Derived.Lay
namespace Go.Proofs.YtfdfncffogjbdaaDoor.Utf
open Go.RowKit
set_option linter.unusedVariables false
set_option linter.unusedSimpArgs false

theorem first_of {W : World} (h : Lib.VarReads Tryd.prog W "unicode/utf8.first" Lib.firstData) (c : Nat) (hc : c < 256) : W.cell? ⟨0, c, none⟩ = some (.int .u8 (Lib.firstT c)) := by
  obtain ⟨g, t, cs, fuel, p, hg, ht, hvar, hd⟩ := h
  obtain rfl := Option.some.inj ((show Tryd.prog.globalNamed "unicode/utf8.first" = some 0 by kernel_rfl).symm.trans hg)
  obtain rfl := Option.some.inj ((show (Tryd.prog.globals[0]?).map (·.type) = some 85 by kernel_rfl).symm.trans ht)
  have e := Lib.cells_of_tab Tryd.underlying85 Tryd.underlying5 (by kernel_rfl) (by kernel_rfl) hd
  rw [World.var?_cell hg hvar c, ← Array.getElem?_toList, e]
  unfold Lib.firstTab
  rw [List.getElem?_map, List.getElem?_map, List.getElem?_range hc]
  rfl
theorem accept_of {W : World} (h : Lib.VarReads Tryd.prog W "unicode/utf8.acceptRanges" Lib.acceptData) (i : Nat) (hi : i < 16) : W.cell? ⟨1, 2 * i, none⟩ = some (.int .u8 (Lib.accLo i)) ∧ W.cell? ⟨1, 2 * i + 1, none⟩ = some (.int .u8 (Lib.accHi i)) := by
  obtain ⟨g, t, cs, fuel, p, hg, ht, hvar, hd⟩ := h
  obtain rfl := Option.some.inj ((show Tryd.prog.globalNamed "unicode/utf8.acceptRanges" = some 1 by kernel_rfl).symm.trans hg)
  obtain rfl := Option.some.inj ((show (Tryd.prog.globals[1]?).map (·.type) = some 88 by kernel_rfl).symm.trans ht)
  obtain ⟨fuel', d, q, hdi, he⟩ := Lib.array_elem Tryd.underlying88 hd i hi
  have hdd : d = .agg ([(Lib.accLo i : Int), (Lib.accHi i : Int)].map fun z => .lit (.int .u8 z)) := by
    rw [List.getElem?_map, List.getElem?_range hi] at hdi
    exact (Option.some.inj hdi).symm
  subst hdd
  have h2 : Tryd.prog.cellsOf 87 = 2 := by kernel_rfl
  have h1 : Tryd.prog.cellsOf 5 = 1 := by kernel_rfl
  rw [h2] at he
  have e := Lib.ints_of_struct Tryd.underlying87 (fun j f hj => by
    rcases j with _ | _ | j
    · simp at hj; subst hj; exact ⟨Tryd.underlying5, rfl, h1⟩
    · simp at hj; subst hj; exact ⟨Tryd.underlying5, rfl, h1⟩
    · simp at hj) (by rw [h2]; rfl) he
  have c0 := congrArg (·[0]?) e
  have c1 := congrArg (·[1]?) e
  simp only [List.getElem?_take, List.getElem?_drop] at c0 c1
  rw [World.var?_cell hg hvar (2 * i), World.var?_cell hg hvar (2 * i + 1), ← Array.getElem?_toList, ← Array.getElem?_toList, Nat.mul_comm 2 i]
  exact ⟨by simpa using c0, by simpa using c1⟩
theorem tabs_of {W : World} {L : List (String × DataW Unit)} {d3 d4 : DataW Unit} (h : laidMetH Tryd.prog L W) (hp : laidMetH Tryd.prog L W = laidMet Tryd.prog L W)
    (h4 : ("unicode/utf8.acceptRanges", d4) ∈ L) (e4 : d4 = Lib.acceptData) (h3 : ("unicode/utf8.first", d3) ∈ L) (e3 : d3 = Lib.firstData) : Tabs W :=
  ⟨first_of (e3 ▸ Lib.laidMet.reads (hp ▸ h) h3), accept_of (e4 ▸ Lib.laidMet.reads (hp ▸ h) h4)⟩
end Go.Proofs.YtfdfncffogjbdaaDoor.Utf
