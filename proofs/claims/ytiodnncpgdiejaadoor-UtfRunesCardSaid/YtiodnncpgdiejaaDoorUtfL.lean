/-
  The library's two tables of UTF-8, as a call finds them.
-/
import Derived.Test.YtiodnncpgdiejaaDoorUtfB
import Derived.Lib.LaidU8
import Derived.PinnedBridge
import Derived.Lay
namespace Go.Proofs.YtiodnncpgdiejaaDoor.Utf
open Go.RowKit
set_option linter.unusedVariables false
set_option linter.unusedSimpArgs false

theorem extra : U8Extra Tryd.prog Tryd.lays197_ren := ⟨by kernel_rfl, by kernel_rfl, by kernel_rfl, by kernel_rfl, by kernel_rfl, by kernel_rfl, by kernel_rfl⟩
theorem tabs_of {W : World} {L : List (String × DataW Unit)} {d3 d4 : DataW Unit} (h : laidMetH Tryd.prog L W) (hp : laidMetH Tryd.prog L W = laidMet Tryd.prog L W)
    (h4 : ("unicode/utf8.acceptRanges", d4) ∈ L) (e4 : d4 = Lib.acceptData) (h3 : ("unicode/utf8.first", d3) ∈ L) (e3 : d3 = Lib.firstData) : Tabs W :=
  utf8Tabs_of_reads { Tryd.lays197 with } extra (e3 ▸ Lib.laidMet.reads (hp ▸ h) h3) (e4 ▸ Lib.laidMet.reads (hp ▸ h) h4)
end Go.Proofs.YtiodnncpgdiejaaDoor.Utf
