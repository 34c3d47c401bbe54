/-
  The table of the powers of ten, as a call finds it.
-/
import Derived.Test.YtfdfncffogjbdaaDoorPsE
import Derived.Lib.LaidTab
import Derived.Lib.LaidU8
import Derived.OpenShut
namespace Go.Proofs.YtfdfncffogjbdaaDoor.Ps
open Go.RowKit
set_option linter.unusedVariables false
set_option linter.unusedSimpArgs false

theorem tabIs_of_reads {P : Program} {W : World} {name : String} {k : IntKind} {zs : List Int} {d : DataW Unit} {g : Nat} {t e : TypeId} {n : Nat}
    (hg : P.globalNamed name = some g) (hty : (P.globals[g]?).map (·.type) = some t) (ht : P.underlying t = some (.array n e)) (he : P.underlying e = some (.int k)) (hce : P.cellsOf e = 1) (hct : P.cellsOf t = n)
    (h : Lib.VarReads P W name d) (hd' : d = Lib.tabData k zs) : Lib.TabIs P W name k zs := by
  subst hd'
  obtain ⟨g', t', cs, fuel, p, hg', ht', hvar, hd⟩ := h
  obtain rfl := Option.some.inj (hg.symm.trans hg')
  obtain rfl := Option.some.inj (hty.symm.trans ht')
  unfold Lib.TabIs
  rw [hvar, ← Lib.cells_of_tab ht he hce hct hd]
theorem tab_of {W : World} {L : List (String × DataW Unit)} {d : DataW Unit} (h : laidMetH Tryd.prog L W) (hp : laidMetH Tryd.prog L W = laidMet Tryd.prog L W) (hm : ("internal/strconv.uint64pow10", d) ∈ L) (hd : d = Lib.tabData .u64 Lib.pow10Tab) : Tb W :=
  tabIs_of_reads (g := 3) (by kernel_rfl) (t := 117) (by kernel_rfl) Tryd.underlying117 Tryd.underlying99 (by kernel_rfl) (by kernel_rfl) (Lib.laidMet.reads (hp ▸ h) hm) hd
end Go.Proofs.YtfdfncffogjbdaaDoor.Ps
