/-
  Contracts of package qlex and its reference: keywords.
-/
import Derived.Test.YthkeiogkadldmaaDoorQlxA
namespace Go.Proofs.YthkeiogkadldmaaDoor.Qlx
open Go.RowKit
set_option linter.unusedVariables false
set_option linter.unusedSimpArgs false

/-- The keywords. -/
def kws : List (List UInt8) := [[97, 110, 100], [97, 115], [98, 114, 101, 97, 107], [99, 97, 116, 99, 104], [100, 101, 102], [101, 108, 115, 101], [101, 110, 100], [102, 97, 108, 115, 101], [102, 111, 114, 101, 97, 99, 104], [105, 102], [105, 109, 112, 111, 114, 116], [108, 97, 98, 101, 108], [110, 117, 108, 108], [111, 114], [114, 101, 100, 117, 99, 101], [116, 104, 101, 110], [116, 114, 117, 101], [116, 114, 121]]
def kwB (s : ByteArray) : Bool := kws.any fun l => l == s.data.toList
/-- The table of keywords, as the call finds it. -/
def KwTab (w : World) : Prop := ∃ t fr, w.heap[0]? = some (.cells (strs kws) t fr)
theorem tab_of {W : World} {L : List (String × DataW Unit)} {d : DataW Unit} (h : laidMetH Tryd.prog L W) (hp : laidMetH Tryd.prog L W = laidMet Tryd.prog L W) (hm : ("datakit/qlex.keywords", d) ∈ L) (hd : d = .agg (kws.map fun s => .lit (.string s))) : KwTab W :=
  strs_of_reads (g := 0) (by kernel_rfl) (t := 23) (by kernel_rfl) Tryd.underlying23 Tryd.underlying9 (by kernel_rfl) (by kernel_rfl) (Lib.laidMet.reads (hp ▸ h) hm) hd
theorem kw_idx (k : Nat) (hk : k < 18) (w : World) : (Instr.index 23 (.agg (strs kws)) (.int .i64 k)).run Tryd.prog w = .ok (.string ⟨(kws.getD k []).toArray⟩) w :=
  index_strs Tryd.underlying23 Tryd.underlying9 (by kernel_rfl) rfl k hk w
theorem kwB_hit {s : ByteArray} {k : Nat} (hk : k < 18) (h : (⟨(kws.getD k []).toArray⟩ : ByteArray) = s) : kwB s = true := by
  subst h
  unfold kwB
  rw [List.any_eq_true]
  refine ⟨kws.getD k [], ?_, by simp⟩
  rw [List.getD_eq_getElem?_getD, List.getElem?_eq_getElem (show k < kws.length from hk)]
  exact List.getElem_mem _
theorem kwB_none {s : ByteArray} (h : ∀ k, k < 18 → (⟨(kws.getD k []).toArray⟩ : ByteArray) ≠ s) : kwB s = false := by
  unfold kwB
  rw [List.any_eq_false]
  intro l hl e
  obtain ⟨k, hk, rfl⟩ := List.getElem_of_mem hl
  have hk' : k < 18 := hk
  refine h k hk' (ba_ext ?_)
  have := eq_of_beq e
  rw [List.getD_eq_getElem?_getD, List.getElem?_eq_getElem hk]
  exact this
set_option maxRecDepth 100000 in
set_option maxHeartbeats 1000000 in
theorem kw_any (s : ByteArray) (w : World) (hT : KwTab w) : Calls Tryd.prog 4 #[.string s] w fun e w' => e = .returned (.bool (kwB s)) ∧ w = w' := by
  obtain ⟨t, fr, hg⟩ := hT
  have HG := Lib.hid hg
  have HX := Lib.hid kw_idx
  obtain ⟨cs, hcs⟩ : ∃ cs, strs kws = cs := ⟨_, rfl⟩
  have hsz : (Tryd.prog.info? 23).map (·.size) = some cs.size := by rw [← hcs]; kernel_rfl
  have HZ := Lib.hid hsz
  rw [hcs] at HG HX
  clear hg hcs hsz
  go_enter Tryd.func4, Tryd.ntmps4
  go_wp2_with (with_reducible refine wpList_load_row rfl 23 (.global 0) rfl 0 rfl t cs fr _ HG.out Tryd.underlying23 rfl HZ.out ?_)
  go_loop [6] (fun i => ∃ k : Nat, k ≤ 18 ∧ i = .int .i64 k ∧ Hid (∀ j, j < k → (⟨(kws.getD j []).toArray⟩ : ByteArray) ≠ s)) (fun i => 18 - (intOf i).toNat)
  case atStart => exact ⟨0, by omega, rfl, Lib.hid fun j hj => by omega⟩
  case round =>
    obtain ⟨k, hk, rfl, HK⟩ := hrel
    by_cases hlt : k < 18
    · have hx := HX.out k hlt
      by_cases he : (⟨(kws.getD k []).toArray⟩ : ByteArray) = s
      · have HB := Lib.hid (kwB_hit hlt he)
        rw [he] at hx
        clear he
        go_wp2
        go_ret
        exact ⟨ret_bool HB.out.symm, rfl⟩
      · have HN : Hid (∀ j, j < k + 1 → (⟨(kws.getD j []).toArray⟩ : ByteArray) ≠ s) := Lib.hid fun j hj => by
          by_cases e : j = k
          · subst e; exact he
          · exact HK.out j (by omega)
        generalize (⟨(kws.getD k []).toArray⟩ : ByteArray) = x at hx he
        have hb := beq_no he
        clear he
        go_wp2
        go_round
        case rel => exact ⟨k + 1, by omega, by go_num, HN⟩
        case measure => simp [intOf]; omega
    · obtain rfl : k = 18 := by omega
      have HB := Lib.hid (kwB_none HK.out)
      go_wp2
      go_ret
      exact ⟨ret_bool HB.out.symm, rfl⟩
end Go.Proofs.YthkeiogkadldmaaDoor.Qlx
