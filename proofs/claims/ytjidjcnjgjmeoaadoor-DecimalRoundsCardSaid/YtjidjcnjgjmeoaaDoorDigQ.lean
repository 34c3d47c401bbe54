/-
  Contracts of digits: numerals of ints; the law's walk: DigitsInts.
-/
import Derived.Test.YtjidjcnjgjmeoaaDoorDigM
import Derived.Test.YtjidjcnjgjmeoaaDoorShelf2
import Derived.Lib.ItoaNum
import Derived.Lib.AppendIntMem
import Derived.Lib.LaidU8
import Derived.Lib.LaidTab
namespace Go.Proofs.YtjidjcnjgjmeoaaDoor.Dig
open Go.RowKit
set_option linter.unusedVariables false
set_option linter.unusedSimpArgs false

theorem dgt_one {d : Nat} (h0 : 0 < d) (h : d < 10) : dgt d ≠ 48 := by
  intro e
  have := congrArg UInt8.toNat e
  rw [dgt_toNat h] at this
  have h2 : (48 : UInt8).toNat = 48 := rfl
  omega
theorem num_step {q : Nat} (hq : 0 < q) : num q = num (q / 10) ++ [dgt (q % 10)] := by
  have hv : val (num (q / 10) ++ [dgt (q % 10)]) = q := by
    rw [val_snoc, val_num, dgt_toNat (Nat.mod_lt _ (by omega))]; omega
  have hb : numB (num (q / 10) ++ [dgt (q % 10)]) = true := by
    rw [numB_iff]
    refine ⟨by rw [digs_snoc, num_digs, dgt_isd (Nat.mod_lt _ (by omega))]; rfl, ?_⟩
    cases hc : num (q / 10) with
    | nil =>
      have h0 := num_nil.1 hc
      have : dgt (q % 10) ≠ 48 := dgt_one (by omega) (Nat.mod_lt _ (by omega))
      simpa using this
    | cons c l =>
      have := (numB_iff.1 (num_numB (q / 10))).2
      rw [hc] at this
      simpa using this
  have h3 := num_val hb
  rw [hv] at h3
  exact h3
theorem decDigits_num {u : Nat} (h : 0 < u) : Lib.decDigits u = num u := by
  induction u using Nat.strongRecOn with
  | _ u ih =>
    rw [num_step h, Lib.decDigits]
    by_cases h10 : u < 10
    · rw [dif_pos h10, show u / 10 = 0 by omega, Nat.mod_eq_of_lt h10]; rfl
    · rw [dif_neg h10, ih (u / 10) (by omega) (by omega)]; rfl
theorem tabIs_of_reads {P : Program} {W : World} {name : String} {k : IntKind} {zs : List Int} {d : DataW Unit} {g : Nat} {t e : TypeId} {n : Nat}
    (hg : P.globalNamed name = some g) (hty : (P.globals[g]?).map (·.type) = some t) (ht : P.underlying t = some (.array n e)) (he : P.underlying e = some (.int k)) (hce : P.cellsOf e = 1) (hct : P.cellsOf t = n)
    (h : Lib.VarReads P W name d) (hd' : d = Lib.tabData k zs) : Lib.TabIs P W name k zs := by
  subst hd'
  obtain ⟨g', t', cs, fuel, p, hg', ht', hvar, hd⟩ := h
  obtain rfl := Option.some.inj (hg.symm.trans hg')
  obtain rfl := Option.some.inj (hty.symm.trans ht')
  unfold Lib.TabIs
  rw [hvar, ← Lib.cells_of_tab ht he hce hct hd]
theorem conv_one (w : World) (c : UInt8) (v : Int) (hv : v = (c.toNat : Int)) : (convert 61 9 (.slice (some ⟨w.heap.size, 0, none⟩) 1 1)).run Tryd.prog (w.alloc (.cells #[.int .u8 v] 5)) = .ok (.string ⟨#[c]⟩) (w.alloc (.cells #[.int .u8 v] 5)) := by
  subst hv
  have h : BRow (w.alloc (.cells #[.int .u8 (c.toNat : Int)] 5)) w.heap.size [c] :=
    World.rowIs_alloc w #[.int .u8 (c.toNat : Int)] 5 _ (fun i hi => by
      have h0 : i = 0 := by simp at hi; omega
      subst h0; rfl)
  exact h.conv (n := 1) rfl 9 Tryd.underlying9
set_option maxRecDepth 100000 in
set_option maxHeartbeats 1000000 in
theorem rfromInt_any (n : Int) (w : World) (hn : -9223372036854775808 ≤ n ∧ n ≤ 9223372036854775807) : Calls Tryd.prog 47 #[.int .i64 n] w fun e w' => e = .returned (.string (S n.toNat)) ∧ Below w.heap.size w w' := by
  by_cases h : n ≤ 0
  · have e1 : Hid (S n.toNat = ⟨#[]⟩) := Lib.hid (by rw [show n.toNat = 0 by omega]; rfl)
    go_enter Tryd.func47, Tryd.ntmps47
    go_wp2
    go_loopw [0, 3] (fun q s wr => q = .int .i64 n ∧ s = .string ⟨#[]⟩ ∧ w = wr) (fun _ _ _ => 0)
    case atStart => exact ⟨rfl, rfl, rfl⟩
    case round =>
      obtain ⟨rfl, rfl, rfl⟩ := hrel
      go_wp2
      go_ret
      exact ⟨ret_str e1.out.symm, Below.refl _ _⟩
  · obtain ⟨m, rfl⟩ := Int.eq_ofNat_of_zero_le (show 0 ≤ n by omega)
    have HL : Hid ((num m).length ≤ 19) := Lib.hid (num_len.2 (by omega))
    go_enter Tryd.func47, Tryd.ntmps47
    go_wp2
    go_loopw [0, 3] (fun q s wr => ∃ (q' : Nat) (l : List UInt8), q' ≤ m ∧ q = .int .i64 q' ∧ s = .string ⟨l.toArray⟩ ∧ l.length ≤ 100 ∧ Hid (num m = num q' ++ l) ∧ Below w.heap.size w wr) (fun q _ _ => (intOf q).toNat)
    case atStart => exact ⟨m, [], Nat.le_refl _, rfl, rfl, by simp, Lib.hid (by simp), Below.refl _ _⟩
    case round =>
      obtain ⟨q, l, hq, rfl, rfl, hl, hm, hb⟩ := hrel
      by_cases hlt : 0 < q
      · have hq63 : (q : Int) ≤ 9223372036854775807 := by omega
        have hcv := conv_one wr (dgt (q % 10)) (48 + (q : Int) % 10) (by rw [dgt_toNat (Nat.mod_lt _ (by omega))]; omega)
        have hsz : (⟨l.toArray⟩ : ByteArray).size ≤ 100 := by simpa [ByteArray.size] using hl
        have hs1 : (⟨#[dgt (q % 10)]⟩ : ByteArray).size = 1 := rfl
        have HS := Lib.hid (num_step hlt)
        have HC : Hid ((⟨#[dgt (q % 10)]⟩ : ByteArray) ++ ⟨l.toArray⟩ = ⟨(dgt (q % 10) :: l).toArray⟩) := Lib.hid (ba_ext (by rw [Joins.data_append]; rfl))
        generalize (⟨#[dgt (q % 10)]⟩ : ByteArray) = A at *
        go_wp2
        go_roundw
        case rel =>
          have hm' : num m = num (q / 10) ++ dgt (q % 10) :: l := by rw [hm.out, HS.out, List.append_assoc]; rfl
          have hlen := congrArg List.length hm'
          rw [List.length_append, List.length_cons] at hlen
          have := HL.out
          refine ⟨q / 10, dgt (q % 10) :: l, by omega, by go_num, ?_, by rw [List.length_cons]; omega, Lib.hid hm', hb.alloc hb.size _⟩
          rw [HC.out]
        case measure => simp [intOf]; omega
      · obtain rfl : q = 0 := by omega
        have hfin : Hid ((⟨l.toArray⟩ : ByteArray) = S m) := Lib.hid (ba_ext (by have := hm.out; rw [num_zero, List.nil_append] at this; rw [S_list, this]))
        go_wp2
        go_ret
        exact ⟨ret_str (by rw [hfin.out]; rfl), hb⟩
/-- The table of the powers of ten, as the call finds it. -/
theorem tab_of {W : World} {L : List (String × DataW Unit)} {d : DataW Unit} (h : laidMetH Tryd.prog L W) (hp : laidMetH Tryd.prog L W = laidMet Tryd.prog L W) (hm : ("internal/strconv.uint64pow10", d) ∈ L) (hd : d = Lib.tabData .u64 Lib.pow10Tab) : Lib.TabIs Tryd.prog W "internal/strconv.uint64pow10" .u64 Lib.pow10Tab :=
  tabIs_of_reads (g := 3) (by kernel_rfl) (t := 116) (by kernel_rfl) Tryd.underlying116 Tryd.underlying90 (by kernel_rfl) (by kernel_rfl) (Lib.laidMet.reads (hp ▸ h) hm) hd
end Go.Proofs.YtjidjcnjgjmeoaaDoor.Dig
