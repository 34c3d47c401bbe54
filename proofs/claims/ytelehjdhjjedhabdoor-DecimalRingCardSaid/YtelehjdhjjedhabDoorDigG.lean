/-
  Contracts of the reference of digits: products.
-/
import Derived.Test.YtelehjdhjjedhabDoorDigF
namespace Go.Proofs.YtelehjdhjjedhabDoor.Dig
open Go.RowKit
set_option linter.unusedVariables false
set_option linter.unusedSimpArgs false

/-- A row of digits and a carry at place p that stand for T together. -/
def Tim (T p up n : Nat) (l : List Nat) : Prop := l.length = n ∧ (∀ z ∈ l, z ≤ 9) ∧ lev l + 10 ^ p * up = T
theorem Tim.start (n p : Nat) : Tim 0 p 0 n (List.replicate n 0) := ⟨by simp, fun z hz => by rw [(List.mem_replicate.1 hz).2]; omega, by simp [lev_replicate]⟩
theorem Tim.get {T p up n : Nat} {l : List Nat} (h : Tim T p up n l) {q : Nat} (hq : q < n) : l.getD q 0 ≤ 9 := by
  rw [List.getD_eq_getElem?_getD, List.getElem?_eq_getElem (by rw [h.1]; exact hq)]
  exact h.2.1 _ (List.getElem_mem _)
theorem Tim.move {T p q n : Nat} {l : List Nat} (h : Tim T p 0 n l) : Tim T q 0 n l := ⟨h.1, h.2.1, by have := h.2.2; simpa using this⟩
theorem Tim.step {T T' p up n d v : Nat} {l : List Nat} (h : Tim T p up n l) (hp : p < n) (hv : v = l.getD p 0 + d + up) (hT : T' = T + 10 ^ p * d) : Tim T' (p + 1) (v / 10) n (l.set p (v % 10)) := by
  obtain ⟨h1, h2, h3⟩ := h
  have hp' : p < l.length := by omega
  have hg : l.getD p 0 = l[p] := by rw [List.getD_eq_getElem?_getD, List.getElem?_eq_getElem hp']; rfl
  refine ⟨by simpa using h1, fun z hz => ?_, ?_⟩
  · rcases List.mem_or_eq_of_mem_set hz with h | h
    · exact h2 z h
    · omega
  · have e := lev_set (x := v % 10) hp'
    rw [hg] at hv
    have e2 : 10 ^ p * (v % 10) + 10 ^ (p + 1) * (v / 10) = 10 ^ p * l[p] + (10 ^ p * d + 10 ^ p * up) := by
      rw [Nat.pow_succ, Nat.mul_assoc, ← Nat.mul_add, ← Nat.mul_add, ← Nat.mul_add]; congr 1; omega
    omega
theorem Tim.done {T p up n : Nat} {l : List Nat} (h : Tim T p up n l) (hT : T < 10 ^ p) : up = 0 := by
  have := h.2.2
  rcases Nat.eq_zero_or_pos up with h5 | h5
  · exact h5
  · have := Nat.mul_le_mul_left (10 ^ p) h5; omega

set_option maxRecDepth 100000 in
set_option maxHeartbeats 4000000 in
theorem times_any (x y : Nat) (w : World) (hx : (S x).size ≤ 600) (hy : (S y).size ≤ 600) : Calls Tryd.prog 35 #[.string (S x), .string (S y)] w fun e w' => e = .returned (.string (S (x * y))) ∧ Below w.heap.size w w' := by
  obtain ⟨la, hla⟩ : ∃ n : Nat, (S x).size = n := ⟨_, rfl⟩
  obtain ⟨lb, hlb⟩ : ∃ n : Nat, (S y).size = n := ⟨_, rfl⟩
  have px : x < 10 ^ la := by rw [← hla]; exact size_pow
  have py : y < 10 ^ lb := by rw [← hlb]; exact size_pow
  have PX := Lib.hid px
  have PY := Lib.hid py
  have LA := Lib.hid hla
  have LB := Lib.hid hlb
  have ba : la ≤ 600 := by omega
  have bb : lb ≤ 600 := by omega
  have hmk : ∀ w : World, (Instr.makeSlice 75 (.int .i64 ((la : Int) + (lb : Int) + 1)) (.int .i64 ((la : Int) + (lb : Int) + 1))).run Tryd.prog w = .ok (.slice (some ⟨w.heap.size, 0, none⟩) (la + lb + 1) (la + lb + 1)) (w.alloc (.cells (madeCells #[.int .i64 0] (la + lb + 1)) 3)) := fun w => by
    have := mk_int' (la + lb) (by omega) w
    rwa [Int.natCast_add] at this
  clear px py
  go_enter Tryd.func35, Tryd.ntmps35
  go_wp2
  go_loopw [6] (fun i wr => ∃ (i' : Nat) (l : List Nat), i' ≤ la ∧ i = .int .i64 i' ∧ Below w.heap.size w wr ∧ IRow wr w.heap.size l ∧ Tim (mulTo x y i' 0) i' 0 (la + lb + 1) l) (fun i _ => la - (intOf i).toNat)
  case atStart => exact ⟨0, _, by omega, rfl, (Below.refl _ _).alloc (Nat.le_refl _) _, IRow.made w (la + lb + 1), by simpa [mulTo_zero] using Tim.start (la + lb + 1) 0⟩
  case round =>
    obtain ⟨i, l, hi, rfl, hb, hrow, hcv⟩ := hrel
    by_cases hlt : i < la
    · go_wp2
      go_loopw [7, 8] (fun u j wq => ∃ (j' up : Nat) (l : List Nat), j' ≤ lb + 1 ∧ up ≤ 9 ∧ j = .int .i64 j' ∧ u = .int .i64 up ∧ Below w.heap.size w wq ∧ IRow wq w.heap.size l ∧ Tim (mulTo x y i j') (i + j') up (la + lb + 1) l) (fun _ j _ => lb + 1 - (intOf j).toNat)
      case atStart => exact ⟨0, 0, l, by omega, by omega, rfl, rfl, hb, hrow, by simpa using hcv⟩
      case round =>
        clear hb hrow hcv
        obtain ⟨j, up, l, hj, hup, rfl, rfl, hb, hrow, hcv⟩ := hrel
        by_cases hlt2 : j < lb + 1
        · have HR := Lib.hid hrow
          have HC := Lib.hid hcv
          have hcell := hrow.cell (i := i + j) (by rw [hcv.1]; omega)
          have hcell2 : World.cell? { wr with drawn := wr.drawn + 1 } ⟨w.heap.size, i + j, none⟩ = some (.int .i64 ((l.getD (i + j) 0 : Nat) : Int)) := hcell
          have hfro : wr.drew.frozen? ⟨w.heap.size, i + j, none⟩ = false := hrow.frozen (i + j)
          have hcell3 : wr.drew.cell? ⟨w.heap.size, i + j, none⟩ = some (.int .i64 ((l.getD (i + j) 0 : Nat) : Int)) := hcell
          have hg := hcv.get (q := i + j) (by omega)
          have HM := Lib.hid (mulTo_step x y i j)
          have hblt := hrow.lt
          have a9 : x / 10 ^ i % 10 < 10 := Nat.mod_lt _ (by omega)
          have b9 : y / 10 ^ j % 10 < 10 := Nat.mod_lt _ (by omega)
          generalize ha : x / 10 ^ i % 10 = da at *
          generalize hb' : y / 10 ^ j % 10 = db at *
          have hp1 : da * db ≤ 81 := Nat.mul_le_mul (show da ≤ 9 by omega) (show db ≤ 9 by omega)
          have hpe : (da : Int) * (db : Int) = ((da * db : Nat) : Int) := by rw [Int.natCast_mul]
          generalize da * db = pr at *
          have Ha := Lib.hid ha
          have Hb := Lib.hid hb'
          generalize hgv : l.getD (i + j) 0 = gv at *
          have Hgv := Lib.hid hgv
          clear hrow hcv ha hb' hgv
          go_wp2
          have s2 : (0 : Int) ≤ (i : Int) + (j : Int) := by omega
          have s3 : (i : Int) + (j : Int) < (la : Int) + (lb : Int) + 1 := by omega
          have s4 : ((i : Int) + (j : Int)).toNat = i + j := by omega
          have s1 : IntKind.i64.wrap ((i : Int) + (j : Int)) = (i : Int) + (j : Int) := IntWalk.i64_in _ (by omega)
          have s5 : IntKind.i64.wrap (pr : Int) = (pr : Int) := IntWalk.i64_in _ (by omega)
          have s6 : IntKind.i64.wrap ((gv : Int) + (pr : Int)) = (gv : Int) + (pr : Int) := IntWalk.i64_in _ (by omega)
          have s7 : IntKind.i64.wrap ((gv : Int) + (pr : Int) + (up : Int)) = (gv : Int) + (pr : Int) + (up : Int) := IntWalk.i64_in _ (by omega)
          have o1 : i ≤ 9223372036854775807 := by omega
          have o2 : j ≤ 9223372036854775807 := by omega
          go_still_tail 16, (by kernel_rfl)
          still_call (at_st Ha (by rw [LA.out]; omega) o1)
          repeat still_step
          still_call (at_st Hb (by rw [LB.out]; omega) o2)
          repeat still_step
          refine wpStill_nil ?_
          change wpList _ _ _ _ _ wr.drew
          go_wp2
          go_roundw
          case rel =>
            refine ⟨j + 1, (gv + pr + up) / 10, l.set (i + j) ((gv + pr + up) % 10), by omega, by omega, by go_num, congrArg (Value.int .i64) (by omega), ?B1, ?B2, HC.out.step (by omega) (by rw [Hgv.out]) HM.out⟩
            case B1 => first | exact (hb.drew).setCell (Nat.le_refl _) _ | exact (hb.setCell (Nat.le_refl _) _).drew
            case B2 => exact HR.out.set (by omega)
          case measure => simp [intOf]; omega
        · have e : j = lb + 1 := by omega
          subst e
          have e1 : mulTo x y i (lb + 1) = mulTo x y (i + 1) 0 := mulTo_row (Nat.lt_of_lt_of_le PY.out (Nat.pow_le_pow_right (by omega) (by omega)))
          rw [e1] at hcv
          have h0 := hcv.done (by
            have := mulTo_lt (a := x) (i := i) PY.out
            exact this)
          subst h0
          have HC := Lib.hid hcv
          have HR := Lib.hid hrow
          clear hcv hrow e1
          go_wp2
          go_roundw
          case rel => exact ⟨i + 1, l, by omega, by go_num, hb, HR.out, HC.out.move⟩
          case measure => simp [intOf]; omega
    · have e : i = la := by omega
      subst e
      have e1 : mulTo x y i 0 = x * y := mulTo_all PX.out
      rw [e1] at hcv
      have HD := Lib.hid (show lev l = x * y by have := hcv.2.2; simpa using this)
      have HT := Lib.hid (text_any l w.heap.size (i + lb + 1) wr hrow hcv.1 (by omega) hcv.2.1)
      clear hcv hrow e1
      go_wp2_with (go_at_call 68; (with_reducible refine HT.out.mono ?_); rintro e w2 ⟨rfl, hb2⟩)
      go_ret
      exact ⟨ret_str (by rw [HD.out]), hb.trans (hb2.mono hb.size)⟩

theorem mul_size' {x y m : Nat} (hx : (S x).size ≤ m) (hy : (S y).size ≤ m) : (S (x * y)).size ≤ m + m := by
  have h1 := Nat.lt_of_lt_of_le (size_pow (n := x)) (Nat.pow_le_pow_right (show 0 < 10 by omega) hx)
  have h2 := Nat.lt_of_lt_of_le (size_pow (n := y)) (Nat.pow_le_pow_right (show 0 < 10 by omega) hy)
  rw [S_size, num_len]
  exact mul_lt h1 h2
theorem mul_size {x y : Nat} (hx : (S x).size ≤ 600) (hy : (S y).size ≤ 600) : (S (x * y)).size ≤ 1200 := mul_size' hx hy
end Go.Proofs.YtelehjdhjjedhabDoor.Dig
