/-
  Contracts of package digits: products.
-/
import Derived.Test.YtelehjdhjjedhabDoorDigE
import Derived.StillTailTactics
namespace Go.Proofs.YtelehjdhjjedhabDoor.Dig
open Go.RowKit
set_option linter.unusedVariables false
set_option linter.unusedSimpArgs false

theorem digit_st {x i d : Nat} {w : World} (h : Hid (x / 10 ^ i % 10 = d)) (hx : (S x).size ≤ 9223372036854775807) (hi : i ≤ 9223372036854775807) : Calls Tryd.prog 62 #[.string (S x), .int .i64 i] w fun e w' => e = .returned (.int .i64 d) ∧ w' = w :=
  (digit_is h hx hi).mono fun _ _ ⟨he, hw⟩ => ⟨he, hw.symm⟩
theorem at_st {x i d : Nat} {w : World} (h : Hid (x / 10 ^ i % 10 = d)) (hx : (S x).size ≤ 9223372036854775807) (hi : i ≤ 9223372036854775807) : Calls Tryd.prog 67 #[.string (S x), .int .i64 i] w fun e w' => e = .returned (.int .i64 d) ∧ w' = w :=
  (at_is h hx hi).mono fun _ _ ⟨he, hw⟩ => ⟨he, hw.symm⟩

/-- A row of numbers, none of them above B, that stands for T. -/
def Conv (T B n : Nat) (l : List Nat) : Prop := l.length = n ∧ (∀ z ∈ l, z ≤ B) ∧ lev l = T
theorem Conv.start (n : Nat) : Conv 0 0 n (List.replicate n 0) := ⟨by simp, fun z hz => by rw [(List.mem_replicate.1 hz).2]; omega, lev_replicate n⟩
theorem Conv.get {T B n : Nat} {l : List Nat} (h : Conv T B n l) {p : Nat} (hp : p < n) : l.getD p 0 ≤ B := by
  rw [List.getD_eq_getElem?_getD, List.getElem?_eq_getElem (by rw [h.1]; exact hp)]
  exact h.2.1 _ (List.getElem_mem _)
theorem Conv.more {T B B' n : Nat} {l : List Nat} (h : Conv T B n l) (hB : B ≤ B') : Conv T B' n l := ⟨h.1, fun z hz => Nat.le_trans (h.2.1 z hz) hB, h.2.2⟩
theorem Conv.step {T T' B n p d v : Nat} {l : List Nat} (h : Conv T B n l) (hp : p < n) (hd : d ≤ 100) (hv : v = l.getD p 0 + d) (hT : T' = T + 10 ^ p * d) : Conv T' (B + 100) n (l.set p v) := by
  obtain ⟨h1, h2, h3⟩ := h
  have hp' : p < l.length := by omega
  have hg : l.getD p 0 = l[p] := by rw [List.getD_eq_getElem?_getD, List.getElem?_eq_getElem hp']; rfl
  refine ⟨by simpa using h1, fun z hz => ?_, ?_⟩
  · rcases List.mem_or_eq_of_mem_set hz with h | h
    · have := h2 z h; omega
    · have := h2 _ (List.getElem_mem hp'); omega
  · have := lev_set (x := v) hp'
    rw [hv, hg, Nat.mul_add] at this
    rw [hv, hg]
    omega

set_option maxRecDepth 100000 in
set_option maxHeartbeats 4000000 in
theorem mul_any (x y : Nat) (w : World) (hx : (S x).size ≤ 600) (hy : (S y).size ≤ 600) : Calls Tryd.prog 30 #[.string (S x), .string (S y)] w fun e w' => e = .returned (.tuple #[.string (S (limS (x * y))), .int .i64 (limE (x * y))]) ∧ Below w.heap.size w w' := by
  obtain ⟨la, hla⟩ : ∃ n : Nat, (S x).size = n := ⟨_, rfl⟩
  obtain ⟨lb, hlb⟩ : ∃ n : Nat, (S y).size = n := ⟨_, rfl⟩
  have pxy : x * y < 10 ^ (la + lb) := by rw [← hla, ← hlb]; exact mul_lt size_pow size_pow
  have px : x < 10 ^ la := by rw [← hla]; exact size_pow
  have py : y < 10 ^ lb := by rw [← hlb]; exact size_pow
  have PX := Lib.hid px
  have PY := Lib.hid py
  have PXY := Lib.hid pxy
  have LA := Lib.hid hla
  have LB := Lib.hid hlb
  have ba : la ≤ 600 := by omega
  have bb : lb ≤ 600 := by omega
  have hmk : ∀ w : World, (Instr.makeSlice 75 (.int .i64 ((la : Int) + (lb : Int) + 1)) (.int .i64 ((la : Int) + (lb : Int) + 1))).run Tryd.prog w = .ok (.slice (some ⟨w.heap.size, 0, none⟩) (la + lb + 1) (la + lb + 1)) (w.alloc (.cells (madeCells #[.int .i64 0] (la + lb + 1)) 3)) := fun w => by
    have := mk_int' (la + lb) (by omega) w
    rwa [Int.natCast_add] at this
  have hmb : ∀ w : World, (Instr.makeSlice 77 (.int .i64 ((la : Int) + (lb : Int))) (.int .i64 ((la : Int) + (lb : Int)))).run Tryd.prog w = .ok (.slice (some ⟨w.heap.size, 0, none⟩) (la + lb) (la + lb)) (w.alloc (.cells (madeCells #[.int .u8 0] (la + lb)) 5)) := fun w => by
    have := mk_u8 (la + lb) (by omega) w
    rwa [Int.natCast_add] at this
  clear px py pxy
  go_enter Tryd.func30, Tryd.ntmps30
  go_wp2_with (go_at_call 60; (with_reducible refine (valid_S (by omega)).mono ?_); rintro e w' ⟨rfl, rfl⟩)
  go_loopw [31] (fun i wr => ∃ (i' : Nat) (l : List Nat), i' ≤ la ∧ i = .int .i64 i' ∧ Below w.heap.size w wr ∧ IRow wr w.heap.size l ∧ Conv (mulTo x y i' 0) (100000 * i') (la + lb + 1) l) (fun i _ => la - (intOf i).toNat)
  case atStart => exact ⟨0, _, by omega, rfl, (Below.refl _ _).alloc (Nat.le_refl _) _, IRow.made w (la + lb + 1), by simpa [mulTo_zero] using Conv.start (la + lb + 1)⟩
  case round =>
    obtain ⟨i, l, hi, rfl, hb, hrow, hcv⟩ := hrel
    by_cases hlt : i < la
    · go_wp2
      go_loopw [36] (fun j wq => ∃ (j' : Nat) (l : List Nat), j' ≤ lb ∧ j = .int .i64 j' ∧ Below w.heap.size w wq ∧ IRow wq w.heap.size l ∧ Conv (mulTo x y i j') (100000 * i + 100 * j') (la + lb + 1) l) (fun j _ => lb - (intOf j).toNat)
      case atStart => exact ⟨0, l, by omega, rfl, hb, hrow, by simpa using hcv⟩
      case round =>
        clear hb hrow hcv
        obtain ⟨j, l, hj, rfl, hb, hrow, hcv⟩ := hrel
        by_cases hlt2 : j < lb
        · have HR := Lib.hid hrow
          have HC := Lib.hid hcv
          have hcell := hrow.cell (i := i + j) (by rw [hcv.1]; omega)
          have hcell2 : World.cell? { wr with drawn := wr.drawn + 1 } ⟨w.heap.size, i + j, none⟩ = some (.int .i64 ((l.getD (i + j) 0 : Nat) : Int)) := hcell
          have hfro : wr.drew.frozen? ⟨w.heap.size, i + j, none⟩ = false := hrow.frozen (i + j)
          have hcell3 : wr.drew.cell? ⟨w.heap.size, i + j, none⟩ = some (.int .i64 ((l.getD (i + j) 0 : Nat) : Int)) := hcell
          have hg := hcv.get (p := i + j) (by omega)
          have HM := Lib.hid (mulTo_step x y i j)
          have hblt := hrow.lt
          have a9 : x / 10 ^ i % 10 < 10 := Nat.mod_lt _ (by omega)
          have b9 : y / 10 ^ j % 10 < 10 := Nat.mod_lt _ (by omega)
          generalize ha : x / 10 ^ i % 10 = da at *
          generalize hb' : y / 10 ^ j % 10 = db at *
          have hp1 : da * db ≤ 81 := Nat.mul_le_mul (show da ≤ 9 by omega) (show db ≤ 9 by omega)
          have hpe : (da : Int) * (db : Int) = ((da * db : Nat) : Int) := by rw [Int.natCast_mul]
          generalize da * db = pr at *
          have Ha := Lib.hid ha
          have Hb := Lib.hid hb'
          have HG : Hid (∃ v, v = l.getD (i + j) 0 + pr) := ⟨_, rfl⟩
          generalize hgv : l.getD (i + j) 0 = gv at *
          have Hgv := Lib.hid hgv
          clear hrow hcv ha hb' hgv
          go_wp2
          have s2 : (0 : Int) ≤ (i : Int) + (j : Int) := by omega
          have s3 : (i : Int) + (j : Int) < (la : Int) + (lb : Int) + 1 := by omega
          have s4 : ((i : Int) + (j : Int)).toNat = i + j := by omega
          have s1 : IntKind.i64.wrap ((i : Int) + (j : Int)) = (i : Int) + (j : Int) := IntWalk.i64_in _ (by omega)
          have s5 : IntKind.i64.wrap (pr : Int) = (pr : Int) := IntWalk.i64_in _ (by omega)
          have s6 : IntKind.i64.wrap ((gv : Int) + (pr : Int)) = (gv : Int) + (pr : Int) := IntWalk.i64_in _ (by omega)
          have o1 : i ≤ 9223372036854775807 := by omega
          have o2 : j ≤ 9223372036854775807 := by omega
          go_still_tail 15, (by kernel_rfl)
          still_call (digit_st Ha (by rw [LA.out]; omega) o1)
          repeat still_step
          still_call (digit_st Hb (by rw [LB.out]; omega) o2)
          repeat still_step
          refine wpStill_nil ?_
          change wpList _ _ _ _ _ wr.drew
          go_wp2
          go_roundw
          case rel =>
            refine ⟨j + 1, l.set (i + j) (gv + pr), by omega, by go_num, ?B1, ?B2, (HC.out.step (by omega) (by omega) (by rw [Hgv.out]) HM.out).more (by omega)⟩
            case B1 => first | exact (hb.drew).setCell (Nat.le_refl _) _ | exact (hb.setCell (Nat.le_refl _) _).drew
            case B2 => exact HR.out.set (by omega)
          case measure => simp [intOf]; omega
        · have e : j = lb := by omega
          subst e
          have HC := Lib.hid hcv
          have HR := Lib.hid hrow
          clear hcv hrow
          go_wp2
          go_roundw
          case rel =>
            refine ⟨i + 1, l, by omega, by go_num, hb, HR.out, ?_⟩
            have := HC.out
            rw [mulTo_row PY.out] at this
            exact this.more (by omega)
          case measure => simp [intOf]; omega
    · have e : i = la := by omega
      subst e
      have PW : Hid (x * y < 10 ^ (i + lb)) := PXY
      have e1 : mulTo x y i 0 = x * y := mulTo_all PX.out
      rw [e1] at hcv
      have HC := Lib.hid hcv
      have HR := Lib.hid hrow
      have hblt := hrow.lt
      clear hcv hrow e1
      go_wp2
      go_loopw [11, 59] (fun c k wq => ∃ (k' cr : Nat), k' ≤ i + lb ∧ cr ≤ 60000000 ∧ k = .int .i64 k' ∧ c = .int .i64 cr ∧ Below w.heap.size w wq ∧ w.heap.size < wr.heap.size ∧ wr.heap.size < wq.heap.size ∧ IRow wq w.heap.size l ∧ BRow wq wr.heap.size (List.replicate (i + lb - k') 0 ++ dig (lev (l.take k')) k') ∧ Hid (lev (l.take k') / 10 ^ k' = cr)) (fun _ k _ => i + lb - (intOf k).toNat)
      case atStart =>
        refine ⟨0, 0, by omega, by omega, rfl, rfl, hb.alloc (by omega) _, hblt, by simp, HR.out.alloc _, ?B1, Lib.hid (show lev (l.take 0) / 10 ^ 0 = 0 by simp [lev])⟩
        case B1 =>
          have := BRow.made wr (i + lb)
          rw [show List.replicate (i + lb) (0 : UInt8) = List.replicate (i + lb - 0) 0 ++ dig (lev (l.take 0)) 0 by simp [dig]] at this
          exact this
      case round =>
        clear hb HR
        obtain ⟨pb, hpb⟩ : ∃ pb : Nat, pb = wr.heap.size := ⟨_, rfl⟩
        rw [← hpb] at *
        clear hpb
        obtain ⟨k, cr, hk, hcr, rfl, rfl, hb, hpl, hpq, hrow, hbr, hca⟩ := hrel
        by_cases hlt3 : k < i + lb
        · have HR := Lib.hid hbr
          have hll := HC.out.1
          have hlen : (List.replicate (i + lb - k) 0 ++ dig (lev (l.take k)) k).length = i + lb := by simp [dig_len]; omega
          have hcell := hbr.cell (i := i + lb - 1 - k) (by omega)
          have hfro := hbr.frozen (i + lb - 1 - k)
          have hcl := hrow.cell (i := k) (by omega)
          have hz := HC.out.get (p := k) (by omega)
          have HX := Lib.hid (dig_step (lev (l.take k)) (l.getD k 0) k)
          have HY := Lib.hid (carry_step (lev (l.take k)) (l.getD k 0) k)
          have HT : Hid (lev (l.take k) + 10 ^ k * l.getD k 0 = lev (l.take (k + 1))) := Lib.hid (by
            rw [lev_take_succ (by omega), List.getD_eq_getElem?_getD, List.getElem?_eq_getElem (by omega)]; rfl)
          have HH := Lib.hid (set_high hlt3 (dig (lev (l.take k)) k))
          have HRow := Lib.hid hrow
          generalize l.getD k 0 = z at *
          clear hrow hbr hlen hll
          go_wp2
          go_roundw
          case rel =>
            refine ⟨k + 1, (cr + z) / 10, by omega, by omega, by go_num, congrArg (Value.int .i64) (by omega), hb.setCell (Nat.le_of_lt hpl) _, hpl, by simpa using hpq, HRow.out.setOther (by simp; omega) _, ?_, Lib.hid ?_⟩
            · rw [← HT.out, HX.out, hca.out, ← HH.out]
              exact HR.out.set (by rw [dgt_toNat (by omega)]; omega)
            · rw [← HT.out, HY.out, hca.out]
          case measure => simp [intOf]; omega
        · obtain rfl : k = i + lb := by omega
          have hN : Num ⟨(List.replicate (i + lb - (i + lb)) 0 ++ dig (lev (l.take (i + lb))) (i + lb)).toArray⟩ (x * y) := by
            refine Num_row (k := i + lb) PW.out ?_
            rw [Nat.sub_self]
            show dig _ _ = _
            apply dig_congr
            have := lev_take_drop l (i + lb) (by rw [HC.out.1]; omega)
            rw [HC.out.2.2] at this
            rw [this, Nat.add_mul_mod_self_left]
          have hcv := hbr.conv (n := i + lb) (by simp [dig_len]) 9 Tryd.underlying9
          have hlim : (S (x * y)).size ≤ 9223372036854775807 := by
            rw [S_size]
            have := num_len.2 PW.out
            omega
          clear hbr hrow
          generalize List.replicate (i + lb - (i + lb)) 0 ++ dig (lev (l.take (i + lb))) (i + lb) = row at *
          go_wp2_with (first | (go_at_call 64; (with_reducible refine (trimLeft_num _ _ _ hN).mono ?_); rintro e w' ⟨rfl, rfl⟩) | (go_at_call 63; (with_reducible refine (limited_any _ _ hlim).mono ?_); rintro e w' ⟨rfl, rfl⟩))
          go_ret2
          exact ⟨rfl, hb⟩
end Go.Proofs.YtelehjdhjjedhabDoor.Dig
