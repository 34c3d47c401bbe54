/-
  The reference's Runes; the law UtfRunes.
-/
import Derived.Test.YtiodnncpgdiejaaDoorUtfS
import Derived.Test.YtiodnncpgdiejaaDoorRowOf
import Derived.Deep.RegionHeld3
import Derived.Deep.Onto
import Derived.BigQuiet
namespace Go.Proofs.YtiodnncpgdiejaaDoor.Utf
open Go.RowKit
set_option linter.unusedVariables false
set_option linter.unusedSimpArgs false
open RO

def ic (x : Nat) : List Value := [.int .i64 (x : Nat)]
theorem ic_len (x : Nat) : (ic x).length = 1 := rfl
theorem ic_one (x : Nat) : ∀ u ∈ ic x, u.oneCell' = true := by
  intro u hu
  simp [ic] at hu
  subst hu
  rfl
theorem flat_ic (L : List Nat) : flat ic L = rc L := by
  induction L with
  | nil => rfl
  | cons x L ih =>
    have e : flat ic (x :: L) = ic x ++ flat ic L := rfl
    rw [e, ih]; rfl
theorem ow_ic {w : World} {base : Nat} {v : Value} {L : List Nat} : Ow ic 1 3 w base v L = w.ownsRow base 3 1 v L.length (rc L) := by
  unfold Ow; rw [flat_ic]
theorem ut_app {ops : Array Oper} {rest : List Oper} {o : Oper} {a : Act} {Q : Exit → Act → World → Prop} (hgd : o.guard = none) (s y : Operand) (ho : o.op = .call { callee := .builtin .append, args := #[s, y], argTypes := #[31, 31] })
    {W w : World} {base : Nat} {v : Value} {L : List Nat} (hs : a.eval s = v) (hB : Ow ic 1 3 w base v L) (hb : Below base W w) (hbs : base ≤ w.heap.size) (x : Nat) {C : Array Value} {c : Nat} (hx : a.eval y = .slice (some ⟨w.heap.size, 0, none⟩) 1 c) (hC : C = (ic x).toArray) (hlen : L.length + 1 ≤ 100000000)
    (h : ∀ v' w', Ow ic 1 3 w' base v' (L ++ [x]) → Below base W w' → base ≤ w'.heap.size → wpList Tryd.prog ops Q rest (a.put o.dst v') w') : wpList Tryd.prog ops Q (o :: rest) a (w.alloc (.cells C 3)) :=
  wpList_appo Tryd.underlying31 info_int rfl ic_len ic_one (by decide) (by decide) hgd s y ho hs hB hb hbs x hx hC hlen h
/-- The characters at the boundaries. -/
theorem rs_good : ∀ (k : Nat) (l : List UInt8), Good l k → rs l = (List.range k).map (fun i => (hd (l.drop (off l i))).1) ++ rs (l.drop (off l k)) := by
  intro k
  induction k with
  | zero => intro l _; simp [off]
  | succ k ih =>
    intro l h
    have h1 : Good l k := fun j hj => h j (by omega)
    have h2 := (h k (by omega)).2
    rw [ih l h1, rs_step h2, List.range_succ, List.map_append, List.append_assoc, List.drop_drop, off_succ]
    rfl
theorem rs_end {k : Nat} {l : List UInt8} (h : BEnd l k) : rs l = (List.range k).map (fun i => (hd (l.drop (off l i))).1) := by
  rw [rs_good k l h.1, rs_stop h.2, List.append_nil]
set_option maxRecDepth 100000 in
set_option maxHeartbeats 4000000 in
theorem rrunes_any (s : ByteArray) (w : World) (hs : s.size ≤ 4096) : Calls Tryd.prog 9 #[.string s] w fun e w' => ∃ v, e = .returned v ∧ Ow ic 1 3 w' w.heap.size v (rs s.data.toList) ∧ Below w.heap.size w w' := by
  go_enter Tryd.func9, Tryd.ntmps9
  go_wp2_with (go_at_call 24; (with_reducible refine (bounds_full _ _ hs).mono ?_); rintro e w1 ⟨k, v, ⟨rfl, hb, hown, hk, _⟩, hE⟩; have hlt1 := hown.lt; obtain ⟨g, cap, rfl, hcells⟩ := bcells_at _ hown; have hg1 := (hlt1 g rfl).2; have hE := Lib.hid hE; have HC := Lib.hid hcells; clear hown hcells hlt1)
  have HRS := Lib.hid (rs_end hE.out)
  have hk9 : k + 1 ≤ 9223372036854775807 := by omega
  go_loopw [5, 6] (fun lv i wr => ∃ (q : Nat) (acc : List Nat), q ≤ k ∧ i = .int .i64 q ∧ acc.length = q ∧ Hid (acc = (List.range q).map (fun i => (hd (s.data.toList.drop (off s.data.toList i))).1)) ∧ Hid (Ow ic 1 3 wr w1.heap.size lv acc) ∧ Below w1.heap.size w1 wr ∧ w1.heap.size ≤ wr.heap.size) (fun _ i _ => k - (intOf i).toNat)
  case atStart => exact ⟨0, [], by omega, rfl, rfl, Lib.hid rfl, Lib.hid (Ow.nil _ _), Below.refl _ _, Nat.le_refl _⟩
  case round =>
    obtain ⟨q, acc, hq, rfl, hacc, HA, HO, hbl, hbs⟩ := hrel
    by_cases hlt : q < k
    · have hcell : wr.cell? ⟨g, q, none⟩ = some (.int .i64 (off s.data.toList q : Nat)) := (hbl.cell (p := ⟨g, q, none⟩) hg1).trans (HC.out q (by omega))
      obtain ⟨hl1, _⟩ := hE.out.1 q hlt
      rw [size_list] at hl1
      obtain ⟨r, j, hrj⟩ : ∃ r j, hd (s.data.toList.drop (off s.data.toList q)) = (r, j) := ⟨_, _, rfl⟩
      have HA2 : Hid (acc ++ [r] = (List.range (q + 1)).map (fun i => (hd (s.data.toList.drop (off s.data.toList i))).1)) := Lib.hid (by rw [List.range_succ, List.map_append, ← HA.out]; simp [hrj])
      have HCA : Hid (chAt s (off s.data.toList q : Nat) = (r, j)) := Lib.hid ((chAt_in hl1).trans hrj)
      have HD := Lib.hid (rdecode_is HCA (w := wr) (by omega) (by omega))
      clear hrj HCA
      generalize off s.data.toList q = p at *
      have HO1 := HO
      go_wp2_with (first | (go_at_call 25; (with_reducible refine (HD.out).mono ?_); rintro e w2 ⟨rfl, hX⟩; have HO2 := Lib.hid (HO.out.below hX); have hbl2 := hbl.trans (hX.mono hbl.size); have hbs2 := Nat.le_trans hbs hX.size; clear hX) | (at_builtin; (refine ut_app (by rfl) (.tmp 30) (.tmp 32) (by rfl) (by rfl) HO2.out hbl2 hbs2 r (by rfl) (by rfl) (by omega) ?_); intro v3 w3 hO3 hb3 hbs3; have HO3 := Lib.hid hO3; clear hO3))
      exact ⟨⟨q + 1, acc ++ [r], by omega, by go_num, by simp; omega, HA2, HO3, hb3, hbs3⟩, by simp [intOf]; omega⟩
    · obtain rfl : k = q := by omega
      have HA2 := Lib.hid (HRS.out.trans HA.out.symm)
      have hbase : w.heap.size ≤ w1.heap.size := hb.size
      go_wp2
      go_ret
      refine ⟨_, rfl, ?_, hb.trans (hbl.mono hbase)⟩
      rw [HA2.out]
      exact World.ownsRow.mono HO.out hbase
theorem bel_dn {B : Nat} {w w' : World} (h : Below B w w') (n : Nat) : Below B w (w'.drewN n) := h.trans ⟨rfl, rfl, rfl, Nat.le_refl _, fun _ _ => rfl⟩
/-- A row of numbers that is read in later worlds. -/
theorem rd_at {w : World} {v : Value} {L : List Nat} (h : Rd ic 1 w w.heap.size v L) {n : Nat} (hn : L.length = n) : ∃ a cap, v = .slice a n cap ∧ n ≤ 9223372036854775807 ∧ ∀ (w' : World), Below w.heap.size w w' → ∀ k, k < n → ∃ g o x, a = some ⟨g, o, none⟩ ∧ L[k]? = some x ∧ w'.cell? ⟨g, o + k, none⟩ = some (.int .i64 (x : Nat)) ∧ g < w.heap.size := by
  obtain ⟨a, cap, rfl, h9⟩ := Rd.slice h hn
  refine ⟨a, cap, rfl, h9, fun w' hb k hk => ?_⟩
  obtain ⟨g, o, cap', hvv, hg, _, _, hcell⟩ := Rd.at_ h (by omega)
  injection hvv with e1 e2 e3
  have hx : L[k]? = some (L[k]'(by omega)) := List.getElem?_eq_getElem _
  have hc := hcell k _ 0 _ hx rfl
  rw [Nat.mul_one, Nat.add_zero] at hc
  exact ⟨g, o, _, e1, hx, (hb.cell (p := ⟨g, o + k, none⟩) hg).trans hc, hg⟩
theorem few_len (n : Int) (L : List Nat) (hn : 1 ≤ n) : ((fewR n L).length : Int) = min (L.length : Int) n := by
  unfold fewR
  rw [if_neg (by omega), List.length_take]
  omega
theorem few_at {n : Int} {L : List Nat} {k x : Nat} (hn : 1 ≤ n) (h : (fewR n L)[k]? = some x) : L[k]? = some x := by
  unfold fewR at h
  rw [if_neg (by omega)] at h
  rw [List.getElem?_take] at h
  split at h
  · exact h
  · cases h
set_option maxRecDepth 100000 in
set_option maxHeartbeats 8000000 in
theorem runes_walk (s : ByteArray) (n : Int) (w : World) (hT : Tabs w) (hn : 0 ≤ n ∧ n ≤ 255) (hs : s.size ≤ 9223372036854775807) : Calls Tryd.prog 4 #[.string s, .int .u8 n] w fun e w' => e = .returned (.bool true) ∧ Below w.heap.size w w' := by
  have bl := Below.refl w.heap.size w
  have HT := Lib.hid (fun (w' : World) (hb : Below w.heap.size w w') => hT.below hb)
  by_cases hs4 : 4096 < s.size
  · go_enter Tryd.func4, Tryd.ntmps4
    go_wp2_with (go_at_call 6; (with_reducible refine (awake_any _ (HT.out _ bl)).mono ?_); rintro e w1 ⟨rfl, hX⟩; have bl := bl.trans (hX.mono bl.size); clear hX)
    go_ret
    exact ⟨rfl, bl⟩
  · have hs2 : s.size ≤ 4096 := by omega
    obtain ⟨m, hm⟩ : ∃ m, (rs s.data.toList).length = m := ⟨_, rfl⟩
    have hm9 : m ≤ 4096 := by have := rs_le s.data.toList; rw [size_list] at this; omega
    obtain ⟨p, hp⟩ : ∃ p, (fewR (n + 1) (rs s.data.toList)).length = p := ⟨_, rfl⟩
    have hpm : (p : Int) = min (m : Int) (n + 1) := by rw [← hp, ← hm]; exact few_len _ _ (by omega)
    have hfa : fewR (-1) (rs s.data.toList) = rs s.data.toList := if_pos (by decide)
    have HW := Lib.hid (fun (w1 : World) => rrunes_any s w1 hs2)
    have HG := Lib.hid (fun (w1 : World) (hb : Below w.heap.size w w1) => all_any s (-1) w1 (HT.out _ hb) hs2 (.inl rfl))
    have HF := Lib.hid (fun (w1 : World) (hb : Below w.heap.size w w1) => all_any s (n + 1) w1 (HT.out _ hb) hs2 (.inr (by omega)))
    rw [hfa] at HG
    have HP := Lib.hid (fun (k x : Nat) (h : (fewR (n + 1) (rs s.data.toList))[k]? = some x) => few_at (by omega) h)
    go_enter Tryd.func4, Tryd.ntmps4
    go_wp2_with (first | (go_at_call 9; (with_reducible refine (HW.out _).mono ?_); rintro e w1 ⟨v1, rfl, hO, hX⟩; obtain ⟨a1, c1, rfl, _, hC⟩ := rd_at (Ow.rd ic_len hO) hm; have hC1 := Lib.hid hC; have bl1 := bl.trans (hX.mono bl.size); clear hX hO hC) | (go_at_call 10; (with_reducible refine (HG.out _ bl1).mono ?_); rintro e w2 ⟨v2, rfl, hO, hX⟩; rw [← ow_ic] at hO; obtain ⟨a2, c2, rfl, _, hC⟩ := rd_at (Ow.rd ic_len hO) hm; have hC2 := Lib.hid hC; have hb12 := hX; have bl2 := bl1.trans (hX.mono bl1.size); clear hX hO hC) | (go_at_call 10; (with_reducible refine (HF.out _ bl2).mono ?_); rintro e w3 ⟨v3, rfl, hO, hX⟩; rw [← ow_ic] at hO; obtain ⟨a3, c3, rfl, _, hC⟩ := rd_at (Ow.rd ic_len hO) hp; have hC3 := Lib.hid hC; have hb23 := hX; have bl3 := bl2.trans (hX.mono bl2.size); clear hX hO hC))
    have HA := Lib.hid (fun (w' : World) (hb : Below w3.heap.size w3 w') => awake_any w' (HT.out _ (bl3.trans (hb.mono bl3.size))))
    have hz12 := hb12.size
    have hz23 := hb23.size
    clear HG HF HW hfa hm hp hT hpm
    go_loopw [10] (fun i wr => ∃ (q : Nat), q ≤ m ∧ i = .int .i64 q ∧ Below w3.heap.size w3 wr) (fun i _ => m - (intOf i).toNat)
    case atStart => exact ⟨0, by omega, rfl, Below.refl _ _⟩
    case round =>
      obtain ⟨q, hq, rfl, hbr⟩ := hrel
      have hbr2 := hb23.trans (hbr.mono hz23)
      have hbr1 := hb12.trans (hbr2.mono hz12)
      by_cases hlt : q < m
      · obtain ⟨g1, o1, x1, rfl, hx1, e1, hg1⟩ := hC1.out wr hbr1 q hlt
        obtain ⟨g2, o2, x2, rfl, hx2, e2, hg2⟩ := hC2.out wr hbr2 q hlt
        rw [hx1] at hx2
        injection hx2 with hx2
        subst hx2
        by_cases hltp : q < p
        · obtain ⟨g3, o3, x3, rfl, hx3, e3, hg3⟩ := hC3.out wr hbr q hltp
          have h4 := HP.out _ _ hx3
          rw [hx1] at h4
          injection h4 with h4
          subst h4
          have hd : decide (q < p) = true := decide_eq_true (by omega)
          have hd2 : decide ((q : Int) < (p : Int)) = true := decide_eq_true (by omega)
          go_wp2
          go_quiet (fail)
          go_wp2
          exact ⟨⟨q + 1, by omega, by go_num, bel_dn hbr _⟩, by simp [intOf]; omega⟩
        · have hd : decide (q < p) = false := decide_eq_false (by omega)
          have hd2 : decide ((q : Int) < (p : Int)) = false := decide_eq_false (by omega)
          go_wp2
          go_quiet (fail)
          go_wp2
          exact ⟨⟨q + 1, by omega, by go_num, bel_dn hbr _⟩, by simp [intOf]; omega⟩
      · obtain rfl : m = q := by omega
        go_wp2_with (go_at_call 6; (with_reducible refine (HA.out _ hbr).mono ?_); rintro e w4 ⟨rfl, hX⟩; have bl4 := bl3.trans ((hbr.trans (hX.mono hbr.size)).mono bl3.size); clear hX)
        go_ret
        exact ⟨rfl, bl4⟩
end Go.Proofs.YtiodnncpgdiejaaDoor.Utf
