/-
  Package path: paths joined and shortened.
-/
import Derived.Test.YtfdfncffogjbdaaDoorPsK
import Derived.Laws.AppendOwnNone
import Derived.Lib.AppendZeros
import Derived.Lib.SliceRun
namespace Go.Proofs.YtfdfncffogjbdaaDoor.Ps
open Go.RowKit
set_option linter.unusedVariables false
set_option linter.unusedSimpArgs false
open Go.ChangeShapes Go.WideShapes Go.Deep RO

/-- A slice that has no address is nil. -/
def Nz (v : Value) : Prop := ∀ n c, v = .slice none n c → n = 0 ∧ c = 0
theorem open_sts2 {H : Type} {enc : TypeId × Value → H} {w : World} {base : Nat} {spare : Nat → Bool} {held : Bool} {fuel : Nat} {x : DataW H × List MemPlace} {a : Option Addr} {n cap : Nat} (h : DataW.trod enc Tryd.prog w base spare held fuel 22 [.slice a n cap] = some x) :
    ∃ L : List St, L.length = n ∧ (Ss w w.heap.size (.slice a n cap) L ∧ Nz (.slice a n cap)) ∧ ∀ d ∈ L, d.ok := by
  obtain ⟨L, h1, h2, h3⟩ := open_sts h
  refine ⟨L, h1, ⟨h2, fun n' c' hv => ?_⟩, h3⟩
  injection hv with e1 e2 e3
  subst e1 e2 e3
  rcases open_slice Tryd.underlying22 h with ⟨h0, _⟩ | ⟨a', len, cap', m, f, D, Pl, h0, _⟩
  · simp at h0
    exact h0
  · simp at h0
theorem ps_apm {ops : Array Oper} {rest : List Oper} {o : Oper} {a : Act} {Q : Exit → Act → World → Prop} (hgd : o.guard = none) (s y : Operand) (ho : o.op = .call { callee := .builtin .append, args := #[s, y], argTypes := #[22, 22] })
    {w : World} {base : Nat} {v vy : Value} {L M : List St} (hs : a.eval s = v) (hB : Ow scs 3 26 w base v L) (hbs : base ≤ w.heap.size) (hx : a.eval y = vy) (hy : Ss w w.heap.size vy M) (hz : Nz vy) (hlen : L.length + M.length ≤ 100000000)
    (h : ∀ v' w', Ow scs 3 26 w' base v' (L ++ M) → Below base w w' → base ≤ w'.heap.size → wpList Tryd.prog ops Q rest (a.put o.dst v') w') : wpList Tryd.prog ops Q (o :: rest) a w := by
  obtain ⟨i0, hi, hz0, hz1, hz2⟩ := info_parts info_st
  have own : ∀ (ad : Addr) (m c : Nat), a.eval y = .slice (some ad) m c → M.length = m → (∀ j u, (flat scs M)[j]? = some u → w.cell? (ad.add j) = some u) → wpList Tryd.prog ops Q (o :: rest) a w := by
    intro ad m c hx2 hm hc
    refine wpList_append_own _ hgd s y _ ho base _ i0 _ 3 32 Tryd.underlying22 hi hz0 hz1 hz2 rfl (by decide) v L.length (flat scs L) hs hB ad m c (flat scs M) hx2 (by rw [flat_len sc_len, hm]) hc ?_ (by unfold maxLen; omega) (by omega) hbs ?_
    · intro u hu
      unfold flat at hu
      obtain ⟨d, _, hd⟩ := List.mem_flatMap.1 hu
      exact sc_one d u hd
    · intro v' w' hown hgrow _
      have hb' := (Below.refl base w).grown hgrow hbs (fun k hk => (World.ownsRow.lt hB k hk).1)
      refine h v' w' ?_ hb' (Nat.le_trans hbs hgrow.size)
      unfold Ow
      rw [List.length_append, hm, flat_app]; exact hown
  rcases hy with ⟨ad, c, rfl, rfl⟩ | ⟨g, o', cap, rfl, hg, h1, h2, hc⟩
  · cases ad with
    | none =>
      obtain ⟨_, rfl⟩ := hz 0 c rfl
      refine wpList_append_own_none hgd s y _ ho base _ i0 3 Tryd.underlying22 hi v L.length (flat scs L) hs hB hx ?_
      exact h v w (by rw [List.append_nil]; exact hB) (Below.refl _ _) hbs
    | some ad => exact own ad 0 c hx rfl (fun j u hu => by simp [flat] at hu)
  · refine own ⟨g, o', none⟩ M.length cap hx rfl (fun j u hu => ?_)
    have hj : j < (flat scs M).length := (List.getElem?_eq_some_iff.1 hu).1
    rw [flat_len sc_len] at hj
    have hq : M[j / 3]? = some (M[j / 3]'(by omega)) := List.getElem?_eq_getElem _
    have hu2 : (flat scs M)[j / 3 * 3 + j % 3]? = some u := by rw [show j / 3 * 3 + j % 3 = j by omega]; exact hu
    rw [flat_get sc_len hq (by omega)] at hu2
    have := hc (j / 3) _ (j % 3) u hq hu2
    have e3 : o' + j / 3 * 3 + j % 3 = o' + j := by omega
    rw [e3] at this
    have ea : (⟨g, o', none⟩ : Addr).add j = ⟨g, o' + j, none⟩ := by unfold Addr.add; simp
    rw [ea]; exact this
theorem Ow.down {w : World} {base base' : Nat} {v : Value} {L : List St} (h : Ow scs 3 26 w base v L) (hb : base' ≤ base) : Ow scs 3 26 w base' v L :=
  ⟨h.1, h.2.imp id (fun ⟨g, cap, cur, h1, h2, h3⟩ => ⟨g, cap, cur, h1, Nat.le_trans hb h2, h3⟩)⟩
theorem Ow.nz {w : World} {base : Nat} {v : Value} {L : List St} (h : Ow scs 3 26 w base v L) : Nz v := by
  intro n c hv
  rcases h.2 with ⟨rfl, _⟩ | ⟨g, cap, cur, rfl, _⟩
  · injection hv with _ e2 e3
    exact ⟨e2.symm, e3.symm⟩
  · injection hv with e1
    cases e1
/-- A row of the call's own of which no element is used yet. -/
theorem Ow.row0 {w : World} {base g cap : Nat} {cur : Array Value} (h : w.heap[g]? = some (.cells cur 26 (0, 0))) (hb : base ≤ g) (hm : cap ≤ maxLen) (hc : cur.size = cap * 3) : Ow scs 3 26 w base (.slice (some ⟨g, 0, none⟩) 0 cap) [] :=
  ⟨rfl, .inr ⟨g, cap, cur, rfl, hb, h, Nat.zero_le _, hm, hc, by simp [flat]⟩⟩
set_option maxRecDepth 100000 in
set_option maxHeartbeats 4000000 in
theorem grow_any (n : Nat) (w : World) (hn : n ≤ 1000) : Calls Tryd.prog 64 #[.slice none 0 0, .int .i64 n] w fun e w' => ∃ v, e = .returned v ∧ Ow scs 3 26 w' w.heap.size v [] ∧ Below w.heap.size w w' := by
  obtain ⟨i0, hi, hz0, hz1, hz2⟩ := info_parts info_st
  have hw : IntKind.i64.wrap ((n : Int) - 0) = n := by rw [Int.sub_zero]; exact IntWalk.i64_in _ (by omega)
  have hw2 : IntKind.i64.wrap (n : Int) = n := IntWalk.i64_in _ (by omega)
  rcases Nat.eq_zero_or_pos n with h0 | h0
  · subst h0
    go_enter Tryd.func64, Tryd.ntmps64
    go_wp2
    go_ret
    exact ⟨_, rfl, Ow.nil _ _, Below.refl _ _⟩
  · have HR := Lib.hid (Lib.run_append_nil_zeros (P := Tryd.prog) w 22 3 22 26 i0 _ .i64 .i64 Tryd.underlying22 Tryd.underlying3 hi hz0 n h0 (by rw [hz1]; decide) (by omega) (by rw [hz2]; omega))
    go_enter Tryd.func64, Tryd.ntmps64
    go_wp2_with (at_builtin; go_loud (refine Lib.wpList_append_run _ rfl _ _ _ _ rfl _ _ rfl rfl _ _ HR.out ?_))
    go_ret
    refine ⟨_, rfl, Ow.row0 (heap_alloc_new w _) (Nat.le_refl _) (grownCap_le_maxLen _ _ _ _ (by unfold maxLen; omega)) ?_, ((Below.refl _ _).alloc (Nat.le_refl _) _).drew⟩
    have := grownCap_ge w n 0 26
    rw [Array.size_append, size_zeroCells, size_zeroCells]
    simp only [List.size_toArray, List.length_cons, List.length_nil]
    omega
set_option maxRecDepth 100000 in
set_option maxHeartbeats 4000000 in
theorem concat_any (b : Nat) (v1 v2 : Value) (L M : List St) (w : World) (c0 : w.cell? ⟨b, 0, none⟩ = some v1) (c1 : w.cell? ⟨b, 1, none⟩ = some v2) (hb : b < w.heap.size) (h1 : Ss w w.heap.size v1 L) (h2 : Ss w w.heap.size v2 M) (z1 : Nz v1) (z2 : Nz v2) (hl1 : L.length ≤ 48) (hl2 : M.length ≤ 48) : Calls Tryd.prog 47 #[.slice (some ⟨b, 0, none⟩) 2 2] w fun e w' => ∃ v, e = .returned v ∧ Ow scs 3 26 w' w.heap.size v (L ++ M) ∧ Below w.heap.size w w' := by
  obtain ⟨n, hn⟩ : ∃ n, L.length = n := ⟨_, rfl⟩
  obtain ⟨m, hm⟩ : ∃ m, M.length = m := ⟨_, rfl⟩
  have len1 := Rd.run_len Tryd.underlying22 h1 hn
  have len2 := Rd.run_len Tryd.underlying22 h2 hm
  have HG : Hid (∀ (z : Int) (w : World), z = ((n + m : Nat) : Int) → Calls Tryd.prog 64 #[.slice none 0 0, .int .i64 z] w fun e w' => ∃ v, e = .returned v ∧ Ow scs 3 26 w' w.heap.size v [] ∧ Below w.heap.size w w') := Lib.hid (fun z w hz => by subst hz; exact grow_any (n + m) w (by omega))
  have hn48 : n ≤ 48 := by omega
  have hm48 : m ≤ 48 := by omega
  have H1 := Lib.hid h1
  have H2 := Lib.hid h2
  go_enter Tryd.func47, Tryd.ntmps47
  go_wp2
  refine wp_loop_rounds 3 ?_
  rw [rounds_succ]
  go_wp2
  rw [rounds_succ]
  go_wp2
  rw [rounds_succ]
  go_wp2_with (go_at_call 64; (with_reducible refine (HG.out _ _ (by omega)).mono ?_); rintro e w1 ⟨v, rfl, hO, hX⟩; have d0 := (hX.cell (p := ⟨b, 0, none⟩) hb).trans c0; have d1 := (hX.cell (p := ⟨b, 1, none⟩) hb).trans c1)
  refine wp_loop_rounds 3 ?_
  rw [rounds_succ]
  go_wp2_with (at_builtin; go_loud (refine ps_apm (by rfl) (.tmp 31) (.tmp 32) (by rfl) (by rfl) hO hX.size (by rfl) (Ss.next H1.out hX) z1 (by show 0 + _ ≤ _; omega) ?_); intro x1 y1 hO1 hb1 hbs1; have bl := hX.trans hb1; have d1 := (bl.cell (p := ⟨b, 1, none⟩) hb).trans c1)
  rw [rounds_succ]
  go_wp2_with (at_builtin; go_loud (refine ps_apm (by rfl) (.tmp 31) (.tmp 32) (by rfl) (by rfl) hO1 hbs1 (by rfl) (Ss.next H2.out bl) z2 (by simp; omega) ?_); intro x2 y2 hO2 hb2 hbs2; have bl := bl.trans hb2)
  rw [rounds_succ]
  go_wp2
  go_ret
  exact ⟨_, rfl, hO2, bl⟩
set_option maxRecDepth 100000 in
set_option maxHeartbeats 4000000 in
theorem join_any (v1 v2 : Value) (L M : List St) (w : World) (h1 : Ss w w.heap.size v1 L) (h2 : Ss w w.heap.size v2 M) (z1 : Nz v1) (z2 : Nz v2) (hl1 : L.length ≤ 48) (hl2 : M.length ≤ 48) : Calls Tryd.prog 26 #[v1, v2] w fun e w' => ∃ v, e = .returned v ∧ Ow scs 3 26 w' w.heap.size v (L ++ M) ∧ Below w.heap.size w w' := by
  have bl : Below w.heap.size w (w.alloc (.cells #[v1, v2] 22)) := (Below.refl _ _).alloc (Nat.le_refl _) _
  have HC := Lib.hid (concat_any w.heap.size v1 v2 L M (w.alloc (.cells #[v1, v2] 22)) (World.rowIs.cell (World.rowIs_alloc w #[v1, v2] 22 (fun i => if i = 0 then v1 else v2) (fun i hi => by
    have hi' : i < 2 := hi
    rcases (show i = 0 ∨ i = 1 by omega) with rfl | rfl <;> rfl)) (i := 0) (show 0 < 2 by decide)) (World.rowIs.cell (World.rowIs_alloc w #[v1, v2] 22 (fun i => if i = 0 then v1 else v2) (fun i hi => by
    have hi' : i < 2 := hi
    rcases (show i = 0 ∨ i = 1 by omega) with rfl | rfl <;> rfl)) (i := 1) (show 1 < 2 by decide)) (by simp) (Ss.next h1 bl) (Ss.next h2 bl) z1 z2 hl1 hl2)
  obtain ⟨a1, p1, rfl, _⟩ := Rd.slice h1 rfl
  obtain ⟨a2, p2, rfl, _⟩ := Rd.slice h2 rfl
  clear h1 h2 z1 z2
  go_enter Tryd.func26, Tryd.ntmps26
  go_wp2_with (go_at_call 47; (with_reducible refine (HC.out).mono ?_); rintro e w1 ⟨v, rfl, hO, hX⟩)
  go_ret
  exact ⟨_, rfl, Ow.down hO (by simp), bl.trans (hX.mono bl.size)⟩
set_option maxRecDepth 100000 in
set_option maxHeartbeats 4000000 in
theorem rjoin_any (v1 v2 : Value) (L M : List St) (w : World) (h1 : Ss w w.heap.size v1 L) (h2 : Ss w w.heap.size v2 M) (z1 : Nz v1) (z2 : Nz v2) (hl1 : L.length ≤ 48) (hl2 : M.length ≤ 48) : Calls Tryd.prog 29 #[v1, v2] w fun e w' => ∃ v, e = .returned v ∧ Ow scs 3 26 w' w.heap.size v (L ++ M) ∧ Below w.heap.size w w' := by
  have bl : Below w.heap.size w (w.alloc (.cells #[] 26)) := (Below.refl _ _).alloc (Nat.le_refl _) _
  have hO : Ow scs 3 26 (w.alloc (.cells #[] 26)) w.heap.size (.slice (some ⟨w.heap.size, 0, none⟩) 0 0) [] := Ow.row0 (heap_alloc_new w _) (Nat.le_refl _) (by decide) rfl
  have H1 := Lib.hid h1
  have H2 := Lib.hid h2
  obtain ⟨a1, p1, rfl, _⟩ := Rd.slice h1 rfl
  obtain ⟨a2, p2, rfl, _⟩ := Rd.slice h2 rfl
  clear h1 h2
  go_enter Tryd.func29, Tryd.ntmps29
  go_wp2_with (first | (at_builtin; (refine ps_apm (by rfl) (.tmp 5) (.tmp 6) (by rfl) (by rfl) hO bl.size (by rfl) (Ss.next H1.out bl) z1 (by show 0 + _ ≤ _; omega) ?_); intro x1 y1 hO1 hb1 hbs1; have bl1 := bl.trans hb1) | (at_builtin; (refine ps_apm (by rfl) (.tmp 7) (.tmp 8) (by rfl) (by rfl) hO1 hbs1 (by rfl) (Ss.next H2.out bl1) z2 (by simp; omega) ?_); intro x2 y2 hO2 hb2 hbs2; have bl2 := bl1.trans hb2))
  go_ret
  exact ⟨_, rfl, hO2, bl2⟩
set_option maxRecDepth 100000 in
set_option maxHeartbeats 4000000 in
theorem clone_any (a : Option Addr) (n c : Nat) (L : List St) (w : World) (h1 : Ss w w.heap.size (.slice a n c) L) (hl1 : L.length ≤ 48) : Calls Tryd.prog 48 #[.slice a n c] w fun e w' => ∃ v, e = .returned v ∧ Ow scs 3 26 w' w.heap.size v L ∧ Below w.heap.size w w' := by
  have q : ∀ (w : World) (a : Option Addr) (n c n' c' : Nat), (binOp .eql 22 (.slice a n c) (.slice none n' c')).run Tryd.prog w = .ok (.bool a.isNone) w := fun w a n c n' c' => Lib.run_eql_slice_nil w _ _ a n c n' c' Tryd.underlying22
  cases a with
  | none =>
    have hL : L = [] := by
      rcases h1 with ⟨_, _, _, h⟩ | ⟨g, o, cap, h, _⟩
      · exact h
      · injection h with h; cases h
    subst hL
    clear h1 hl1
    go_enter Tryd.func48, Tryd.ntmps48
    go_wp2
    go_ret
    exact ⟨_, rfl, Ow.nil _ _, Below.refl _ _⟩
  | some ad =>
    have bl : Below w.heap.size w (w.alloc (.cells #[] 26)) := (Below.refl _ _).alloc (Nat.le_refl _) _
    have hO : Ow scs 3 26 (w.alloc (.cells #[] 26)) w.heap.size (.slice (some ⟨w.heap.size, 0, none⟩) 0 0) [] := Ow.row0 (heap_alloc_new w _) (Nat.le_refl _) (by decide) rfl
    have z1 : Nz (.slice (some ad) n c) := fun _ _ h => by injection h with h; cases h
    have H1 := Lib.hid h1
    clear h1
    go_enter Tryd.func48, Tryd.ntmps48
    go_wp2_with (at_builtin; (refine ps_apm (by rfl) (.tmp 5) (.tmp 6) (by rfl) (by rfl) hO bl.size (by rfl) (Ss.next H1.out bl) z1 (by show 0 + _ ≤ _; omega) ?_); intro x1 y1 hO1 hb1 hbs1; have bl1 := bl.trans hb1)
    go_ret
    exact ⟨_, rfl, hO1, bl1⟩
set_option maxRecDepth 100000 in
set_option maxHeartbeats 4000000 in
theorem parent_any (v1 : Value) (L : List St) (w : World) (h1 : Ss w w.heap.size v1 L) (hl1 : L.length ≤ 48) : Calls Tryd.prog 27 #[v1] w fun e w' => ∃ v, e = .returned (.tuple #[v, .bool (decide (0 < L.length))]) ∧ Ss w' w'.heap.size v (L.take (L.length - 1)) ∧ Below w.heap.size w w' := by
  obtain ⟨n, hn⟩ : ∃ n, L.length = n := ⟨_, rfl⟩
  rw [hn]
  rcases Nat.eq_zero_or_pos n with h0 | h0
  · subst h0
    obtain rfl := List.length_eq_zero_iff.1 hn
    obtain ⟨a1, p1, rfl, _⟩ := Rd.slice h1 rfl
    clear h1 hn
    go_enter Tryd.func27, Tryd.ntmps27
    go_wp2
    go_ret2
    exact ⟨_, rfl, .inl ⟨_, _, rfl, rfl⟩, Below.refl _ _⟩
  · obtain ⟨a', c', hr, hs⟩ := Rd.to_ (t := 22) Tryd.underlying22 sz_st h1 (m := n - 1) (by omega)
    obtain ⟨a1, p1, rfl, hn9⟩ := Rd.slice h1 hn
    have hw : IntKind.i64.wrap ((n : Int) - 1) = ((n - 1 : Nat) : Int) := by rw [IntWalk.i64_in _ (by omega)]; omega
    have hn0 : ((n : Int) == 0) = false := by rw [beq_eq_false_iff_ne]; omega
    rw [decide_eq_true h0]
    have HC := Lib.hid (clone_any a' (n - 1) c' (L.take (n - 1)) w hr (by rw [List.length_take]; omega))
    clear hn h1
    go_enter Tryd.func27, Tryd.ntmps27
    go_wp2_with (go_at_call 48; (with_reducible refine (HC.out).mono ?_); rintro e w1 ⟨v, rfl, hO, hX⟩)
    go_ret2
    exact ⟨_, rfl, hO.rd sc_len, hX⟩
set_option maxRecDepth 100000 in
set_option maxHeartbeats 4000000 in
theorem rparent_any (v1 : Value) (L : List St) (w : World) (h1 : Ss w w.heap.size v1 L) (hl1 : L.length ≤ 48) : Calls Tryd.prog 28 #[v1] w fun e w' => ∃ v, e = .returned (.tuple #[v, .bool (decide (0 < L.length))]) ∧ Ss w' w'.heap.size v (L.take (L.length - 1)) ∧ Below w.heap.size w w' := by
  obtain ⟨n, hn⟩ : ∃ n, L.length = n := ⟨_, rfl⟩
  rw [hn]
  rcases Nat.eq_zero_or_pos n with h0 | h0
  · subst h0
    obtain rfl := List.length_eq_zero_iff.1 hn
    obtain ⟨a1, p1, rfl, _⟩ := Rd.slice h1 rfl
    clear h1 hn
    go_enter Tryd.func28, Tryd.ntmps28
    go_wp2
    go_ret2
    exact ⟨_, rfl, .inl ⟨_, _, rfl, rfl⟩, Below.refl _ _⟩
  · obtain ⟨a', c', hr, hs⟩ := Rd.to_ (t := 22) Tryd.underlying22 sz_st h1 (m := n - 1) (by omega)
    obtain ⟨a1, p1, rfl, hn9⟩ := Rd.slice h1 hn
    have hw : IntKind.i64.wrap ((n : Int) - 1) = ((n - 1 : Nat) : Int) := by rw [IntWalk.i64_in _ (by omega)]; omega
    have hn0 : ((n : Int) == 0) = false := by rw [beq_eq_false_iff_ne]; omega
    rw [decide_eq_true h0]
    clear hn h1
    go_enter Tryd.func28, Tryd.ntmps28
    go_wp2
    go_ret2
    exact ⟨_, rfl, hr, Below.refl _ _⟩
end Go.Proofs.YtfdfncffogjbdaaDoor.Ps
