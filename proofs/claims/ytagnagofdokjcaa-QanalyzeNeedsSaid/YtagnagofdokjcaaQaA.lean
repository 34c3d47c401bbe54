/-
  Package qanalyze: Needs.
-/
import Derived.Test.YtagnagofdokjcaaPsB
import Derived.Test.YtagnagofdokjcaaValR
import Derived.OwnWalk
namespace Go.Proofs.Ytagnagofdokjcaa.Ps
open Go.RowKit
set_option linter.unusedVariables false
set_option linter.unusedSimpArgs false
open Go.ChangeShapes Go.WideShapes Go.Deep RO VL

/-- A step of a selection: each, or one. -/
structure Sel where
  e : Bool
  d : St
def selc (x : Sel) : List Value := [.bool x.e, .bool x.d.b, .string x.d.s, .int .i64 x.d.x]
abbrev Sels (w : World) (B : Nat) (v : Value) (L : List Sel) : Prop := SlR w B 4 (fun cs x => cs = selc x) v L
set_option maxRecDepth 100000 in
theorem open_sels {H : Type} {enc : TypeId × Value → H} {w : World} {base : Nat} {spare : Nat → Bool} {held : Bool} {fuel : Nat} {x : DataW H × List MemPlace} {a : Option Addr} {n cap : Nat} (h : DataW.trod enc Try.prog w base spare held fuel 22 [.slice a n cap] = some x) :
    ∃ L : List Sel, Sels w w.heap.size (.slice a n cap) L := by
  have k1 : Try.prog.cellsOf 4 = 1 := by kernel_rfl
  have k2 : Try.prog.cellsOf 3 = 1 := by kernel_rfl
  have k3 : Try.prog.cellsOf 9 = 1 := by kernel_rfl
  have k4 : Try.prog.cellsOf 27 = 3 := by kernel_rfl
  have k5 : Try.prog.cellsOf 30 = 4 := by kernel_rfl
  refine open_slr (α := Sel) Try.underlying22 k5 (by decide) h (fun _ cs x => cs = selc x) (fun n cs y _ hl hy => ?_) (fun cs x => cs = selc x) (fun _ _ _ _ h => h)
  obtain ⟨y0, y1, n1, _, _, g0, g1⟩ := trod_struct2 Try.underlying30 hy
  match cs, hl with
  | [v0, v1, v2, v3], _ =>
    have g0 : DataW.trod enc Try.prog w base spare held n1 4 (List.take (Try.prog.cellsOf 4) (List.drop 0 [v0, v1, v2, v3])) = some y0 := g0
    have g1 : DataW.trod enc Try.prog w base spare held n1 27 (List.take (Try.prog.cellsOf 27) (List.drop 1 [v0, v1, v2, v3])) = some y1 := g1
    rw [k1] at g0
    rw [k4] at g1
    have g1 : DataW.trod enc Try.prog w base spare held n1 27 [v1, v2, v3] = some y1 := g1
    obtain ⟨b0, q0, _⟩ := DataW.trod_bool Try.underlying4 g0
    obtain ⟨z0, z1, z2, n2, _, _, f0, f1, f2⟩ := trod_struct3 Try.underlying27 g1
    have f0 : DataW.trod enc Try.prog w base spare held n2 4 (List.take (Try.prog.cellsOf 4) (List.drop 0 [v1, v2, v3])) = some z0 := f0
    have f1 : DataW.trod enc Try.prog w base spare held n2 9 (List.take (Try.prog.cellsOf 9) (List.drop 1 [v1, v2, v3])) = some z1 := f1
    have f2 : DataW.trod enc Try.prog w base spare held n2 3 (List.take (Try.prog.cellsOf 3) (List.drop 2 [v1, v2, v3])) = some z2 := f2
    rw [k1] at f0
    rw [k3] at f1
    rw [k2] at f2
    obtain ⟨b1, q1, _⟩ := DataW.trod_bool Try.underlying4 f0
    obtain ⟨s1, q2, _, _⟩ := DataW.trod_string Try.underlying9 f1
    obtain ⟨x1, q3, _, _⟩ := DataW.trod_int Try.underlying3 f2
    simp at q0 q1 q2 q3
    subst q0; subst q1; subst q2; subst q3
    exact ⟨⟨b0, ⟨b1, s1, x1⟩⟩, rfl⟩
theorem sel_slice {w : World} {B : Nat} {v : Value} {L : List Sel} (h : Sels w B v L) {n : Nat} (hn : L.length = n) : ∃ a cap, v = .slice a n cap ∧ n ≤ 9223372036854775807 := by
  subst hn
  rcases h with ⟨a, c, rfl, rfl⟩ | ⟨g, o, cap, rfl, _, h1, h2, _⟩
  · exact ⟨_, _, rfl, by simp⟩
  · exact ⟨_, _, rfl, by unfold maxLen at h2; omega⟩
theorem sel_at {w : World} {a : Option Addr} {n cap : Nat} {L : List Sel} (h : Sels w w.heap.size (.slice a n cap) L) (hn : L.length = n) : ∀ (w' : World), Below w.heap.size w w' → ∀ k, k < n → ∃ (g o : Nat) (e : Bool) (d : St), a = some ⟨g, o, none⟩ ∧ L[k]? = some ⟨e, d⟩ ∧ w'.cell? ⟨g, o + k * 4, none⟩ = some (.bool e) ∧ w'.cell? ⟨g, o + k * 4 + 1, none⟩ = some (.bool d.b) ∧ w'.cell? ⟨g, o + k * 4 + 2, none⟩ = some (.string d.s) ∧ w'.cell? ⟨g, o + k * 4 + 3, none⟩ = some (.int .i64 d.x) ∧ g < w.heap.size := by
  intro w' hb k hk
  rcases h with ⟨_, _, h1, h2⟩ | ⟨g, o, c, h1, h2, h3, h4, h5⟩
  · subst h2; simp at hn; omega
  · injection h1 with e1 e2 e3
    have hq : L[k]? = some (L[k]'(by omega)) := List.getElem?_eq_getElem _
    obtain ⟨cs, c1, c2, c3⟩ := h5 k _ hq
    have cc : ∀ j u, (selc (L[k]'(by omega)))[j]? = some u → w'.cell? ⟨g, o + k * 4 + j, none⟩ = some u := fun j u hu => (hb.cell (p := ⟨g, o + k * 4 + j, none⟩) h2).trans (c2 j u (by rw [c3]; exact hu))
    exact ⟨g, o, _, _, e1, hq, cc 0 _ rfl, cc 1 _ rfl, cc 2 _ rfl, cc 3 _ rfl, h2⟩
/-- Can a selection reach into the value at a path? -/
def nd : List Sel → List St → Bool
  | s :: l, d :: p => if s.e = true then nd l p else stE s.d d && nd l p
  | _, _ => true
theorem nd_step {L : List Sel} {M : List St} {k : Nat} {e : Bool} {s d : St} (h1 : L[k]? = some ⟨e, s⟩) (h2 : M[k]? = some d) : nd (L.drop k) (M.drop k) = if e = true then nd (L.drop (k + 1)) (M.drop (k + 1)) else stE s d && nd (L.drop (k + 1)) (M.drop (k + 1)) := by
  obtain ⟨ha, hb⟩ := List.getElem?_eq_some_iff.1 h1
  obtain ⟨hc, hd⟩ := List.getElem?_eq_some_iff.1 h2
  rw [List.drop_eq_getElem_cons ha, List.drop_eq_getElem_cons hc, hb, hd]; rfl
theorem nd_end {L : List Sel} {M : List St} {k : Nat} (h : L.length ≤ k ∨ M.length ≤ k) : nd (L.drop k) (M.drop k) = true := by
  rcases h with h | h
  · rw [List.drop_eq_nil_of_le h]; unfold nd; rfl
  · rw [show M.drop k = [] from List.drop_eq_nil_of_le h]
    cases L.drop k <;> rfl
set_option maxRecDepth 100000 in
set_option maxHeartbeats 8000000 in
theorem needs_any (v1 v2 : Value) (L : List Sel) (M : List St) (w : World) (h1 : Sels w w.heap.size v1 L) (h2 : Ss w w.heap.size v2 M) : Calls Try.prog 5 #[v1, v2] w fun e w' => e = .returned (.bool (nd L M)) ∧ Below w.heap.size w w' := by
  obtain ⟨n, hn⟩ : ∃ n, L.length = n := ⟨_, rfl⟩
  obtain ⟨m, hm⟩ : ∃ m, M.length = m := ⟨_, rfl⟩
  obtain ⟨a1, cap1, rfl, hn9⟩ := sel_slice h1 hn
  obtain ⟨a2, cap2, rfl, hm9⟩ := Rd.slice h2 hm
  have C1 := Lib.hid (sel_at h1 hn)
  have C2 := Lib.hid (Ss.cellsAt h2 hm)
  have HEND := Lib.hid (fun (k : Nat) (h : n ≤ k ∨ m ≤ k) => nd_end (L := L) (M := M) (k := k) (by omega))
  clear hn hm h1 h2
  go_enter Try.func5, Try.ntmps5
  go_wp2
  go_loopw [11] (fun i wr => ∃ k : Nat, k ≤ n ∧ k ≤ m ∧ i = .int .i64 k ∧ Below w.heap.size w wr ∧ Hid (nd L M = nd (L.drop k) (M.drop k))) (fun i _ => n - (intOf i).toNat)
  case atStart => exact ⟨0, by omega, by omega, rfl, Below.refl _ _, Lib.hid rfl⟩
  case round =>
    obtain ⟨k, hk, hkm, rfl, hb, HX⟩ := hrel
    by_cases hlt : k < n
    · by_cases hlm : k < m
      · obtain ⟨g1, o1, ee, d, rfl, hd, e0, e1, e2, e3, hg1⟩ := C1.out _ hb k hlt
        obtain ⟨g2, o2, e, rfl, he, f0, f1, f2, hg2⟩ := C2.out _ hb k hlm
        have HS := Lib.hid (nd_step hd he)
        clear hd he
        cases ee with
        | true =>
          have HX2 : Hid (nd L M = nd (L.drop (k + 1)) (M.drop (k + 1))) := Lib.hid (by rw [HX.out, HS.out, if_pos rfl])
          clear HS HX
          go_wp2
          go_quiet (fail)
          go_wp2
          exact ⟨⟨k + 1, by omega, by omega, by go_num, bel_dn hb _, HX2⟩, by simp [intOf]; omega⟩
        | false =>
          cases hse : stE d e with
          | true =>
            obtain rfl := stE_iff.1 hse
            have HX2 : Hid (nd L M = nd (L.drop (k + 1)) (M.drop (k + 1))) := Lib.hid (by rw [HX.out, HS.out, if_neg (by decide), hse, Bool.true_and])
            clear hse HS HX
            go_wp2
            go_quiet (fail)
            go_wp2
            exact ⟨⟨k + 1, by omega, by omega, by go_num, bel_dn hb _, HX2⟩, by simp [intOf]; omega⟩
          | false =>
            have HX2 : Hid (nd L M = false) := Lib.hid (by rw [HX.out, HS.out, if_neg (by decide), hse, Bool.false_and])
            clear HS HX
            obtain ⟨db, ds, dx⟩ := d
            obtain ⟨eb, es, ex⟩ := e
            rcases stE_no hse with h | ⟨rfl, h⟩ | ⟨rfl, rfl, h⟩
            all_goals
              simp only at e1 e2 e3 f0 f1 f2 h
              clear hse
              go_wp2
              go_quiet (fail)
              go_wp2
              go_ret
              exact ⟨ret_bool HX2.out.symm, bel_dn hb _⟩
      · obtain rfl : k = m := by omega
        have HX2 := Lib.hid (HX.out.trans (HEND.out k (by omega)))
        go_wp2
        go_ret
        exact ⟨ret_bool HX2.out.symm, hb⟩
    · obtain rfl : k = n := by omega
      have HX2 := Lib.hid (HX.out.trans (HEND.out k (by omega)))
      go_wp2
      go_ret
      exact ⟨ret_bool HX2.out.symm, hb⟩
set_option maxRecDepth 100000 in
set_option maxHeartbeats 8000000 in
theorem rneeds_any (v1 v2 : Value) (L : List Sel) (M : List St) (w : World) (h1 : Sels w w.heap.size v1 L) (h2 : Ss w w.heap.size v2 M) : Calls Try.prog 6 #[v1, v2] w fun e w' => e = .returned (.bool (nd L M)) ∧ Below w.heap.size w w' := by
  obtain ⟨n, hn⟩ : ∃ n, L.length = n := ⟨_, rfl⟩
  obtain ⟨m, hm⟩ : ∃ m, M.length = m := ⟨_, rfl⟩
  obtain ⟨a1, cap1, rfl, hn9⟩ := sel_slice h1 hn
  obtain ⟨a2, cap2, rfl, hm9⟩ := Rd.slice h2 hm
  have C1 := Lib.hid (sel_at h1 hn)
  have C2 := Lib.hid (Ss.cellsAt h2 hm)
  have HEND := Lib.hid (fun (k : Nat) (h : n ≤ k ∨ m ≤ k) => nd_end (L := L) (M := M) (k := k) (by omega))
  clear hn hm h1 h2
  go_enter Try.func6, Try.ntmps6
  go_wp2
  go_loopw [5] (fun i wr => ∃ k : Nat, k ≤ n ∧ k ≤ m ∧ i = .int .i64 k ∧ Below w.heap.size w wr ∧ Hid (nd L M = nd (L.drop k) (M.drop k))) (fun i _ => n - (intOf i).toNat)
  case atStart => exact ⟨0, by omega, by omega, rfl, Below.refl _ _, Lib.hid rfl⟩
  case round =>
    obtain ⟨k, hk, hkm, rfl, hb, HX⟩ := hrel
    by_cases hlt : k < n
    · by_cases hlm : k < m
      · obtain ⟨g1, o1, ee, d, rfl, hd, e0, e1, e2, e3, hg1⟩ := C1.out _ hb k hlt
        obtain ⟨g2, o2, e, rfl, he, f0, f1, f2, hg2⟩ := C2.out _ hb k hlm
        have HS := Lib.hid (nd_step hd he)
        clear hd he
        cases ee with
        | true =>
          have HX2 : Hid (nd L M = nd (L.drop (k + 1)) (M.drop (k + 1))) := Lib.hid (by rw [HX.out, HS.out, if_pos rfl])
          clear HS HX
          go_wp2
          go_quiet (fail)
          go_wp2
          exact ⟨⟨k + 1, by omega, by omega, by go_num, bel_dn hb _, HX2⟩, by simp [intOf]; omega⟩
        | false =>
          cases hse : stE d e with
          | true =>
            obtain rfl := stE_iff.1 hse
            have HX2 : Hid (nd L M = nd (L.drop (k + 1)) (M.drop (k + 1))) := Lib.hid (by rw [HX.out, HS.out, if_neg (by decide), hse, Bool.true_and])
            clear hse HS HX
            go_wp2
            go_quiet (fail)
            go_wp2
            exact ⟨⟨k + 1, by omega, by omega, by go_num, bel_dn hb _, HX2⟩, by simp [intOf]; omega⟩
          | false =>
            have HX2 : Hid (nd L M = false) := Lib.hid (by rw [HX.out, HS.out, if_neg (by decide), hse, Bool.false_and])
            clear HS HX
            obtain ⟨db, ds, dx⟩ := d
            obtain ⟨eb, es, ex⟩ := e
            rcases stE_no hse with h | ⟨rfl, h⟩ | ⟨rfl, rfl, h⟩
            all_goals
              simp only at e1 e2 e3 f0 f1 f2 h
              clear hse
              go_wp2
              go_quiet (fail)
              go_wp2
              go_ret
              exact ⟨ret_bool HX2.out.symm, bel_dn hb _⟩
      · obtain rfl : k = m := by omega
        have HX2 := Lib.hid (HX.out.trans (HEND.out k (by omega)))
        go_wp2
        go_ret
        exact ⟨ret_bool HX2.out.symm, hb⟩
    · obtain rfl : k = n := by omega
      have HX2 := Lib.hid (HX.out.trans (HEND.out k (by omega)))
      go_wp2
      go_ret
      exact ⟨ret_bool HX2.out.symm, hb⟩
theorem Sels.next {w w' : World} {v : Value} {L : List Sel} (h : Sels w w.heap.size v L) (hb : Below w.heap.size w w') : Sels w' w'.heap.size v L := SlR.below h hb hb.size
set_option maxRecDepth 100000 in
set_option maxHeartbeats 8000000 in
theorem needs_walk (v1 v2 : Value) (L : List Sel) (M : List St) (w : World) (h1 : Sels w w.heap.size v1 L) (h2 : Ss w w.heap.size v2 M) (hM : ∀ d ∈ M, d.ok) : Calls Try.prog 3 #[v1, v2] w fun e w' => e = .returned (.bool true) ∧ Below w.heap.size w w' := by
  obtain ⟨a1, cap1, rfl, hn9⟩ := sel_slice h1 rfl
  obtain ⟨a2, cap2, rfl, hm9⟩ := Rd.slice h2 rfl
  have bl := Below.refl w.heap.size w
  have HP := Lib.hid (rpvalid_any _ M w h2 hM)
  have HA := Lib.hid (fun (w1 : World) (hb : Below w.heap.size w w1) => needs_any _ _ L M w1 (Sels.next h1 hb) (show Ss _ _ _ _ from Rd.next h2 hb))
  have HB := Lib.hid (fun (w1 : World) (hb : Below w.heap.size w w1) => rneeds_any _ _ L M w1 (Sels.next h1 hb) (show Ss _ _ _ _ from Rd.next h2 hb))
  clear h1 h2 hM
  obtain ⟨p, hp⟩ : ∃ p, pvB M = p := ⟨_, rfl⟩
  obtain ⟨b, hb⟩ : ∃ b, nd L M = b := ⟨_, rfl⟩
  rw [hp] at HP
  rw [hb] at HA HB
  clear hp hb
  cases p with
  | false =>
    go_enter Try.func3, Try.ntmps3
    go_wp2_with (go_at_call 4; (with_reducible refine (HP.out).mono ?_); rintro e w1 ⟨rfl, hX⟩; have bl := bl.trans (hX.mono bl.size); clear hX)
    go_ret
    exact ⟨rfl, bl⟩
  | true =>
    go_enter Try.func3, Try.ntmps3
    go_wp2_with (first | (go_at_call 4; (with_reducible refine (HP.out).mono ?_); rintro e w1 ⟨rfl, hX⟩; have bl := bl.trans (hX.mono bl.size); clear hX) | (go_at_call 5; (with_reducible refine (HA.out _ bl).mono ?_); rintro e w2 ⟨rfl, hX⟩; have bl := bl.trans (hX.mono bl.size); clear hX) | (go_at_call 6; (with_reducible refine (HB.out _ bl).mono ?_); rintro e w3 ⟨rfl, hX⟩; have bl := bl.trans (hX.mono bl.size); clear hX))
    go_ret
    exact ⟨rfl, bl⟩
end Go.Proofs.Ytagnagofdokjcaa.Ps
