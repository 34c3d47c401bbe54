/-
  Package span: the statement's walk, SpanSingles.
-/
import Derived.Test.YtdgoblapmjpcaaaSpN
namespace Go.Proofs.Ytdgoblapmjpcaaa.Sp
open Go.RowKit
set_option linter.unusedVariables false
set_option linter.unusedSimpArgs false
open RO

def sgd (a b : ByteArray) (p s : Nat) : Ed := ⟨p, (a.size - s : Nat), b.extract p (b.size - s)⟩
theorem sg_list {A B : List UInt8} {p s : Nat} (hp : Pf A B p) (hs : Sf A B p s) : A.take p ++ ((B.drop p).take (B.length - s - p) ++ A.drop (A.length - s)) = B := by
  obtain ⟨h1, h2, h3⟩ := hp
  obtain ⟨k1, k2, k3⟩ := hs
  have e1 : A.take p = B.take p := by
    apply List.ext_getElem?
    intro j
    by_cases hj : j < p
    · rw [List.getElem?_take_of_lt hj, List.getElem?_take_of_lt hj, h3 j hj]
    · rw [List.getElem?_eq_none (by simp; omega), List.getElem?_eq_none (by simp; omega)]
  have e2 : A.drop (A.length - s) = B.drop (B.length - s) := by
    apply List.ext_getElem?
    intro j
    rw [List.getElem?_drop, List.getElem?_drop]
    by_cases hj : j < s
    · have := k3 (s - 1 - j) (by omega)
      rwa [show A.length - 1 - (s - 1 - j) = A.length - s + j by omega, show B.length - 1 - (s - 1 - j) = B.length - s + j by omega] at this
    · rw [List.getElem?_eq_none (by omega), List.getElem?_eq_none (by omega)]
  rw [e1, e2]
  have e3 : B.drop (B.length - s) = (B.drop p).drop (B.length - s - p) := by rw [List.drop_drop]; congr 1; omega
  rw [e3, List.take_append_drop, List.take_append_drop]
theorem sg_app {a b : ByteArray} {p s : Nat} (hb : b.size ≤ 2000) (hp : Pf a.data.toList b.data.toList p) (hs : Sf a.data.toList b.data.toList p s) : appR a.data.toList [sgd a b p s] = b ∧ appE a.data.toList [sgd a b p s] = 0 := by
  have hA : a.data.toList.length = a.size := rfl
  have hB : b.data.toList.length = b.size := rfl
  have hp1 := hp.1
  have hp2 := hp.2.1
  have hs1 := hs.1
  have hs2 := hs.2.1
  have hv : vld (sgd a b p s).f (sgd a b p s).t a.size = true := vld_iff.2 ⟨by simp only [sgd]; omega, by simp only [sgd]; omega, by simp only [sgd]; omega⟩
  have hck : chk [sgd a b p s] a.data.toList.length = 0 := by
    rw [hA]
    unfold chk
    rw [if_neg (by simp)]
    unfold chkL
    simp [hv, chkL]
  have happ : app a.data.toList [sgd a b p s] = b.data.toList := by
    unfold app
    rw [show [sgd a b p s].length = 0 + 1 from rfl, pre_succ (d := sgd a b p s) rfl, atk_succ (d := sgd a b p s) rfl]
    have e := sg_list hp hs
    rw [hA, hB] at e
    simp only [pre, atk, sgd, ext_list]
    simpa using e
  have hle : ¬ 1048576 < (app a.data.toList [sgd a b p s]).length := by rw [happ, hB]; omega
  obtain ⟨h1, h2⟩ := appE_ok hck hle
  rw [happ] at h2
  exact ⟨by rw [h2], h1⟩
theorem sg_apply {a b : ByteArray} {p s : Nat} (ha : a.size ≤ 2000) (hb : b.size ≤ 2000) (hp : Pf a.data.toList b.data.toList p) (hs : Sf a.data.toList b.data.toList p s) (w : World) (O : Obj) : Calls Try.prog 18 #[.string a, .slice (some ⟨w.heap.size + 1, 0, none⟩) 1 1] ((w.alloc O).alloc (.cells #[.int .i64 p, .int .i64 (a.size - s : Nat), .string (b.extract p (b.size - s))] 50)) fun e w' => e = .returned (.tuple #[.string b, .int .i64 0]) ∧ Below (w.heap.size + 2) ((w.alloc O).alloc (.cells #[.int .i64 p, .int .i64 (a.size - s : Nat), .string (b.extract p (b.size - s))] 50)) w' := by
  have hes := lit_es (w.alloc O) (sgd a b p s)
  have hz : (w.alloc O).heap.size = w.heap.size + 1 := by simp
  have hz2 : ((w.alloc O).alloc (.cells (ec (sgd a b p s)).toArray 50)).heap.size = w.heap.size + 2 := by simp
  rw [hz] at hes
  have h := apply_any a _ [sgd a b p s] _ (by rw [hz2]; exact hes) (by
    intro d hd
    simp at hd
    subst hd
    refine ⟨⟨by simp only [sgd]; omega, by have := hp.1; have hA : a.data.toList.length = a.size := rfl; simp only [sgd]; omega⟩, ⟨by simp only [sgd]; omega, by simp only [sgd]; omega⟩, by simp only [sgd]; have := ByteArray.size_extract (a := b) (b := p) (e := b.size - s); omega⟩) (by omega) (by
    intro d hd
    simp at hd
    subst hd
    simp only [sgd]
    have := ByteArray.size_extract (a := b) (b := p) (e := b.size - s)
    omega)
  obtain ⟨h1, h2⟩ := sg_app hb hp hs
  rw [h1, h2, hz2] at h
  exact h
theorem bx3 {w1 w2 : World} {a b c : Value} {T : TypeId} {O : Obj} (h : Below (w1.heap.size + 2) ((w1.alloc (.cells #[a, b, c] T)).alloc O) w2) : Below w1.heap.size w1 w2 ∧ w1.heap.size + 1 ≤ w2.heap.size ∧ w2.cell? ⟨w1.heap.size, 0, none⟩ = some a ∧ w2.cell? ⟨w1.heap.size, 1, none⟩ = some b ∧ w2.cell? ⟨w1.heap.size, 2, none⟩ = some c := by
  have hz := h.size
  rw [World.size_alloc, World.size_alloc] at hz
  have hc : ∀ j u, #[a, b, c][j]? = some u → w2.cell? ⟨w1.heap.size, j, none⟩ = some u := fun j u hu => by
    rw [h.cell (p := ⟨w1.heap.size, j, none⟩) (by show w1.heap.size < _; omega)]
    have hb : Below (w1.alloc (.cells #[a, b, c] T)).heap.size (w1.alloc (.cells #[a, b, c] T)) ((w1.alloc (.cells #[a, b, c] T)).alloc O) := (Below.refl _ _).alloc (Nat.le_refl _) _
    rw [hb.cell (p := ⟨w1.heap.size, j, none⟩) (by rw [World.size_alloc]; show w1.heap.size < _; omega)]
    exact rowc w1 #[a, b, c] T hu
  refine ⟨(((Below.refl w1.heap.size w1).alloc (Nat.le_refl _) _).alloc (by rw [World.size_alloc]; omega) _).trans (h.mono (by omega)), by omega, hc 0 a rfl, hc 1 b rfl, hc 2 c rfl⟩
set_option maxRecDepth 100000 in
set_option maxHeartbeats 8000000 in
theorem singles_walk (a b : ByteArray) (w : World) (ha : a.size ≤ 9223372036854775807) (hb : b.size ≤ 9223372036854775807) : Calls Try.prog 9 #[.string a, .string b] w fun e w' => e = .returned (.bool true) ∧ Below w.heap.size w w' := by
  by_cases h1 : 2000 < a.size
  · go_enter Try.func9, Try.ntmps9
    go_wp2_with (go_at_call 10; (with_reducible refine (lives_any _).mono ?_); rintro e w4 ⟨rfl, hb4⟩)
    go_ret
    exact ⟨rfl, hb4⟩
  by_cases h2 : 2000 < b.size
  · go_enter Try.func9, Try.ntmps9
    go_wp2_with (go_at_call 10; (with_reducible refine (lives_any _).mono ?_); rintro e w4 ⟨rfl, hb4⟩)
    go_ret
    exact ⟨rfl, hb4⟩
  have HS := Lib.hid (fun w' => single_any a b w' (by omega) (by omega))
  have HR := Lib.hid (fun w' => rsingle_any a b w' (by omega) (by omega))
  have HA := Lib.hid (fun (p s : Nat) (hp : Pm a.data.toList b.data.toList p) (hs : Sq a.data.toList b.data.toList p s) (w' : World) (O : Obj) => sg_apply (a := a) (b := b) (p := p) (s := s) (by omega) (by omega) hp.1 hs.1 w' O)
  go_enter Try.func9, Try.ntmps9
  go_wp2_with (first | (go_at_call 27; (with_reducible refine (HS.out _).mono ?_); rintro e w1 ⟨p, s, hP, hQ, rfl, hb1⟩; have HP := Lib.hid hP; have HQ := Lib.hid hQ; clear hP hQ) | (go_at_call 18; (with_reducible refine (HA.out p s HP.out HQ.out _ _).mono ?_); rintro e w2 ⟨rfl, hb2⟩; obtain ⟨q1, z1, c0, c1, c2⟩ := bx3 hb2; clear hb2))
  obtain ⟨x, hx⟩ : ∃ x, a.size - s = x := ⟨_, rfl⟩
  obtain ⟨T, hT⟩ : ∃ T, b.extract p (b.size - s) = T := ⟨_, rfl⟩
  have HX := Lib.hid hx
  have HT := Lib.hid hT
  rw [hx] at c1
  rw [hT] at c2
  rw [hx, hT]
  clear hx hT HA HS
  go_region_held3 (fun (W : World) => Below w1.heap.size w1 W ∧ w1.heap.size + 1 ≤ W.heap.size ∧ W.cell? ⟨w1.heap.size, 0, none⟩ = some (.int .i64 p) ∧ W.cell? ⟨w1.heap.size, 1, none⟩ = some (.int .i64 x) ∧ W.cell? ⟨w1.heap.size, 2, none⟩ = some (.string T))
    (first | (go_split_ands; have kk := keepS (k := 1) (w := w1) (by assumption) (by assumption) hb9; exact ⟨kk.1, kk.2.1, kk.2.2 _ _ _ (by omega) (by assumption), kk.2.2 _ _ _ (by omega) (by assumption), kk.2.2 _ _ _ (by omega) (by assumption)⟩) | (go_split_ands; exact ⟨by first | assumption | exact Below.drew (by assumption), by first | assumption | (simp; assumption), by first | assumption | (simp; assumption), by first | assumption | (simp; assumption), by first | assumption | (simp; assumption)⟩) | (refine ⟨?_, ?_, ?_, ?_, ?_⟩ <;> go_simp))
    (first | (go_at_call 28; (with_reducible refine (HR.out _).mono ?_); rintro e w9 ⟨p9, s9, hP9, hQ9, rfl, hb9⟩; obtain rfl := pm_one HP.out hP9; obtain rfl := sq_one HQ.out hQ9; rw [HX.out, HT.out]; clear hP9 hQ9) | (go_at_call 10; (with_reducible refine (lives_any _).mono ?_); rintro e w9 ⟨rfl, hb9⟩))
  all_goals go_wp2
  all_goals go_ret
  all_goals go_split_ands
  all_goals exact ⟨rfl, hb1.trans (Below.mono (by assumption) hb1.size)⟩
end Go.Proofs.Ytdgoblapmjpcaaa.Sp
