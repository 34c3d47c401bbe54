/-
  Values walked: how deep, how many nodes.
-/
import Derived.Test.YthkpcanlimhhfaaValO
import Derived.OwnWalk
import Derived.BigQuiet
import Derived.Deep.RegionHeld3
namespace Go.Proofs.Ythkpcanlimhhfaa.VL
open Go.RowKit
set_option linter.unusedVariables false
set_option linter.unusedSimpArgs false

theorem ret_bool {a b : Bool} (h : a = b) : Ending.returned (.bool a) = .returned (.bool b) := by rw [h]
theorem ret_int {a b : Int} (h : a = b) : Ending.returned (.int .i64 a) = .returned (.int .i64 b) := by rw [h]
theorem SlR.slice {α : Type} {w : World} {B sz : Nat} {R : List Value → α → Prop} {v : Value} {L : List α} (h : SlR w B sz R v L) {n : Nat} (hn : L.length = n) : ∃ a cap, v = .slice a n cap ∧ n ≤ 9223372036854775807 := by
  subst hn
  rcases h with ⟨a, c, rfl, rfl⟩ | ⟨g, o, cap, rfl, _, h1, h2, _⟩
  · exact ⟨_, _, rfl, by simp⟩
  · exact ⟨_, _, rfl, by unfold maxLen at h2; omega⟩
theorem VR.form {w : World} {B f : Nat} {cs : List Value} {t : VT} (h : VR w B f cs t) : ∃ (kx : Int) (mx : VM) (lx : List VT) (fx : List (ByteArray × VT)) (ax1 : Option Addr) (nx1 cx1 : Nat) (ax2 : Option Addr) (nx2 cx2 : Nat) (ax3 : Option Addr) (nx3 cx3 : Nat), t = .mk kx mx lx fx ∧ cs = [.int .i64 kx, .bool mx.b, .bool mx.ng, .string mx.dg, .int .i64 mx.ex, .int .i64 mx.tk, .int .i64 mx.td, .int .i64 mx.tn, .int .i64 mx.tz, .string mx.tx, .slice ax1 nx1 cx1, .slice ax2 nx2 cx2, .slice ax3 nx3 cx3] := by
  cases f with
  | zero => exact h.elim
  | succ f =>
    cases t with
    | mk k m l fs =>
      obtain ⟨_, _, bv, lv, fv, rfl, hB, hL, hF⟩ := h
      obtain ⟨a1, c1, rfl, _⟩ := SlR.slice hB rfl
      obtain ⟨a2, c2, rfl, _⟩ := SlR.slice hL rfl
      obtain ⟨a3, c3, rfl, _⟩ := SlR.slice hF rfl
      exact ⟨_, _, _, _, _, _, _, _, _, _, _, _, _, rfl, rfl⟩
/-- A value among the elements of a list. -/
theorem SlR.at13 {w : World} {f : Nat} {a : Option Addr} {n cap : Nat} {L : List VT} (h : SlR w w.heap.size 13 (fun c t => VR w w.heap.size f c t) (.slice a n cap) L) (hn : L.length = n) : ∀ (w' : World), Below w.heap.size w w' → ∀ k, k < n → ∃ (g o : Nat) (kx : Int) (mx : VM) (lx : List VT) (fx : List (ByteArray × VT)) (ax1 : Option Addr) (nx1 cx1 : Nat) (ax2 : Option Addr) (nx2 cx2 : Nat) (ax3 : Option Addr) (nx3 cx3 : Nat), a = some ⟨g, o, none⟩ ∧ L[k]? = some (.mk kx mx lx fx) ∧ g < w.heap.size ∧ VR w' w'.heap.size f [.int .i64 kx, .bool mx.b, .bool mx.ng, .string mx.dg, .int .i64 mx.ex, .int .i64 mx.tk, .int .i64 mx.td, .int .i64 mx.tn, .int .i64 mx.tz, .string mx.tx, .slice ax1 nx1 cx1, .slice ax2 nx2 cx2, .slice ax3 nx3 cx3] (.mk kx mx lx fx) ∧ w'.cell? ⟨g, o + k * 13, none⟩ = some (.int .i64 kx) ∧ w'.cell? ⟨g, o + k * 13 + 1, none⟩ = some (.bool mx.b) ∧ w'.cell? ⟨g, o + k * 13 + 2, none⟩ = some (.bool mx.ng) ∧ w'.cell? ⟨g, o + k * 13 + 3, none⟩ = some (.string mx.dg) ∧ w'.cell? ⟨g, o + k * 13 + 4, none⟩ = some (.int .i64 mx.ex) ∧ w'.cell? ⟨g, o + k * 13 + 5, none⟩ = some (.int .i64 mx.tk) ∧ w'.cell? ⟨g, o + k * 13 + 6, none⟩ = some (.int .i64 mx.td) ∧ w'.cell? ⟨g, o + k * 13 + 7, none⟩ = some (.int .i64 mx.tn) ∧ w'.cell? ⟨g, o + k * 13 + 8, none⟩ = some (.int .i64 mx.tz) ∧ w'.cell? ⟨g, o + k * 13 + 9, none⟩ = some (.string mx.tx) ∧ w'.cell? ⟨g, o + k * 13 + 10, none⟩ = some (.slice ax1 nx1 cx1) ∧ w'.cell? ⟨g, o + k * 13 + 11, none⟩ = some (.slice ax2 nx2 cx2) ∧ w'.cell? ⟨g, o + k * 13 + 12, none⟩ = some (.slice ax3 nx3 cx3) := by
  intro w' hb k hk
  rcases h with ⟨_, _, h1, h2⟩ | ⟨g, o, c, h1, h2, h3, h4, h5⟩
  · subst h2; simp at hn; omega
  · injection h1 with e1 e2 e3
    have hq : L[k]? = some (L[k]'(by omega)) := List.getElem?_eq_getElem _
    obtain ⟨cs, c1, c2, c3⟩ := h5 k _ hq
    obtain ⟨kx, mx, lx, fx, ax1, nx1, cx1, ax2, nx2, cx2, ax3, nx3, cx3, ht, rfl⟩ := c3.form
    rw [ht] at hq c3
    have cc : ∀ j u, ([.int .i64 kx, .bool mx.b, .bool mx.ng, .string mx.dg, .int .i64 mx.ex, .int .i64 mx.tk, .int .i64 mx.td, .int .i64 mx.tn, .int .i64 mx.tz, .string mx.tx, .slice ax1 nx1 cx1, .slice ax2 nx2 cx2, .slice ax3 nx3 cx3] : List Value)[j]? = some u → w'.cell? ⟨g, o + k * 13 + j, none⟩ = some u := fun j u hu => (hb.cell (p := ⟨g, o + k * 13 + j, none⟩) h2).trans (c2 j u hu)
    exact ⟨g, o, kx, mx, lx, fx, ax1, nx1, cx1, ax2, nx2, cx2, ax3, nx3, cx3, e1, hq, h2, VR.below hb hb.size f _ _ c3, cc 0 _ rfl, cc 1 _ rfl, cc 2 _ rfl, cc 3 _ rfl, cc 4 _ rfl, cc 5 _ rfl, cc 6 _ rfl, cc 7 _ rfl, cc 8 _ rfl, cc 9 _ rfl, cc 10 _ rfl, cc 11 _ rfl, cc 12 _ rfl⟩
/-- A value among the fields of a map. -/
theorem SlR.at14 {w : World} {f : Nat} {a : Option Addr} {n cap : Nat} {L : List (ByteArray × VT)} (h : SlR w w.heap.size 14 (fun c (p : ByteArray × VT) => ∃ r, c = .string p.1 :: r ∧ p.1.size ≤ maxLen ∧ VR w w.heap.size f r p.2) (.slice a n cap) L) (hn : L.length = n) : ∀ (w' : World), Below w.heap.size w w' → ∀ k, k < n → ∃ (g o : Nat) (s : ByteArray) (kx : Int) (mx : VM) (lx : List VT) (fx : List (ByteArray × VT)) (ax1 : Option Addr) (nx1 cx1 : Nat) (ax2 : Option Addr) (nx2 cx2 : Nat) (ax3 : Option Addr) (nx3 cx3 : Nat), a = some ⟨g, o, none⟩ ∧ L[k]? = some (s, .mk kx mx lx fx) ∧ g < w.heap.size ∧ VR w' w'.heap.size f [.int .i64 kx, .bool mx.b, .bool mx.ng, .string mx.dg, .int .i64 mx.ex, .int .i64 mx.tk, .int .i64 mx.td, .int .i64 mx.tn, .int .i64 mx.tz, .string mx.tx, .slice ax1 nx1 cx1, .slice ax2 nx2 cx2, .slice ax3 nx3 cx3] (.mk kx mx lx fx) ∧ w'.cell? ⟨g, o + k * 14, none⟩ = some (.string s) ∧ w'.cell? ⟨g, o + k * 14 + 1, none⟩ = some (.int .i64 kx) ∧ w'.cell? ⟨g, o + k * 14 + 2, none⟩ = some (.bool mx.b) ∧ w'.cell? ⟨g, o + k * 14 + 3, none⟩ = some (.bool mx.ng) ∧ w'.cell? ⟨g, o + k * 14 + 4, none⟩ = some (.string mx.dg) ∧ w'.cell? ⟨g, o + k * 14 + 5, none⟩ = some (.int .i64 mx.ex) ∧ w'.cell? ⟨g, o + k * 14 + 6, none⟩ = some (.int .i64 mx.tk) ∧ w'.cell? ⟨g, o + k * 14 + 7, none⟩ = some (.int .i64 mx.td) ∧ w'.cell? ⟨g, o + k * 14 + 8, none⟩ = some (.int .i64 mx.tn) ∧ w'.cell? ⟨g, o + k * 14 + 9, none⟩ = some (.int .i64 mx.tz) ∧ w'.cell? ⟨g, o + k * 14 + 10, none⟩ = some (.string mx.tx) ∧ w'.cell? ⟨g, o + k * 14 + 11, none⟩ = some (.slice ax1 nx1 cx1) ∧ w'.cell? ⟨g, o + k * 14 + 12, none⟩ = some (.slice ax2 nx2 cx2) ∧ w'.cell? ⟨g, o + k * 14 + 13, none⟩ = some (.slice ax3 nx3 cx3) := by
  intro w' hb k hk
  rcases h with ⟨_, _, h1, h2⟩ | ⟨g, o, c, h1, h2, h3, h4, h5⟩
  · subst h2; simp at hn; omega
  · injection h1 with e1 e2 e3
    have hq : L[k]? = some (L[k]'(by omega)) := List.getElem?_eq_getElem _
    obtain ⟨cs, c1, c2, r, hr, _, c3⟩ := h5 k _ hq
    subst hr
    obtain ⟨kx, mx, lx, fx, ax1, nx1, cx1, ax2, nx2, cx2, ax3, nx3, cx3, ht, rfl⟩ := c3.form
    rw [show L[k]'(by omega) = ((L[k]'(by omega)).1, .mk kx mx lx fx) from Prod.ext rfl ht] at hq
    rw [ht] at c3
    have cc : ∀ j u, (.string (L[k]'(by omega)).1 :: [.int .i64 kx, .bool mx.b, .bool mx.ng, .string mx.dg, .int .i64 mx.ex, .int .i64 mx.tk, .int .i64 mx.td, .int .i64 mx.tn, .int .i64 mx.tz, .string mx.tx, .slice ax1 nx1 cx1, .slice ax2 nx2 cx2, .slice ax3 nx3 cx3] : List Value)[j]? = some u → w'.cell? ⟨g, o + k * 14 + j, none⟩ = some u := fun j u hu => (hb.cell (p := ⟨g, o + k * 14 + j, none⟩) h2).trans (c2 j u hu)
    exact ⟨g, o, _, kx, mx, lx, fx, ax1, nx1, cx1, ax2, nx2, cx2, ax3, nx3, cx3, e1, hq, h2, VR.below hb hb.size f _ _ c3, cc 0 _ rfl, cc 1 _ rfl, cc 2 _ rfl, cc 3 _ rfl, cc 4 _ rfl, cc 5 _ rfl, cc 6 _ rfl, cc 7 _ rfl, cc 8 _ rfl, cc 9 _ rfl, cc 10 _ rfl, cc 11 _ rfl, cc 12 _ rfl, cc 13 _ rfl⟩
/-- The thirteen cells of a value in a block of its own. -/
def BX (w : World) (A : Nat) (cs : List Value) : Prop := w.rowIs A 30 13 (fun i => cs.getD i default)
theorem BX.new (w : World) {cs : List Value} (h : cs.length = 13) : BX (w.alloc (.cells cs.toArray 30)) w.heap.size cs := by
  have := World.rowIs_alloc w cs.toArray 30 (fun i => cs.getD i default) (fun i hi => by
    have hi' : i < cs.length := by simpa using hi
    simp [List.getD_eq_getElem?_getD, List.getElem?_eq_getElem hi'])
  unfold BX
  rw [show cs.toArray.size = 13 by simpa using h] at this
  exact this
theorem BX.lt {w : World} {A : Nat} {cs : List Value} (h : BX w A cs) : A < w.heap.size := World.rowIs.lt h
theorem BX.below {w w' : World} {A n : Nat} {cs : List Value} (h : BX w A cs) (hb : Below n w w') (hn : A < n) : BX w' A cs := World.rowIs.of_block h (hb.block A hn)
theorem BX.at_ {w : World} {A : Nat} {cs : List Value} (h : BX w A cs) {i : Nat} {u : Value} (hi : i < 13) (hu : cs[i]? = some u) : w.cell? ⟨A, i, none⟩ = some u := by
  rw [World.rowIs.cell h hi, List.getD_eq_getElem?_getD, hu]; rfl
/-- The sum of g over the first q. -/
def sm {α : Type} (g : α → Nat) (L : List α) (q : Nat) : Nat := ((L.take q).map g).sum
theorem sm_zero {α : Type} (g : α → Nat) (L : List α) : sm g L 0 = 0 := rfl
theorem sm_step {α : Type} {g : α → Nat} {L : List α} {k : Nat} {x : α} (h : L[k]? = some x) : sm g L (k + 1) = sm g L k + g x := by
  obtain ⟨hk, rfl⟩ := List.getElem?_eq_some_iff.1 h
  unfold sm
  rw [List.take_succ_eq_append_getElem hk, List.map_append, List.sum_append]
  simp
/-- How many nodes a value has, elements and fields. -/
def szT : Nat → VT → Nat
  | 0, _ => 1
  | f + 1, .mk _ _ l fs => 1 + sm (szT f) l l.length + sm (fun p => szT f p.2) fs fs.length
set_option maxRecDepth 100000 in
set_option maxHeartbeats 8000000 in
theorem light_any : ∀ (f : Nat) (cs : List Value) (t : VT) (d n : Int) (w : World), VR w w.heap.size f cs t → (-1000 ≤ d ∧ d ≤ 1000) → (-1 ≤ n ∧ n ≤ 1000) → Calls Try.prog 5 #[.agg cs.toArray, .int .i64 d, .int .i64 n] w fun e w' => ∃ r : Int, e = .returned (.int .i64 r) ∧ (-1 ≤ r ∧ r ≤ 1000) ∧ (0 ≤ r → (szT f t : Int) + r ≤ n) ∧ Below w.heap.size w w' := by
  intro f
  induction f with
  | zero => intro cs t d n w h; exact h.elim
  | succ f ih =>
    intro cs t d n w h hd hn
    have IH := Lib.hid ih
    cases t with
    | mk k m l fs =>
        obtain ⟨hk, hm, bv, lv, fv, rfl, hB, hL, hF⟩ := h
        obtain ⟨nb, hnb⟩ : ∃ n, m.by_.length = n := ⟨_, rfl⟩
        obtain ⟨nl, hnl⟩ : ∃ n, l.length = n := ⟨_, rfl⟩
        obtain ⟨nf, hnf⟩ : ∃ n, fs.length = n := ⟨_, rfl⟩
        obtain ⟨ab, cb, rfl, hb9⟩ := SlR.slice hB hnb
        obtain ⟨al, cl, rfl, hl9⟩ := SlR.slice hL hnl
        obtain ⟨af, cf, rfl, hf9⟩ := SlR.slice hF hnf
        have C1 := Lib.hid (SlR.at13 hL hnl)
        have C2 := Lib.hid (SlR.at14 hF hnf)
        have A := BX.new w (cs := [.int .i64 k, .bool m.b, .bool m.ng, .string m.dg, .int .i64 m.ex, .int .i64 m.tk, .int .i64 m.td, .int .i64 m.tn, .int .i64 m.tz, .string m.tx, .slice ab nb cb, .slice al nl cl, .slice af nf cf]) rfl
        have bl : Below w.heap.size w (w.alloc (.cells #[.int .i64 k, .bool m.b, .bool m.ng, .string m.dg, .int .i64 m.ex, .int .i64 m.tk, .int .i64 m.td, .int .i64 m.tn, .int .i64 m.tz, .string m.tx, .slice ab nb cb, .slice al nl cl, .slice af nf cf] 30)) := (Below.refl _ _).alloc (Nat.le_refl _) _
        have x0 := A.at_ (i := 0) (by decide) rfl
        have x11 := A.at_ (i := 11) (by decide) rfl
        have x12 := A.at_ (i := 12) (by decide) rfl
        have HA := Lib.hid A
        obtain ⟨G1, hG1⟩ : ∃ g, g = szT f := ⟨_, rfl⟩
        obtain ⟨G2, hG2⟩ : ∃ g : ByteArray × VT → Nat, g = (fun p => szT f p.2) := ⟨_, rfl⟩
        have HT : Hid (szT (f + 1) (.mk k m l fs) = 1 + sm G1 l nl + sm G2 fs nf) := Lib.hid (by rw [hG1, hG2, ← hnl, ← hnf]; rfl)
        have HG1 : Hid (∀ t, G1 t = szT f t) := Lib.hid (fun t => by rw [hG1])
        have HG2 : Hid (∀ p, G2 p = szT f p.2) := Lib.hid (fun t => by rw [hG2])
        clear hL hF hB ih A hG1 hG2 hnl hnf hnb hm
        change Calls Try.prog 5 #[.agg #[.int .i64 k, .bool m.b, .bool m.ng, .string m.dg, .int .i64 m.ex, .int .i64 m.tk, .int .i64 m.td, .int .i64 m.tn, .int .i64 m.tz, .string m.tx, .slice ab nb cb, .slice al nl cl, .slice af nf cf], .int .i64 d, .int .i64 n] w _
        have hw1 : IntKind.i64.wrap (d - 1) = d - 1 := IntWalk.i64_in _ (by omega)
        have hw2 : IntKind.i64.wrap (n - 1) = n - 1 := IntWalk.i64_in _ (by omega)
        by_cases b1 : d < 1
        · go_enter Try.func5, Try.ntmps5
          go_wp2
          go_ret
          exact ⟨_, rfl, by omega, fun h => absurd h (by decide), bl⟩
        by_cases b2 : n < 1
        · go_enter Try.func5, Try.ntmps5
          go_wp2
          go_ret
          exact ⟨_, rfl, by omega, fun h => absurd h (by decide), bl⟩
        by_cases b3 : 200 < nl
        · go_enter Try.func5, Try.ntmps5
          go_wp2
          go_ret
          exact ⟨_, rfl, by omega, fun h => absurd h (by decide), bl⟩
        by_cases b4 : 200 < nf
        · go_enter Try.func5, Try.ntmps5
          go_wp2
          go_ret
          exact ⟨_, rfl, by omega, fun h => absurd h (by decide), bl⟩
        have hd1 : ¬ d < 1 := by omega
        have hn1 : ¬ n < 1 := by omega
        go_enter Try.func5, Try.ntmps5
        go_wp2
        go_loopw [2, 7] (fun nn i wr => ∃ (q : Nat) (z : Int), q ≤ nl ∧ i = .int .i64 q ∧ nn = .int .i64 z ∧ (-1 ≤ z ∧ z ≤ 1000) ∧ Below w.heap.size w wr ∧ Hid (BX wr w.heap.size [.int .i64 k, .bool m.b, .bool m.ng, .string m.dg, .int .i64 m.ex, .int .i64 m.tk, .int .i64 m.td, .int .i64 m.tn, .int .i64 m.tz, .string m.tx, .slice ab nb cb, .slice al nl cl, .slice af nf cf]) ∧ Hid (0 ≤ z → z + (sm G1 l q : Int) ≤ n - 1)) (fun _ i _ => nl - (intOf i).toNat)
        case atStart => exact ⟨0, n - 1, by omega, rfl, rfl, by omega, bl, HA, Lib.hid (fun _ => by rw [sm_zero]; simp)⟩
        case round =>
          clear bl HA x0 x11 x12
          obtain ⟨q, z, hq, rfl, rfl, hz, bl, HA, HS⟩ := hrel
          have A := HA.out
          have x11 := A.at_ (i := 11) (by decide) rfl
          have x12 := A.at_ (i := 12) (by decide) rfl
          clear A
          by_cases hlt : q < nl
          · by_cases hz0 : 0 ≤ z
            · obtain ⟨g, o, kx, mx, lx, fx, ax1, nx1, cx1, ax2, nx2, cx2, ax3, nx3, cx3, rfl, hx, hg, hv, e0, e1, e2, e3, e4, e5, e6, e7, e8, e9, e10, e11, e12⟩ := C1.out _ bl q hlt
              have HX := Lib.hid (sm_step (g := G1) hx)
              have HG := Lib.hid (HG1.out (.mk kx mx lx fx))
              clear hx
              go_wp2_with (go_at_call 5; (with_reducible refine (IH.out _ _ _ _ _ hv (by omega) (by omega)).mono ?_); rintro e w2 ⟨z2, rfl, hz2, hs2, hX⟩; have HS2 := Lib.hid hs2; clear hs2; have HA2 := Lib.hid (HA.out.below hX HA.out.lt); have bl := bl.trans (hX.mono bl.size); clear hX)
              exact ⟨⟨q + 1, z2, by omega, by go_num, rfl, hz2, bl, HA2, Lib.hid (fun h => by have h1 := HS2.out h; have h2 := HS.out hz0; rw [HX.out, HG.out]; push_cast; omega)⟩, by simp [intOf]; omega⟩
            · have HS : Hid (0 ≤ z → z + (sm G1 l nl : Int) ≤ n - 1) := Lib.hid (fun h => absurd h hz0)
              go_wp2
              go_loopw [2, 8] (fun nn i wr => ∃ (q : Nat) (z : Int), q ≤ nf ∧ i = .int .i64 q ∧ nn = .int .i64 z ∧ (-1 ≤ z ∧ z ≤ 1000) ∧ Below w.heap.size w wr ∧ Hid (BX wr w.heap.size [.int .i64 k, .bool m.b, .bool m.ng, .string m.dg, .int .i64 m.ex, .int .i64 m.tk, .int .i64 m.td, .int .i64 m.tn, .int .i64 m.tz, .string m.tx, .slice ab nb cb, .slice al nl cl, .slice af nf cf]) ∧ Hid (0 ≤ z → z + (sm G1 l nl : Int) + (sm G2 fs q : Int) ≤ n - 1)) (fun _ i _ => nf - (intOf i).toNat)
              case atStart => exact ⟨0, z, by omega, rfl, rfl, by omega, bl, HA, Lib.hid (fun h => by have := HS.out h; rw [sm_zero]; omega)⟩
              case round =>
                clear hz bl HA x11 x12 HS
                obtain ⟨p, z, hp, rfl, rfl, hz, bl, HA, HS⟩ := hrel
                have A := HA.out
                have x12 := A.at_ (i := 12) (by decide) rfl
                clear A
                by_cases hlt2 : p < nf
                · by_cases hz0 : 0 ≤ z
                  · obtain ⟨g, o, s, kx, mx, lx, fx, ax1, nx1, cx1, ax2, nx2, cx2, ax3, nx3, cx3, rfl, hx, hg, hv, e, e0, e1, e2, e3, e4, e5, e6, e7, e8, e9, e10, e11, e12⟩ := C2.out _ bl p hlt2
                    have HX := Lib.hid (sm_step (g := G2) hx)
                    have HG := Lib.hid (HG2.out (s, .mk kx mx lx fx))
                    clear hx
                    go_wp2_with (go_at_call 5; (with_reducible refine (IH.out _ _ _ _ _ hv (by omega) (by omega)).mono ?_); rintro e w2 ⟨z2, rfl, hz2, hs2, hX⟩; have HS2 := Lib.hid hs2; clear hs2; have HA2 := Lib.hid (HA.out.below hX HA.out.lt); have bl := bl.trans (hX.mono bl.size); clear hX)
                    exact ⟨⟨p + 1, z2, by omega, by go_num, rfl, hz2, bl, HA2, Lib.hid (fun h => by have h1 := HS2.out h; have h2 := HS.out hz0; rw [HX.out, HG.out]; push_cast; omega)⟩, by simp [intOf]; omega⟩
                  · go_wp2
                    go_ret
                    exact ⟨_, rfl, hz, fun h => absurd h (by omega), bl⟩
                · obtain rfl : nf = p := by omega
                  go_wp2
                  go_ret
                  exact ⟨_, rfl, hz, fun h => by have := HS.out h; rw [HT.out]; push_cast; omega, bl⟩
          · obtain rfl : nl = q := by omega
            go_wp2
            go_loopw [2, 8] (fun nn i wr => ∃ (q : Nat) (z : Int), q ≤ nf ∧ i = .int .i64 q ∧ nn = .int .i64 z ∧ (-1 ≤ z ∧ z ≤ 1000) ∧ Below w.heap.size w wr ∧ Hid (BX wr w.heap.size [.int .i64 k, .bool m.b, .bool m.ng, .string m.dg, .int .i64 m.ex, .int .i64 m.tk, .int .i64 m.td, .int .i64 m.tn, .int .i64 m.tz, .string m.tx, .slice ab nb cb, .slice al nl cl, .slice af nf cf]) ∧ Hid (0 ≤ z → z + (sm G1 l nl : Int) + (sm G2 fs q : Int) ≤ n - 1)) (fun _ i _ => nf - (intOf i).toNat)
            case atStart => exact ⟨0, z, by omega, rfl, rfl, by omega, bl, HA, Lib.hid (fun h => by have := HS.out h; rw [sm_zero]; omega)⟩
            case round =>
              clear hz bl HA x11 x12 HS
              obtain ⟨p, z, hp, rfl, rfl, hz, bl, HA, HS⟩ := hrel
              have A := HA.out
              have x12 := A.at_ (i := 12) (by decide) rfl
              clear A
              by_cases hlt2 : p < nf
              · by_cases hz0 : 0 ≤ z
                · obtain ⟨g, o, s, kx, mx, lx, fx, ax1, nx1, cx1, ax2, nx2, cx2, ax3, nx3, cx3, rfl, hx, hg, hv, e, e0, e1, e2, e3, e4, e5, e6, e7, e8, e9, e10, e11, e12⟩ := C2.out _ bl p hlt2
                  have HX := Lib.hid (sm_step (g := G2) hx)
                  have HG := Lib.hid (HG2.out (s, .mk kx mx lx fx))
                  clear hx
                  go_wp2_with (go_at_call 5; (with_reducible refine (IH.out _ _ _ _ _ hv (by omega) (by omega)).mono ?_); rintro e w2 ⟨z2, rfl, hz2, hs2, hX⟩; have HS2 := Lib.hid hs2; clear hs2; have HA2 := Lib.hid (HA.out.below hX HA.out.lt); have bl := bl.trans (hX.mono bl.size); clear hX)
                  exact ⟨⟨p + 1, z2, by omega, by go_num, rfl, hz2, bl, HA2, Lib.hid (fun h => by have h1 := HS2.out h; have h2 := HS.out hz0; rw [HX.out, HG.out]; push_cast; omega)⟩, by simp [intOf]; omega⟩
                · go_wp2
                  go_ret
                  exact ⟨_, rfl, hz, fun h => absurd h (by omega), bl⟩
              · obtain rfl : nf = p := by omega
                go_wp2
                go_ret
                exact ⟨_, rfl, hz, fun h => by have := HS.out h; rw [HT.out]; push_cast; omega, bl⟩
/-- The fourteen cells of a field in a block of its own. -/
def FX (w : World) (A : Nat) (cs : List Value) : Prop := w.rowIs A 36 14 (fun i => cs.getD i default)
theorem FX.new (w : World) {cs : List Value} (h : cs.length = 14) : FX (w.alloc (.cells cs.toArray 36)) w.heap.size cs := by
  have := World.rowIs_alloc w cs.toArray 36 (fun i => cs.getD i default) (fun i hi => by
    have hi' : i < cs.length := by simpa using hi
    simp [List.getD_eq_getElem?_getD, List.getElem?_eq_getElem hi'])
  unfold FX
  rw [show cs.toArray.size = 14 by simpa using h] at this
  exact this
theorem FX.at_ {w : World} {A : Nat} {cs : List Value} (h : FX w A cs) {i : Nat} {u : Value} (hi : i < 14) (hu : cs[i]? = some u) : w.cell? ⟨A, i, none⟩ = some u := by
  rw [World.rowIs.cell h hi, List.getD_eq_getElem?_getD, hu]; rfl
theorem BX.alloc {w : World} {A : Nat} {cs : List Value} (h : BX w A cs) (o : Obj) : BX (w.alloc o) A cs := World.rowIs.alloc h o
/-- Is a value's nesting above d? -/
def dpT : Nat → VT → Nat → Bool
  | 0, _, _ => false
  | f + 1, .mk k _ l fs, d => if d = 0 then true else if k = 6 then l.any (fun t => dpT f t (d - 1)) else if k = 7 then fs.any (fun p => dpT f p.2 (d - 1)) else false
theorem any_step {α : Type} {g : α → Bool} {L : List α} {k : Nat} {x : α} (h : L[k]? = some x) : (L.drop k).any g = (g x || (L.drop (k + 1)).any g) := by
  obtain ⟨hk, rfl⟩ := List.getElem?_eq_some_iff.1 h
  rw [List.drop_eq_getElem_cons hk, List.any_cons]
theorem any_end {α : Type} {g : α → Bool} {L : List α} {k : Nat} (h : L.length ≤ k) : (L.drop k).any g = false := by
  rw [List.drop_eq_nil_of_le h]; rfl
set_option maxRecDepth 100000 in
set_option maxHeartbeats 8000000 in
theorem deeper_any : ∀ (f : Nat) (cs : List Value) (t : VT) (d : Nat) (w : World) (z : Int), VR w w.heap.size f cs t → d ≤ 1000 → z = (d : Int) → Calls Try.prog 11 #[.agg cs.toArray, .int .i64 z] w fun e w' => e = .returned (.bool (dpT f t d)) ∧ Below w.heap.size w w' := by
  intro f
  induction f with
  | zero => intro cs t d w z h; exact h.elim
  | succ f ih =>
    intro cs t d w z h hd hz
    have IH := Lib.hid ih
    cases t with
    | mk k m l fs =>
        obtain ⟨hk, hm, bv, lv, fv, rfl, hB, hL, hF⟩ := h
        obtain ⟨nb, hnb⟩ : ∃ n, m.by_.length = n := ⟨_, rfl⟩
        obtain ⟨nl, hnl⟩ : ∃ n, l.length = n := ⟨_, rfl⟩
        obtain ⟨nf, hnf⟩ : ∃ n, fs.length = n := ⟨_, rfl⟩
        obtain ⟨ab, cb, rfl, hb9⟩ := SlR.slice hB hnb
        obtain ⟨al, cl, rfl, hl9⟩ := SlR.slice hL hnl
        obtain ⟨af, cf, rfl, hf9⟩ := SlR.slice hF hnf
        have C1 := Lib.hid (SlR.at13 hL hnl)
        have C2 := Lib.hid (SlR.at14 hF hnf)
        have A := BX.new w (cs := [.int .i64 k, .bool m.b, .bool m.ng, .string m.dg, .int .i64 m.ex, .int .i64 m.tk, .int .i64 m.td, .int .i64 m.tn, .int .i64 m.tz, .string m.tx, .slice ab nb cb, .slice al nl cl, .slice af nf cf]) rfl
        have bl : Below w.heap.size w (w.alloc (.cells #[.int .i64 k, .bool m.b, .bool m.ng, .string m.dg, .int .i64 m.ex, .int .i64 m.tk, .int .i64 m.td, .int .i64 m.tn, .int .i64 m.tz, .string m.tx, .slice ab nb cb, .slice al nl cl, .slice af nf cf] 30)) := (Below.refl _ _).alloc (Nat.le_refl _) _
        have x0 := A.at_ (i := 0) (by decide) rfl
        have x11 := A.at_ (i := 11) (by decide) rfl
        have x12 := A.at_ (i := 12) (by decide) rfl
        have HA := Lib.hid A
        have HE1 := Lib.hid (fun (G : VT → Bool) => any_end (g := G) (L := l) (k := nl) (by omega))
        have HE2 := Lib.hid (fun (G : ByteArray × VT → Bool) => any_end (g := G) (L := fs) (k := nf) (by omega))
        clear hL hF ih A hnl hnf
        change Calls Try.prog 11 #[.agg #[.int .i64 k, .bool m.b, .bool m.ng, .string m.dg, .int .i64 m.ex, .int .i64 m.tk, .int .i64 m.td, .int .i64 m.tn, .int .i64 m.tz, .string m.tx, .slice ab nb cb, .slice al nl cl, .slice af nf cf], .int .i64 z] w _
        subst hz
        by_cases hd0 : d = 0
        · subst hd0
          have HR : Hid (dpT (f + 1) (.mk k m l fs) 0 = true) := Lib.hid (if_pos rfl)
          go_enter Try.func11, Try.ntmps11
          go_wp2
          go_ret
          exact ⟨ret_bool HR.out.symm, bl⟩
        have hdz : ((d : Int) == 0) = false := by rw [beq_eq_false_iff_ne]; omega
        have hw1 : IntKind.i64.wrap ((d : Int) - 1) = (d : Int) - 1 := IntWalk.i64_in _ (by omega)
        by_cases k6 : k = 6
        · obtain rfl : 6 = k := k6.symm
          obtain ⟨G, hG⟩ : ∃ G : VT → Bool, G = (fun t => dpT f t (d - 1)) := ⟨_, rfl⟩
          have HR : Hid (dpT (f + 1) (.mk 6 m l fs) d = l.any G) := Lib.hid ((if_neg hd0).trans ((if_pos rfl).trans (by rw [hG])))
          have HEND := Lib.hid (HE1.out G)
          have hGG : ∀ t', G t' = dpT f t' (d - 1) := fun t' => by rw [hG]
          clear hG
          go_enter Try.func11, Try.ntmps11
          go_wp2
          go_loopw [17] (fun i wr => ∃ (q : Nat), q ≤ nl ∧ i = .int .i64 q ∧ Below w.heap.size w wr ∧ Hid (BX wr w.heap.size [.int .i64 6, .bool m.b, .bool m.ng, .string m.dg, .int .i64 m.ex, .int .i64 m.tk, .int .i64 m.td, .int .i64 m.tn, .int .i64 m.tz, .string m.tx, .slice ab nb cb, .slice al nl cl, .slice af nf cf]) ∧ Hid (l.any G = (l.drop q).any G)) (fun i _ => nl - (intOf i).toNat)
          case atStart => exact ⟨0, by omega, rfl, bl, HA, Lib.hid rfl⟩
          case round =>
            clear bl HA x0 x11 x12
            obtain ⟨q, hq, rfl, bl, HA, HX⟩ := hrel
            have A := HA.out
            have x0 := A.at_ (i := 0) (by decide) rfl
            clear A
            by_cases hlt : q < nl
            · obtain ⟨g, o, kx, mx, lx, fx, ax1, nx1, cx1, ax2, nx2, cx2, ax3, nx3, cx3, rfl, hx, hg, hv, e0, e1, e2, e3, e4, e5, e6, e7, e8, e9, e10, e11, e12⟩ := C1.out _ bl q hlt
              have HST := Lib.hid (any_step (g := G) hx)
              have HV := Lib.hid hv
              clear hx hv
              have D := BX.new wr (cs := [.int .i64 kx, .bool mx.b, .bool mx.ng, .string mx.dg, .int .i64 mx.ex, .int .i64 mx.tk, .int .i64 mx.td, .int .i64 mx.tn, .int .i64 mx.tz, .string mx.tx, .slice ax1 nx1 cx1, .slice ax2 nx2 cx2, .slice ax3 nx3 cx3]) rfl
              have y0 := D.at_ (i := 0) (by decide) rfl
              have y1 := D.at_ (i := 1) (by decide) rfl
              have y2 := D.at_ (i := 2) (by decide) rfl
              have y3 := D.at_ (i := 3) (by decide) rfl
              have y4 := D.at_ (i := 4) (by decide) rfl
              have y5 := D.at_ (i := 5) (by decide) rfl
              have y6 := D.at_ (i := 6) (by decide) rfl
              have y7 := D.at_ (i := 7) (by decide) rfl
              have y8 := D.at_ (i := 8) (by decide) rfl
              have y9 := D.at_ (i := 9) (by decide) rfl
              have y10 := D.at_ (i := 10) (by decide) rfl
              have y11 := D.at_ (i := 11) (by decide) rfl
              have y12 := D.at_ (i := 12) (by decide) rfl
              have bl2 := bl.alloc bl.size (.cells #[.int .i64 kx, .bool mx.b, .bool mx.ng, .string mx.dg, .int .i64 mx.ex, .int .i64 mx.tk, .int .i64 mx.td, .int .i64 mx.tn, .int .i64 mx.tz, .string mx.tx, .slice ax1 nx1 cx1, .slice ax2 nx2 cx2, .slice ax3 nx3 cx3] 30)
              have HA1 := Lib.hid (HA.out.alloc (.cells #[.int .i64 kx, .bool mx.b, .bool mx.ng, .string mx.dg, .int .i64 mx.ex, .int .i64 mx.tk, .int .i64 mx.td, .int .i64 mx.tn, .int .i64 mx.tz, .string mx.tx, .slice ax1 nx1 cx1, .slice ax2 nx2 cx2, .slice ax3 nx3 cx3] 30))
              have hbn : Below wr.heap.size wr (wr.alloc (.cells #[.int .i64 kx, .bool mx.b, .bool mx.ng, .string mx.dg, .int .i64 mx.ex, .int .i64 mx.tk, .int .i64 mx.td, .int .i64 mx.tn, .int .i64 mx.tz, .string mx.tx, .slice ax1 nx1 cx1, .slice ax2 nx2 cx2, .slice ax3 nx3 cx3] 30)) := (Below.refl _ _).alloc (Nat.le_refl _) _
              have HC := Lib.hid (fun z hz => IH.out _ _ (d - 1) (wr.alloc (.cells #[.int .i64 kx, .bool mx.b, .bool mx.ng, .string mx.dg, .int .i64 mx.ex, .int .i64 mx.tk, .int .i64 mx.td, .int .i64 mx.tn, .int .i64 mx.tz, .string mx.tx, .slice ax1 nx1 cx1, .slice ax2 nx2 cx2, .slice ax3 nx3 cx3] 30)) z (HV.out.next hbn) (by omega) hz)
              obtain ⟨bb, hbb⟩ : ∃ bb, dpT f (.mk kx mx lx fx) (d - 1) = bb := ⟨_, rfl⟩
              rw [hbb] at HC
              have HGB : Hid (G (.mk kx mx lx fx) = bb) := Lib.hid ((hGG _).trans hbb)
              clear hbb HV D
              cases bb with
              | true =>
                have HX2 : Hid (l.any G = true) := Lib.hid (by rw [HX.out, HST.out, HGB.out, Bool.true_or])
                clear HST HX HGB
                go_wp2_with (go_at_call 11; (with_reducible refine (HC.out _ (by omega)).mono ?_); rintro e w2 ⟨rfl, hX⟩; have bl2 := bl2.trans (hX.mono bl2.size); clear hX)
                go_ret
                exact ⟨ret_bool (HR.out.trans HX2.out).symm, bl2⟩
              | false =>
                have HX2 : Hid (l.any G = (l.drop (q + 1)).any G) := Lib.hid (by rw [HX.out, HST.out, HGB.out, Bool.false_or])
                clear HST HX HGB
                go_wp2_with (go_at_call 11; (with_reducible refine (HC.out _ (by omega)).mono ?_); rintro e w2 ⟨rfl, hX⟩; have HA2 := Lib.hid (HA1.out.below hX HA1.out.lt); have bl2 := bl2.trans (hX.mono bl2.size); clear hX)
                exact ⟨⟨q + 1, by omega, by go_num, bl2, HA2, HX2⟩, by simp [intOf]; omega⟩
            · obtain rfl : nl = q := by omega
              have HX2 : Hid (l.any G = false) := Lib.hid (HX.out.trans HEND.out)
              go_wp2
              go_ret
              exact ⟨ret_bool (HR.out.trans HX2.out).symm, bl⟩
        by_cases k7 : k = 7
        · obtain rfl : 7 = k := k7.symm
          obtain ⟨G, hG⟩ : ∃ G : ByteArray × VT → Bool, G = (fun p => dpT f p.2 (d - 1)) := ⟨_, rfl⟩
          have HR : Hid (dpT (f + 1) (.mk 7 m l fs) d = fs.any G) := Lib.hid ((if_neg hd0).trans ((if_neg (by decide)).trans ((if_pos rfl).trans (by rw [hG]))))
          have HEND := Lib.hid (HE2.out G)
          have hGG : ∀ s t', G (s, t') = dpT f t' (d - 1) := fun s t' => by rw [hG]
          clear hG
          go_enter Try.func11, Try.ntmps11
          go_wp2
          go_loopw [32] (fun i wr => ∃ (q : Nat), q ≤ nf ∧ i = .int .i64 q ∧ Below w.heap.size w wr ∧ Hid (BX wr w.heap.size [.int .i64 7, .bool m.b, .bool m.ng, .string m.dg, .int .i64 m.ex, .int .i64 m.tk, .int .i64 m.td, .int .i64 m.tn, .int .i64 m.tz, .string m.tx, .slice ab nb cb, .slice al nl cl, .slice af nf cf]) ∧ Hid (fs.any G = (fs.drop q).any G)) (fun i _ => nf - (intOf i).toNat)
          case atStart => exact ⟨0, by omega, rfl, bl, HA, Lib.hid rfl⟩
          case round =>
            clear bl HA x0 x11 x12
            obtain ⟨q, hq, rfl, bl, HA, HX⟩ := hrel
            have A := HA.out
            have x0 := A.at_ (i := 0) (by decide) rfl
            clear A
            by_cases hlt : q < nf
            · obtain ⟨g, o, s, kx, mx, lx, fx, ax1, nx1, cx1, ax2, nx2, cx2, ax3, nx3, cx3, rfl, hx, hg, hv, e, e0, e1, e2, e3, e4, e5, e6, e7, e8, e9, e10, e11, e12⟩ := C2.out _ bl q hlt
              have HST := Lib.hid (any_step (g := G) hx)
              have HV := Lib.hid hv
              clear hx hv
              have D := FX.new wr (cs := [.string s, .int .i64 kx, .bool mx.b, .bool mx.ng, .string mx.dg, .int .i64 mx.ex, .int .i64 mx.tk, .int .i64 mx.td, .int .i64 mx.tn, .int .i64 mx.tz, .string mx.tx, .slice ax1 nx1 cx1, .slice ax2 nx2 cx2, .slice ax3 nx3 cx3]) rfl
              have y0 := D.at_ (i := 1) (by decide) rfl
              have y1 := D.at_ (i := 2) (by decide) rfl
              have y2 := D.at_ (i := 3) (by decide) rfl
              have y3 := D.at_ (i := 4) (by decide) rfl
              have y4 := D.at_ (i := 5) (by decide) rfl
              have y5 := D.at_ (i := 6) (by decide) rfl
              have y6 := D.at_ (i := 7) (by decide) rfl
              have y7 := D.at_ (i := 8) (by decide) rfl
              have y8 := D.at_ (i := 9) (by decide) rfl
              have y9 := D.at_ (i := 10) (by decide) rfl
              have y10 := D.at_ (i := 11) (by decide) rfl
              have y11 := D.at_ (i := 12) (by decide) rfl
              have y12 := D.at_ (i := 13) (by decide) rfl
              have bl2 := bl.alloc bl.size (.cells #[.string s, .int .i64 kx, .bool mx.b, .bool mx.ng, .string mx.dg, .int .i64 mx.ex, .int .i64 mx.tk, .int .i64 mx.td, .int .i64 mx.tn, .int .i64 mx.tz, .string mx.tx, .slice ax1 nx1 cx1, .slice ax2 nx2 cx2, .slice ax3 nx3 cx3] 36)
              have HA1 := Lib.hid (HA.out.alloc (.cells #[.string s, .int .i64 kx, .bool mx.b, .bool mx.ng, .string mx.dg, .int .i64 mx.ex, .int .i64 mx.tk, .int .i64 mx.td, .int .i64 mx.tn, .int .i64 mx.tz, .string mx.tx, .slice ax1 nx1 cx1, .slice ax2 nx2 cx2, .slice ax3 nx3 cx3] 36))
              have hbn : Below wr.heap.size wr (wr.alloc (.cells #[.string s, .int .i64 kx, .bool mx.b, .bool mx.ng, .string mx.dg, .int .i64 mx.ex, .int .i64 mx.tk, .int .i64 mx.td, .int .i64 mx.tn, .int .i64 mx.tz, .string mx.tx, .slice ax1 nx1 cx1, .slice ax2 nx2 cx2, .slice ax3 nx3 cx3] 36)) := (Below.refl _ _).alloc (Nat.le_refl _) _
              have HC := Lib.hid (fun z hz => IH.out _ _ (d - 1) (wr.alloc (.cells #[.string s, .int .i64 kx, .bool mx.b, .bool mx.ng, .string mx.dg, .int .i64 mx.ex, .int .i64 mx.tk, .int .i64 mx.td, .int .i64 mx.tn, .int .i64 mx.tz, .string mx.tx, .slice ax1 nx1 cx1, .slice ax2 nx2 cx2, .slice ax3 nx3 cx3] 36)) z (HV.out.next hbn) (by omega) hz)
              obtain ⟨bb, hbb⟩ : ∃ bb, dpT f (.mk kx mx lx fx) (d - 1) = bb := ⟨_, rfl⟩
              rw [hbb] at HC
              have HGB : Hid (G (s, .mk kx mx lx fx) = bb) := Lib.hid ((hGG _ _).trans hbb)
              clear hbb HV D
              cases bb with
              | true =>
                have HX2 : Hid (fs.any G = true) := Lib.hid (by rw [HX.out, HST.out, HGB.out, Bool.true_or])
                clear HST HX HGB
                go_wp2_with (go_at_call 11; (with_reducible refine (HC.out _ (by omega)).mono ?_); rintro e w2 ⟨rfl, hX⟩; have bl2 := bl2.trans (hX.mono bl2.size); clear hX)
                go_ret
                exact ⟨ret_bool (HR.out.trans HX2.out).symm, bl2⟩
              | false =>
                have HX2 : Hid (fs.any G = (fs.drop (q + 1)).any G) := Lib.hid (by rw [HX.out, HST.out, HGB.out, Bool.false_or])
                clear HST HX HGB
                go_wp2_with (go_at_call 11; (with_reducible refine (HC.out _ (by omega)).mono ?_); rintro e w2 ⟨rfl, hX⟩; have HA2 := Lib.hid (HA1.out.below hX HA1.out.lt); have bl2 := bl2.trans (hX.mono bl2.size); clear hX)
                exact ⟨⟨q + 1, by omega, by go_num, bl2, HA2, HX2⟩, by simp [intOf]; omega⟩
            · obtain rfl : nf = q := by omega
              have HX2 : Hid (fs.any G = false) := Lib.hid (HX.out.trans HEND.out)
              go_wp2
              go_ret
              exact ⟨ret_bool (HR.out.trans HX2.out).symm, bl⟩
        · have HR : Hid (dpT (f + 1) (.mk k m l fs) d = false) := Lib.hid ((if_neg hd0).trans ((if_neg k6).trans (if_neg k7)))
          have q6 : (k == 6) = false := by rw [beq_eq_false_iff_ne]; exact k6
          have q7 : (k == 7) = false := by rw [beq_eq_false_iff_ne]; exact k7
          go_enter Try.func11, Try.ntmps11
          go_wp2
          go_ret
          exact ⟨ret_bool HR.out.symm, bl⟩
end Go.Proofs.Ythkpcanlimhhfaa.VL
