/-
  Slices of things of several cells each: to read, and of the call's own.
-/
import Derived.Test.YtiodnncpgdiejaaDoorBase
import Derived.Laws.AppendOwn
import Derived.Deep.OwnRows
import Derived.Deep.AppendLies
namespace Go.Proofs.YtiodnncpgdiejaaDoor.RO
open Go.RowKit
set_option linter.unusedVariables false
set_option linter.unusedSimpArgs false

theorem own_below {w w' : World} {base : Nat} {e : TypeId} {size : Nat} {v : Value} {n : Nat} {xs : List Value} (h : w.ownsRow base e size v n xs) (hb : Below w.heap.size w w') : w'.ownsRow base e size v n xs :=
  h.kept (row := none) ⟨hb.os, hb.tape, hb.output, hb.size, fun k hk _ => hb.block k hk⟩ (by cases v.ownBlock <;> simp)
variable {α : Type} {cs : α → List Value} {sz : Nat}
/-- The cells of things, one behind the other. -/
def flat (cs : α → List Value) (L : List α) : List Value := L.flatMap cs
theorem flat_app (a b : List α) : flat cs (a ++ b) = flat cs a ++ flat cs b := by unfold flat; rw [List.flatMap_append]
theorem flat_len (h : ∀ x, (cs x).length = sz) (L : List α) : (flat cs L).length = L.length * sz := by
  induction L with
  | nil => simp [flat]
  | cons x L ih =>
    have : flat cs (x :: L) = cs x ++ flat cs L := rfl
    rw [this, List.length_append, ih, h, List.length_cons, Nat.add_mul, Nat.one_mul, Nat.add_comm]
theorem flat_get (h : ∀ x, (cs x).length = sz) {L : List α} {i j : Nat} {x : α} (hi : L[i]? = some x) (hj : j < sz) : (flat cs L)[i * sz + j]? = (cs x)[j]? := by
  induction L generalizing i with
  | nil => simp at hi
  | cons y L ih =>
    have e : flat cs (y :: L) = cs y ++ flat cs L := rfl
    rw [e]
    rcases Nat.eq_zero_or_pos i with h0 | h0
    · subst h0
      have : y = x := by simpa using hi
      subst this
      rw [Nat.zero_mul, Nat.zero_add, List.getElem?_append_left (by rw [h]; exact hj)]
    · obtain ⟨m, rfl⟩ : ∃ m, i = m + 1 := ⟨i - 1, by omega⟩
      rw [List.getElem?_append_right (by rw [h, Nat.add_mul]; omega), h, Nat.add_mul, Nat.one_mul, show m * sz + sz + j - sz = m * sz + j by omega]
      exact ih (by simpa using hi)
/-- A slice to read, its array below block B. -/
def Rd (cs : α → List Value) (sz : Nat) (w : World) (B : Nat) (v : Value) (L : List α) : Prop :=
  (∃ a cap, v = .slice a 0 cap ∧ L = []) ∨ ∃ g o cap, v = .slice (some ⟨g, o, none⟩) L.length cap ∧ g < B ∧ L.length ≤ cap ∧ cap ≤ maxLen ∧ ∀ i x j u, L[i]? = some x → (cs x)[j]? = some u → w.cell? ⟨g, o + i * sz + j, none⟩ = some u
theorem Rd.below {w w' : World} {B : Nat} {v : Value} {L : List α} (h : Rd cs sz w B v L) (hb : Below B w w') : Rd cs sz w' B v L := by
  rcases h with h | ⟨g, o, cap, hv, hg, hl, hm, hc⟩
  · exact .inl h
  · exact .inr ⟨g, o, cap, hv, hg, hl, hm, fun i x j u h1 h2 => by rw [hb.cell (p := ⟨g, o + i * sz + j, none⟩) hg]; exact hc i x j u h1 h2⟩
theorem Rd.mono {w : World} {B B' : Nat} {v : Value} {L : List α} (h : Rd cs sz w B v L) (hb : B ≤ B') : Rd cs sz w B' v L := by
  rcases h with h | ⟨g, o, cap, hv, hg, hl, hm, hc⟩
  · exact .inl h
  · exact .inr ⟨g, o, cap, hv, by omega, hl, hm, hc⟩
theorem Rd.next {w w' : World} {v : Value} {L : List α} (h : Rd cs sz w w.heap.size v L) (hb : Below w.heap.size w w') : Rd cs sz w' w'.heap.size v L := (h.below hb).mono hb.size
theorem Rd.drewN {w : World} {B : Nat} {v : Value} {L : List α} (h : Rd cs sz w B v L) (n : Nat) : Rd cs sz (w.drewN n) B v L := h
theorem Rd.slice {w : World} {B : Nat} {v : Value} {L : List α} (h : Rd cs sz w B v L) {n : Nat} (hn : L.length = n) : ∃ a cap, v = .slice a n cap ∧ n ≤ 9223372036854775807 := by
  subst hn
  rcases h with ⟨a, c, rfl, rfl⟩ | ⟨g, o, cap, rfl, _, h1, h2, _⟩
  · exact ⟨_, _, rfl, by simp⟩
  · exact ⟨_, _, rfl, by unfold maxLen at h2; omega⟩
theorem Rd.run_len {P : Program} {t e : TypeId} (ht : P.underlying t = some (.slice e)) {w : World} {B : Nat} {v : Value} {L : List α} (h : Rd cs sz w B v L) {n : Nat} (hn : L.length = n) : ∀ (ty : TypeId) (w' : World), (Builtin.len_ #[t] ty #[v]).run P w' = .ok (.int .i64 n) w' := by
  intro ty w'
  obtain ⟨a, cap, rfl, _⟩ := h.slice hn
  have he : P.elem t = e := by simp [Program.elem, ht]
  exact run_len_slice w' t ty _ _ _ (by rw [he]; exact ht)
/-- Where the elements lie. -/
theorem Rd.at_ {w : World} {B : Nat} {v : Value} {L : List α} (h : Rd cs sz w B v L) (h0 : 0 < L.length) : ∃ g o cap, v = .slice (some ⟨g, o, none⟩) L.length cap ∧ g < B ∧ L.length ≤ cap ∧ cap ≤ maxLen ∧ ∀ i x j u, L[i]? = some x → (cs x)[j]? = some u → w.cell? ⟨g, o + i * sz + j, none⟩ = some u := by
  rcases h with ⟨a, c, rfl, rfl⟩ | h
  · simp at h0
  · exact h
/-- A slice of the call's own: a row that may grow. -/
def Ow (cs : α → List Value) (sz : Nat) (e : TypeId) (w : World) (base : Nat) (v : Value) (L : List α) : Prop := w.ownsRow base e sz v L.length (flat cs L)
variable {e : TypeId}
theorem Ow.rd (hl : ∀ x, (cs x).length = sz) {w : World} {base : Nat} {v : Value} {L : List α} (h : Ow cs sz e w base v L) : Rd cs sz w w.heap.size v L := by
  have hlt := World.ownsRow.lt h
  rcases h.2 with ⟨rfl, h0⟩ | ⟨g, cap, cur, rfl, hb, _, hc, hm, _⟩
  · exact .inl ⟨_, _, rfl, List.length_eq_zero_iff.1 h0⟩
  · refine .inr ⟨g, 0, cap, rfl, (hlt g rfl).2, hc, hm, fun i x j u hi hj => ?_⟩
    have hj' : j < sz := by rw [← hl x]; exact (List.getElem?_eq_some_iff.1 hj).1
    have := World.ownsRow.cells h (g := g) rfl (i * sz + j) u (by rw [flat_get hl hi hj']; exact hj)
    have ea : (⟨g, 0, none⟩ : Addr).add (i * sz + j) = ⟨g, 0 + i * sz + j, none⟩ := by unfold Addr.add; simp; omega
    rwa [ea] at this
theorem Ow.alloc {w : World} {base : Nat} {v : Value} {L : List α} (h : Ow cs sz e w base v L) (o : Obj) : Ow cs sz e (w.alloc o) base v L := World.ownsRow.alloc h o
theorem Ow.nil (w : World) (base : Nat) : Ow cs sz e w base (.slice none 0 0) [] := World.ownsRow_nil _ _ _ _
theorem Ow.below {w w' : World} {base : Nat} {v : Value} {L : List α} (h : Ow cs sz e w base v L) (hb : Below w.heap.size w w') : Ow cs sz e w' base v L := own_below h hb
theorem new_row (w : World) (l : List Value) (t : TypeId) (j : Nat) (u : Value) (h : l[j]? = some u) : (w.alloc (.cells l.toArray t)).cell? ((⟨w.heap.size, 0, none⟩ : Addr).add j) = some u := by
  have hj : j < l.length := (List.getElem?_eq_some_iff.1 h).1
  have := World.rowIs.cell (World.rowIs_alloc w l.toArray t (fun i => l.getD i default) (fun i hi => by
    have hi' : i < l.length := by simpa using hi
    simp [List.getD_eq_getElem?_getD, List.getElem?_eq_getElem hi'])) (i := j) (by simpa using hj)
  have e : (⟨w.heap.size, 0, none⟩ : Addr).add j = ⟨w.heap.size, j, none⟩ := by unfold Addr.add; simp; omega
  rw [e, this, List.getD_eq_getElem?_getD, h]; rfl
/-- Behind an append of one thing that lies in a block of its own. -/
theorem wpList_appo {P : Program} {ops : Array Oper} {rest : List Oper} {o : Oper} {a : Act} {Q : Exit → Act → World → Prop} {t : TypeId} {z : Value} {bytes : Nat} (ht : P.underlying t = some (.slice e)) (hinfo : (P.info? e).map (fun i => (i.zero, i.size, i.bytes)) = some (some z, sz, bytes)) (hzs : z.cells.size = sz) (hl : ∀ x, (cs x).length = sz) (h1 : ∀ x, ∀ u ∈ cs x, u.oneCell' = true) (hsz : 0 < sz) (hby : bytes ≤ 1000)
    (hgd : o.guard = none) (s y : Operand) (ho : o.op = .call { callee := .builtin .append, args := #[s, y], argTypes := #[t, t] })
    {W w : World} {base : Nat} {v : Value} {L : List α} (hs : a.eval s = v) (hB : Ow cs sz e w base v L) (hb : Below base W w) (hbs : base ≤ w.heap.size) (x : α) {C : Array Value} {c : Nat} (hx : a.eval y = .slice (some ⟨w.heap.size, 0, none⟩) 1 c) (hC : C = (cs x).toArray) (hlen : L.length + 1 ≤ 100000000)
    (h : ∀ v' w', Ow cs sz e w' base v' (L ++ [x]) → Below base W w' → base ≤ w'.heap.size → wpList P ops Q rest (a.put o.dst v') w') : wpList P ops Q (o :: rest) a (w.alloc (.cells C e)) := by
  obtain ⟨i0, hi, hz0, hz1, hz2⟩ := info_parts hinfo
  subst hC
  refine wpList_append_own _ hgd s y t ho base e i0 z sz bytes ht hi hz0 hz1 hz2 hzs hsz v L.length (flat cs L) hs (hB.alloc _) ⟨w.heap.size, 0, none⟩ 1 c (cs x) hx (by rw [hl, Nat.one_mul]) (fun j u hu => new_row w (cs x) _ j u hu) (h1 x) (by unfold maxLen; omega) ?_ (by simp; omega) ?_
  · have : (L.length + 1) * bytes ≤ 100000000 * 1000 := Nat.mul_le_mul hlen hby
    omega
  · intro v' w' hown hgrow _
    have hb' := (hb.alloc hbs (.cells (cs x).toArray e)).grown hgrow (by simp; omega) (fun k hk => (World.ownsRow.lt hB k hk).1)
    refine h v' w' ?_ hb' (Nat.le_trans hbs ?_)
    · unfold Ow
      have e1 : flat cs (L ++ [x]) = flat cs L ++ cs x := by rw [flat_app]; unfold flat; simp
      rw [List.length_append, e1]; exact hown
    · exact Nat.le_trans (by simp) hgrow.size
end Go.Proofs.YtiodnncpgdiejaaDoor.RO
