/-
  Slices of strings: of the call's own, and to read.
-/
import Derived.Test.YtacmallcfaokpaaBase
import Derived.Laws.AppendOwn
import Derived.Deep.OwnRows
namespace Go.Proofs.Ytacmallcfaokpaa.SR
open Go.RowKit
set_option linter.unusedVariables false
set_option linter.unusedSimpArgs false

theorem own_below {w w' : World} {base : Nat} {e : TypeId} {size : Nat} {v : Value} {n : Nat} {xs : List Value} (h : w.ownsRow base e size v n xs) (hb : Below w.heap.size w w') : w'.ownsRow base e size v n xs :=
  h.kept (row := none) ⟨hb.os, hb.tape, hb.output, hb.size, fun k hk _ => hb.block k hk⟩ (by cases v.ownBlock <;> simp)
/-- The cells of strings. -/
def sc (L : List ByteArray) : List Value := L.map Value.string
theorem sc_len (L : List ByteArray) : (sc L).length = L.length := by simp [sc]
theorem sc_app (a b : List ByteArray) : sc (a ++ b) = sc a ++ sc b := by unfold sc; rw [List.map_append]
/-- Strings of the call's own: a row that may grow. -/
def SBuf (w : World) (base : Nat) (v : Value) (L : List ByteArray) : Prop := w.ownsRow base 9 1 v L.length (sc L)
/-- A slice of strings, its array below block B. -/
def Ss (w : World) (B : Nat) (v : Value) (L : List ByteArray) : Prop :=
  (∃ a cap, v = .slice a 0 cap ∧ L = []) ∨ ∃ g o cap, v = .slice (some ⟨g, o, none⟩) L.length cap ∧ g < B ∧ L.length ≤ cap ∧ cap ≤ maxLen ∧ ∀ i, i < L.length → w.cell? ⟨g, o + i, none⟩ = some (.string (L.getD i ByteArray.empty))
theorem Ss.below {w w' : World} {B : Nat} {v : Value} {L : List ByteArray} (h : Ss w B v L) (hb : Below B w w') : Ss w' B v L := by
  rcases h with h | ⟨g, o, cap, hv, hg, hl, hm, hc⟩
  · exact .inl h
  · exact .inr ⟨g, o, cap, hv, hg, hl, hm, fun i hi => by rw [hb.cell (p := ⟨g, o + i, none⟩) hg]; exact hc i hi⟩
theorem Ss.mono {w : World} {B B' : Nat} {v : Value} {L : List ByteArray} (h : Ss w B v L) (hb : B ≤ B') : Ss w B' v L := by
  rcases h with h | ⟨g, o, cap, hv, hg, hl, hm, hc⟩
  · exact .inl h
  · exact .inr ⟨g, o, cap, hv, by omega, hl, hm, hc⟩
theorem Ss.next {w w' : World} {v : Value} {L : List ByteArray} (h : Ss w w.heap.size v L) (hb : Below w.heap.size w w') : Ss w' w'.heap.size v L := (h.below hb).mono hb.size
theorem Ss.run_len {w : World} {B : Nat} {v : Value} {L : List ByteArray} (h : Ss w B v L) {n : Nat} (hn : L.length = n) : ∀ (ty : TypeId) (w' : World), (Builtin.len_ #[38] ty #[v]).run Try.prog w' = .ok (.int .i64 n) w' := by
  intro ty w'
  subst hn
  rcases h with ⟨a, c, rfl, rfl⟩ | ⟨g, o, cap, rfl, _⟩
  · exact run_len_slice w' 38 ty _ _ _ Try.underlying38
  · exact run_len_slice w' 38 ty _ _ _ Try.underlying38
theorem SBuf.form {w : World} {base : Nat} {v : Value} {L : List ByteArray} (h : SBuf w base v L) : (v = .slice none 0 0 ∧ L = []) ∨ ∃ g cap, v = .slice (some ⟨g, 0, none⟩) L.length cap ∧ L.length ≤ cap ∧ cap ≤ maxLen ∧ base ≤ g ∧ g < w.heap.size ∧ ∀ i, i < L.length → w.cell? ⟨g, i, none⟩ = some (.string (L.getD i ByteArray.empty)) := by
  have hlt := h.lt
  rcases h.2 with ⟨rfl, h0⟩ | ⟨g, cap, _, rfl, hb, _, hc, hm, _⟩
  · exact .inl ⟨rfl, List.length_eq_zero_iff.1 h0⟩
  · refine .inr ⟨g, cap, rfl, hc, hm, hb, (hlt g rfl).2, fun i hi => ?_⟩
    have := World.ownsRow.cellAt h i (by omega)
    rw [this]
    unfold sc
    rw [List.getElem?_map, List.getElem?_eq_getElem hi, List.getD_eq_getElem?_getD, List.getElem?_eq_getElem hi]
    rfl
theorem SBuf.ss {w : World} {base : Nat} {v : Value} {L : List ByteArray} (h : SBuf w base v L) : Ss w w.heap.size v L := by
  rcases h.form with ⟨h1, h2⟩ | ⟨g, cap, h1, h2, hm, _, h3, h4⟩
  · exact .inl ⟨_, _, h1, h2⟩
  · exact .inr ⟨g, 0, cap, h1, h3, h2, hm, fun i hi => by rw [Nat.zero_add]; exact h4 i hi⟩
theorem SBuf.alloc {w : World} {base : Nat} {v : Value} {L : List ByteArray} (h : SBuf w base v L) (o : Obj) : SBuf (w.alloc o) base v L := World.ownsRow.alloc h o
theorem SBuf.nil (w : World) (base : Nat) : SBuf w base (.slice none 0 0) [] := World.ownsRow_nil _ _ _ _
theorem info_str : (Try.prog.info? 9).map (fun i => (i.zero, i.size, i.bytes)) = some (some (.string ⟨#[]⟩), 1, 16) := by kernel_rfl
theorem new_one (w : World) (x : Value) (t : TypeId) (j : Nat) (u : Value) (h : [x][j]? = some u) : (w.alloc (.cells #[x] t)).cell? ((⟨w.heap.size, 0, none⟩ : Addr).add j) = some u := by
  have hj : j = 0 := by have := (List.getElem?_eq_some_iff.1 h).1; simp at this; omega
  subst hj
  have hu : x = u := by simpa using h
  rw [← hu]
  exact World.rowIs.cell (World.rowIs_alloc w #[x] t (fun _ => x) (fun i hi => by
    have h0 : i = 0 := by simp at hi; omega
    subst h0; rfl)) (i := 0) (by simp)
/-- Behind an append of a string that lies in a block of its own. -/
theorem wpList_apps {ops : Array Oper} {rest : List Oper} {o : Oper} {a : Act} {Q : Exit → Act → World → Prop} (hgd : o.guard = none) (s x : Operand) (ho : o.op = .call { callee := .builtin .append, args := #[s, x], argTypes := #[38, 38] })
    {W w : World} {base : Nat} {v : Value} {L : List ByteArray} (hs : a.eval s = v) (hB : SBuf w base v L) (hb : Below base W w) (hbs : base ≤ w.heap.size) {y : ByteArray} {c : Nat} (hx : a.eval x = .slice (some ⟨w.heap.size, 0, none⟩) 1 c) (hlen : L.length + 1 ≤ 100000000)
    (h : ∀ v' w', SBuf w' base v' (L ++ [y]) → Below base W w' → base ≤ w'.heap.size → wpList Try.prog ops Q rest (a.put o.dst v') w') : wpList Try.prog ops Q (o :: rest) a (w.alloc (.cells #[.string y] 9)) := by
  obtain ⟨i0, hi, hz0, hz1, hz2⟩ := info_parts info_str
  refine wpList_append_own _ hgd s x 38 ho base 9 i0 (.string ⟨#[]⟩) 1 16 Try.underlying38 hi hz0 hz1 hz2 rfl (by decide) v L.length (sc L) hs (hB.alloc _) ⟨w.heap.size, 0, none⟩ 1 c [.string y] hx rfl (fun j u hu => new_one w _ _ j u hu) ?_ (by unfold maxLen; omega) (by omega) (by simp; omega) ?_
  · intro u hu
    rw [List.mem_singleton] at hu
    subst hu; rfl
  · intro v' w' hown hgrow _
    have hb' := (hb.alloc hbs (.cells #[.string y] 9)).grown hgrow (by simp; omega) (fun k hk => (World.ownsRow.lt hB k hk).1)
    refine h v' w' ?_ hb' (Nat.le_trans hbs ?_)
    · unfold SBuf
      rw [List.length_append, sc_app]; exact hown
    · exact Nat.le_trans (by simp) hgrow.size
end Go.Proofs.Ytacmallcfaokpaa.SR
