/-
  Contracts of package span: edits in normal form.
-/
import Derived.Test.YtdgoblapmjpcaaaSpG
import Derived.ArgAppend
namespace Go.Proofs.Ytdgoblapmjpcaaa.Sp
open Go.RowKit
set_option linter.unusedVariables false
set_option linter.unusedSimpArgs false
open RO

/-- Behind an append onto a slice without room. -/
theorem sp_appg {ops : Array Oper} {rest : List Oper} {o : Oper} {a : Act} {Q : Exit → Act → World → Prop} (hgd : o.guard = none) (s y : Operand) (ho : o.op = .call { callee := .builtin .append, args := #[s, y], argTypes := #[63, 63] })
    {W w : World} {base B n : Nat} {ao : Option Addr} {L : List Ru} (hs : a.eval s = .slice ao n n) (hB : Rd rc 3 w B (.slice ao n n) L) (hn : L.length = n) (hBw : B ≤ w.heap.size) (hb : Below base W w) (hbs : base ≤ w.heap.size) (hno : ao = none → n = 0) (x : Ru) {C : Array Value} {c : Nat} (hx : a.eval y = .slice (some ⟨w.heap.size, 0, none⟩) 1 c) (hC : C = (rc x).toArray) (hlen : L.length + 1 ≤ 100000000)
    (h : ∀ v' w', Ow rc 3 66 w' (w.heap.size + 1) v' (L ++ [x]) → Below base W w' → w.heap.size + 1 ≤ w'.heap.size → wpList Try.prog ops Q rest (a.put o.dst v') w') : wpList Try.prog ops Q (o :: rest) a (w.alloc (.cells C 66)) := by
  obtain ⟨i0, hi, hz0, hz1, hz2⟩ := info_parts info_run
  subst hC
  refine wpList_append_grows _ hgd s y 63 ho 66 i0 (.agg #[.int .i64 0, .int .i64 0, .int .i64 0]) 3 24 Try.underlying63 hi hz0 hz1 hz2 rfl (by decide) ao n n (flat rc L) hs (fun e => ⟨hno e, hno e⟩) (by rw [flat_len rc_len, hn]) ?_ ⟨w.heap.size, 0, none⟩ 1 c (rc x) hx rfl (fun j u hu => new_row w (rc x) _ j u hu) (rc_one x) (by omega) (by unfold maxLen; omega) (by omega) ?_
  · intro b hbq j u hu
    rcases hB with ⟨a', c', hv, rfl⟩ | ⟨g, oo, cap, hv, hg, hl, hm, hc⟩
    · simp [flat] at hu
    · injection hv with h1 h2 h3
      rw [hbq] at h1
      obtain rfl := Option.some.inj h1
      have hj : j < L.length * 3 := by have := (List.getElem?_eq_some_iff.1 hu).1; rwa [flat_len rc_len] at this
      obtain ⟨d, hd⟩ : ∃ d, L[j / 3]? = some d := ⟨L[j / 3]'(by omega), List.getElem?_eq_getElem _⟩
      have e1 := flat_get (cs := rc) rc_len hd (show j % 3 < 3 by omega)
      rw [show j / 3 * 3 + j % 3 = j by omega, hu] at e1
      have := hc (j / 3) d (j % 3) u hd e1.symm
      rw [show oo + j / 3 * 3 + j % 3 = oo + j by omega] at this
      have ea : (⟨g, oo, none⟩ : Addr).add j = ⟨g, oo + j, none⟩ := by unfold Addr.add; simp
      rw [ea]
      have hne : g < w.heap.size := by omega
      have hba : Below w.heap.size w (w.alloc (.cells (rc x).toArray 66)) := (Below.refl _ _).alloc (Nat.le_refl _) _
      exact (hba.cell (p := ⟨g, oo + j, none⟩) hne).trans this
  · intro v' w' hown hgrow
    refine h v' w' ?_ ?_ ?_
    · unfold Ow
      have e1 : flat rc (L ++ [x]) = flat rc L ++ rc x := by rw [flat_app]; unfold flat; simp
      rw [List.length_append, e1, hn]
      simpa using hown
    · exact (hb.alloc hbs (.cells (rc x).toArray 66)).grown hgrow (by simp; omega) (fun k hk => by cases hk)
    · have := hgrow.size; simpa using this
/-- Behind an append of an edit, at a step of a region that draws its order. -/
theorem sp_stepe {ops : Array Oper} {o : Oper} {a : Act} {K : Act → World → Prop} {Q : Exit → Act → World → Prop} {E : Prop} (hgd : o.guard = none) (s y : Operand) (ho : o.op = .call { callee := .builtin .append, args := #[s, y], argTypes := #[22, 22] })
    {W w0 : World} {base : Nat} {v : Value} {L : List Ed} {O : Obj} (hs : a.eval s = v) (hB : Ow ec 3 50 w0 base v L) (hb : Below base W w0) (hbs : base ≤ w0.heap.size) (x : Ed) {C : Array Value} {c : Nat} (hx : a.eval y = .slice (some ⟨w0.heap.size + 1, 0, none⟩) 1 c) (hC : C = (ec x).toArray) (hlen : L.length + 1 ≤ 100000000)
    (h : ∀ v' w', Ow ec 3 50 w' base v' (L ++ [x]) → Below base W w' → base ≤ w'.heap.size → (∀ j, w'.cell? ⟨w0.heap.size, j, none⟩ = (w0.alloc O).cell? ⟨w0.heap.size, j, none⟩) → K (a.put o.dst v') w') :
    if Region.wanted o (yielded ops a.tmps) = true then Oper.wp Try.prog o a ((w0.alloc O).alloc (.cells C 50)).drew K Q else E := by
  obtain ⟨i0, hi, hz0, hz1, hz2⟩ := info_parts info_edit
  subst hC
  have hx : a.eval y = .slice (some ⟨(w0.alloc O).heap.size, 0, none⟩) 1 c := by rw [hx, World.size_alloc]
  refine step_append_lies _ hgd s y 22 ho base 50 i0 (.agg #[.int .i64 0, .int .i64 0, .string ⟨#[]⟩]) 3 32 Try.underlying22 hi hz0 hz1 hz2 rfl (by decide) v L.length (flat ec L) hs ((hB.alloc _).alloc _) ⟨(w0.alloc O).heap.size, 0, none⟩ 1 c (ec x) hx rfl (fun j u hu => new_row (w0.alloc O) (ec x) _ j u hu) (ec_one x) (by decide) (by unfold maxLen; omega) (by omega) (by simp; omega) (w0.heap.size + 2) (by simp) ?_
  intro g cap w' hown hgrow _ _
  have hd : Below base W ((w0.alloc O).alloc (.cells (ec x).toArray 50)).drew := (((hb.alloc hbs O).alloc (by simp; omega) (.cells (ec x).toArray 50))).trans ⟨rfl, rfl, rfl, Nat.le_refl _, fun _ _ => rfl⟩
  have hb' := hd.grown hgrow (by simp; omega) (fun k hk => (World.ownsRow.lt hB k hk).1)
  refine h _ w' ?_ hb' ?_ ?_
  · unfold Ow
    have e1 : flat ec (L ++ [x]) = flat ec L ++ ec x := by rw [flat_app]; unfold flat; simp
    rw [List.length_append, e1]; exact hown
  · have := hgrow.size
    simp at this
    omega
  · intro j
    have hblk := hgrow.block w0.heap.size (by simp; omega) (by intro e; have := (World.ownsRow.lt hB _ e.symm).2; omega)
    have e1 : w'.cell? ⟨w0.heap.size, j, none⟩ = ((w0.alloc O).alloc (.cells (ec x).toArray 50)).drew.cell? ⟨w0.heap.size, j, none⟩ := World.cell?_of_block (a := ⟨w0.heap.size, j, none⟩) hblk
    rw [e1]
    have hba : Below (w0.alloc O).heap.size (w0.alloc O) ((w0.alloc O).alloc (.cells (ec x).toArray 50)).drew := ((Below.refl _ _).alloc (Nat.le_refl _) _).trans ⟨rfl, rfl, rfl, Nat.le_refl _, fun _ _ => rfl⟩
    exact hba.cell (p := ⟨w0.heap.size, j, none⟩) (by simp)
/-- The edit before a run, if there is one. -/
def ne1 (tx : ByteArray) (fr to : Int) (r : Ru) : List Ed := if fr < r.a ∨ to < r.b then [⟨fr, r.a, tx.extract to.toNat r.b.toNat⟩] else []
def nm (tx : ByteArray) (size : Int) : Int → Int → List Ru → List Ed
  | fr, to, [] => ne1 tx fr to ⟨size, tx.size, 0⟩
  | fr, to, r :: R => if r.c = 0 then nm tx size fr to R else ne1 tx fr to r ++ nm tx size (r.a + r.c) (r.b + r.c) R
def Sm (x : Int) : Prop := 0 ≤ x ∧ x ≤ 1000000000
/-- Runs that lie in a text, one behind the other. -/
def WF (tx : ByteArray) : Int → Int → List Ru → Prop
  | fr, to, [] => Sm fr ∧ Sm to ∧ to ≤ tx.size
  | fr, to, r :: R => Sm fr ∧ Sm to ∧ Sm r.a ∧ Sm r.b ∧ Sm r.c ∧ (if r.c = 0 then WF tx fr to R else (to ≤ r.b ∧ r.b ≤ tx.size ∧ WF tx (r.a + r.c) (r.b + r.c) R))
def NormPost (R : List Ed) (w : World) (e : Ending) (w' : World) : Prop := ∃ v, e = .returned v ∧ Below w.heap.size w w' ∧ Ow ec 3 50 w' w.heap.size v R
theorem ow_ed {w : World} {base : Nat} {v : Value} {L : List Ed} (h : Ow ec 3 50 w base v L) (n : Nat) : Ow ec 3 50 (w.drewN n) base v L := h
end Go.Proofs.Ytdgoblapmjpcaaa.Sp
