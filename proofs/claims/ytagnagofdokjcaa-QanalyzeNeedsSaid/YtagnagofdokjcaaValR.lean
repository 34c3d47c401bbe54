/-
  Values that came in: a value as a tree, what lies of it in memory, and how a reading opens to it.
-/
import Derived.Test.YtagnagofdokjcaaBase
import Derived.Test.YtagnagofdokjcaaRowOf
import Derived.Deep.Slices
import Derived.Deep.Strs
import Derived.Deep.Fields
import Derived.ChangeArms
import Derived.OpenShut
import Derived.Lib.SmallJoins
namespace Go.Proofs.Ytagnagofdokjcaa.VL
open Go.RowKit
set_option linter.unusedVariables false
set_option linter.unusedSimpArgs false
open Go.ChangeShapes Go.WideShapes Go.Deep

/-- What a value holds beside its kind, list and fields. -/
structure VM where
  b : Bool
  ng : Bool
  dg : ByteArray
  ex : Int
  tk : Int
  td : Int
  tn : Int
  tz : Int
  tx : ByteArray
  by_ : List Int
abbrev I64 (n : Int) : Prop := -9223372036854775808 ≤ n ∧ n ≤ 9223372036854775807
/-- Its numbers are ints, its strings no longer than strings are. -/
def VM.ok (m : VM) : Prop := I64 m.ex ∧ I64 m.tk ∧ I64 m.td ∧ I64 m.tn ∧ I64 m.tz ∧ m.dg.size ≤ maxLen ∧ m.tx.size ≤ maxLen
/-- A value: its kind, what it holds, its elements, its fields. -/
inductive VT where
  | mk (k : Int) (m : VM) (l : List VT) (fs : List (ByteArray × VT))
/-- The cells of a value. -/
abbrev vcs (k : Int) (m : VM) (bv lv fv : Value) : List Value := [.int .i64 k, .bool m.b, .bool m.ng, .string m.dg, .int .i64 m.ex, .int .i64 m.tk, .int .i64 m.td, .int .i64 m.tn, .int .i64 m.tz, .string m.tx, bv, lv, fv]
/-- A slice whose elements of sz cells each read as L, its array below block B. -/
def SlR {α : Type} (w : World) (B sz : Nat) (R : List Value → α → Prop) (v : Value) (L : List α) : Prop :=
  (∃ a cap, v = .slice a 0 cap ∧ L = []) ∨ ∃ g o cap, v = .slice (some ⟨g, o, none⟩) L.length cap ∧ g < B ∧ L.length ≤ cap ∧ cap ≤ maxLen ∧
    ∀ i x, L[i]? = some x → ∃ cs, cs.length = sz ∧ (∀ j u, cs[j]? = some u → w.cell? ⟨g, o + i * sz + j, none⟩ = some u) ∧ R cs x
theorem SlR.imp {α : Type} {w : World} {B sz : Nat} {R R' : List Value → α → Prop} {v : Value} {L : List α} (h : SlR w B sz R v L) (hi : ∀ cs x, R cs x → R' cs x) : SlR w B sz R' v L := by
  rcases h with h | ⟨g, o, cap, h1, h2, h3, h4, h5⟩
  · exact .inl h
  · exact .inr ⟨g, o, cap, h1, h2, h3, h4, fun i x hx => by obtain ⟨cs, c1, c2, c3⟩ := h5 i x hx; exact ⟨cs, c1, c2, hi _ _ c3⟩⟩
theorem SlR.below {α : Type} {w w' : World} {B B' sz : Nat} {R : List Value → α → Prop} {v : Value} {L : List α} (h : SlR w B sz R v L) (hb : Below B w w') (hB : B ≤ B') : SlR w' B' sz R v L := by
  rcases h with h | ⟨g, o, cap, h1, h2, h3, h4, h5⟩
  · exact .inl h
  · exact .inr ⟨g, o, cap, h1, Nat.lt_of_lt_of_le h2 hB, h3, h4, fun i x hx => by
      obtain ⟨cs, c1, c2, c3⟩ := h5 i x hx
      exact ⟨cs, c1, fun j u hu => (hb.cell (p := ⟨g, o + i * sz + j, none⟩) h2).trans (c2 j u hu), c3⟩⟩
/-- The thirteen cells of a value read as a tree, with so much fuel. -/
def VR (w : World) (B : Nat) : Nat → List Value → VT → Prop
  | 0, _, _ => False
  | f + 1, cs, .mk k m l fs => I64 k ∧ m.ok ∧ ∃ bv lv fv, cs = vcs k m bv lv fv ∧ SlR w B 1 (fun c x => c = [.int .u8 x] ∧ 0 ≤ x ∧ x ≤ 255) bv m.by_ ∧
      SlR w B 13 (fun c t => VR w B f c t) lv l ∧ SlR w B 14 (fun c (p : ByteArray × VT) => ∃ r, c = .string p.1 :: r ∧ p.1.size ≤ maxLen ∧ VR w B f r p.2) fv fs
theorem VR.below {w w' : World} {B B' : Nat} (hb : Below B w w') (hB : B ≤ B') : ∀ (f : Nat) (cs : List Value) (t : VT), VR w B f cs t → VR w' B' f cs t := by
  intro f
  induction f with
  | zero => intro cs t h; exact h.elim
  | succ f ih =>
    intro cs t h
    cases t with
    | mk k m l fs =>
      obtain ⟨h1, h2, bv, lv, fv, h3, hb3, h4, h5⟩ := h
      exact ⟨h1, h2, bv, lv, fv, h3, hb3.below hb hB, (h4.imp (fun c t hc => ih c t hc)).below hb hB, (h5.imp (fun c p hc => by obtain ⟨r, e, hs, hr⟩ := hc; exact ⟨r, e, hs, ih r p.2 hr⟩)).below hb hB⟩
theorem VR.next {w w' : World} {f : Nat} {cs : List Value} {t : VT} (h : VR w w.heap.size f cs t) (hb : Below w.heap.size w w') : VR w' w'.heap.size f cs t := VR.below hb hb.size f cs t h
theorem VR.len {w : World} {B f : Nat} {cs : List Value} {t : VT} (h : VR w B f cs t) : cs.length = 13 := by
  cases f with
  | zero => exact h.elim
  | succ f =>
    cases t with
    | mk k m l fs =>
      obtain ⟨_, _, bv, lv, fv, h3, _⟩ := h
      rw [h3]; rfl
section
variable {H : Type} {enc : TypeId × Value → H} {w : World} {base : Nat} {spare : Nat → Bool} {held : Bool}
theorem bnd_u8 {n : Int} (h : (Lit.int .u8 n).wf = true) : 0 ≤ n ∧ n ≤ 255 := bounds_u8 h
theorem bnd_i64 {n : Int} (h : (Lit.int .i64 n).wf = true) : -9223372036854775808 ≤ n ∧ n ≤ 9223372036854775807 := bounds_i64 h
/-- A slice's reading, opened element by element. -/
theorem open_slr {α : Type} {t e : TypeId} {sz fuel : Nat} {v : Value} {x : DataW H × List MemPlace} (ht : Try.prog.underlying t = some (.slice e)) (hce : Try.prog.cellsOf e = sz) (hsz : 0 < sz) (h : DataW.trod enc Try.prog w base spare held fuel t [v] = some x)
    (R : Nat → List Value → α → Prop) (hR : ∀ n cs y, n < fuel → cs.length = sz → DataW.trod enc Try.prog w base spare held n e cs = some y → ∃ a, R n cs a) (Q : List Value → α → Prop) (hQ : ∀ n cs a, n < fuel → R n cs a → Q cs a) : ∃ L : List α, SlR w w.heap.size sz Q v L := by
  rcases DataW.trod_slice ht h with ⟨h0, _⟩ | ⟨a, len, cap, elems, rest, n, hf, h0, _, _, hl, hm, hlen, hel, _⟩
  · simp at h0
    exact ⟨[], .inl ⟨_, _, h0, rfl⟩⟩
  · simp at h0
    subst h0
    have each : ∀ i, i < len → ∃ p : List Value × α, p.1.length = sz ∧ (∀ j u, p.1[j]? = some u → w.cell? ((a.add (i * sz)).add j) = some u) ∧ Q p.1 p.2 := fun i hi => by
      have h1 := hel i hi
      rw [List.getElem?_eq_getElem (by omega), hce] at h1
      obtain ⟨cs, c1, c2⟩ := Option.bind_eq_some_iff.1 h1
      obtain ⟨_, hcl, hcell⟩ := World.cells?_some c1
      obtain ⟨y, hy⟩ := hR n cs _ (by omega) hcl c2
      exact ⟨(cs, y), hcl, fun j u hu => by
        have hj : j < sz := by rw [← hcl]; exact (List.getElem?_eq_some_iff.1 hu).1
        rw [hcell j hj]; exact hu, hQ n cs y (by omega) hy⟩
    rcases Nat.eq_zero_or_pos len with hn | hn
    · subst hn
      exact ⟨[], .inl ⟨_, _, rfl, rfl⟩⟩
    have each2 : ∀ i, ∃ p : List Value × α, i < len → p.1.length = sz ∧ (∀ j u, p.1[j]? = some u → w.cell? ((a.add (i * sz)).add j) = some u) ∧ Q p.1 p.2 := fun i => by
      by_cases hi : i < len
      · obtain ⟨p, hp⟩ := each i hi
        exact ⟨p, fun _ => hp⟩
      · obtain ⟨p, _⟩ := each 0 hn
        exact ⟨p, fun h => absurd h hi⟩
    obtain ⟨q, hq⟩ := Classical.axiomOfChoice each2
    obtain ⟨b, off, spot⟩ := a
    have hs : spot = none := by
      obtain ⟨p1, p2, _⟩ := hq 0 hn
      have := World.cell?_spot (p2 0 _ (List.getElem?_eq_getElem (by omega)))
      simpa [Addr.add] using this
    subst hs
    have ad : ∀ k j, ((⟨b, off, none⟩ : Addr).add k).add j = ⟨b, off + k + j, none⟩ := fun k j => by unfold Addr.add; split <;> split <;> simp_all
    refine ⟨(List.range len).map (fun i => (q i).2), .inr ⟨b, off, cap, by simp, ?_, by simpa using hl, hm, fun i x hx => ?_⟩⟩
    · obtain ⟨p1, p2, _⟩ := hq 0 hn
      have := p2 0 _ (List.getElem?_eq_getElem (by omega))
      rw [ad] at this
      exact World.block_lt_of_cell? w _ this
    · have hin : i < len := by
        have := (List.getElem?_eq_some_iff.1 hx).1
        simpa using this
      rw [List.getElem?_map, List.getElem?_range hin] at hx
      have hxe : (q i).2 = x := by simpa using hx
      obtain ⟨p1, p2, p3⟩ := hq i hin
      exact ⟨(q i).1, p1, fun j u hu => by have := p2 j u hu; rwa [ad] at this, by rw [← hxe]; exact p3⟩
end
end Go.Proofs.Ytagnagofdokjcaa.VL
