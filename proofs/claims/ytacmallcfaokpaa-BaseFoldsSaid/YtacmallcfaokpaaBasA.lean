/-
  Contracts of package base and its reference: bytes that came in, bytes of the call's own.
-/
import Derived.Test.YtacmallcfaokpaaBits
import Derived.Test.YtacmallcfaokpaaBasMath
import Derived.Lib.JoinLaws
import Derived.StillTailTactics
import Derived.Laws.AppendOwn
import Derived.Deep.RegionHeld3
import Derived.Deep.AppendLies
import Derived.Shelf.Bytes.SlSmallAll
namespace Go.Proofs.Ytacmallcfaokpaa.Bas
open Go.RowKit
set_option linter.unusedVariables false
set_option linter.unusedSimpArgs false

theorem ba_ext {a b : ByteArray} (h : a.data.toList = b.data.toList) : a = b := by
  cases a; cases b; congr 1; exact Array.ext' h
theorem toList_data (s : ByteArray) : s.toList = s.data.toList := by
  obtain ⟨⟨l⟩⟩ := s; exact ByteArray.toList_mk l
theorem size_list (s : ByteArray) : s.data.toList.length = s.size := rfl
theorem get_list {s : ByteArray} {k : Nat} (h : k < s.size) : s.data.toList[k]'h = s[k] := rfl
theorem strOfNums_bytes (l : List UInt8) : strOfNums (l.map fun c => (c.toNat : Int)) = ⟨l.toArray⟩ := by
  have e : (fun n : Int => UInt8.ofNat n.toNat) ∘ (fun c : UInt8 => (c.toNat : Int)) = id := by
    funext c
    show UInt8.ofNat ((c.toNat : Int).toNat) = c
    rw [Int.toNat_natCast]
    exact UInt8.ofNat_toNat
  unfold strOfNums
  rw [List.map_map, e, List.map_id]
/-- The cells of bytes. -/
def bc (l : List UInt8) : List Value := l.map fun c => Value.int .u8 c.toNat
theorem bc_len (l : List UInt8) : (bc l).length = l.length := by simp [bc]
/-- A slice of bytes, its array below block B: nil, or a row of cells. -/
def Bs (w : World) (B : Nat) (v : Value) (l : List UInt8) : Prop :=
  (∃ a cap, v = .slice a 0 cap ∧ l = []) ∨ ∃ g o cap, v = .slice (some ⟨g, o, none⟩) l.length cap ∧ g < B ∧ l.length ≤ cap ∧ cap ≤ maxLen ∧ ∀ i, i < l.length → w.cell? ⟨g, o + i, none⟩ = some (.int .u8 ((l.getD i 0).toNat : Int))
theorem Bs.below {w w' : World} {B : Nat} {v : Value} {l : List UInt8} (h : Bs w B v l) (hb : Below B w w') : Bs w' B v l := by
  rcases h with h | ⟨g, o, cap, hv, hg, hl, hm, hc⟩
  · exact .inl h
  · exact .inr ⟨g, o, cap, hv, hg, hl, hm, fun i hi => by rw [hb.cell (p := ⟨g, o + i, none⟩) hg]; exact hc i hi⟩
theorem Bs.mono {w : World} {B B' : Nat} {v : Value} {l : List UInt8} (h : Bs w B v l) (hb : B ≤ B') : Bs w B' v l := by
  rcases h with h | ⟨g, o, cap, hv, hg, hl, hm, hc⟩
  · exact .inl h
  · exact .inr ⟨g, o, cap, hv, by omega, hl, hm, hc⟩
theorem Bs.drewN {w : World} {B : Nat} {v : Value} {l : List UInt8} (h : Bs w B v l) (n : Nat) : Bs (w.drewN n) B v l := h
/-- The conversion of bytes to a string. -/
theorem Bs.conv {w : World} {B : Nat} {v : Value} {l : List UInt8} (h : Bs w B v l) : ∀ dst, Try.prog.underlying dst = some .string → (convert 22 dst v).run Try.prog w = .ok (.string ⟨l.toArray⟩) w := by
  intro dst hd
  rcases h with ⟨a0, c0, rfl, rfl⟩ | ⟨g, o, cap, rfl, hg, hl, hm, hc⟩
  · exact run_convert_bytes_zero (P := Try.prog) w 22 5 Try.underlying22 Try.underlying5 a0 c0 dst hd
  · have := run_convert_bytes_arg (P := Try.prog) w 22 5 Try.underlying22 Try.underlying5 g o l.length cap (l.map fun c => (c.toNat : Int)) (by simp) (fun i hi => by
      rw [hc i hi]
      simp [List.getD_eq_getElem?_getD, hi, List.getElem?_eq_getElem hi]) dst hd
    rw [this, strOfNums_bytes]
/-- Bytes of the call's own: a row that may grow. -/
def Buf (w : World) (base : Nat) (v : Value) (row : List UInt8) : Prop := w.ownsRow base 5 1 v row.length (bc row)
theorem Buf.form {w : World} {base : Nat} {v : Value} {row : List UInt8} (h : Buf w base v row) : (v = .slice none 0 0 ∧ row = []) ∨ ∃ g cap, v = .slice (some ⟨g, 0, none⟩) row.length cap ∧ row.length ≤ cap ∧ cap ≤ maxLen ∧ base ≤ g ∧ g < w.heap.size ∧ ∀ i, i < row.length → w.cell? ⟨g, i, none⟩ = some (.int .u8 ((row.getD i 0).toNat : Int)) := by
  have hlt := h.lt
  rcases h.2 with ⟨rfl, h0⟩ | ⟨g, cap, _, rfl, hb, _, hc, hm, _⟩
  · exact .inl ⟨rfl, List.length_eq_zero_iff.1 h0⟩
  · refine .inr ⟨g, cap, rfl, hc, hm, hb, (hlt g rfl).2, fun i hi => ?_⟩
    have := World.ownsRow.cellAt h i (by omega)
    rw [this]
    unfold bc
    rw [List.getElem?_map, List.getElem?_eq_getElem hi, List.getD_eq_getElem?_getD, List.getElem?_eq_getElem hi]
    rfl
theorem Buf.bs {w : World} {base : Nat} {v : Value} {row : List UInt8} (h : Buf w base v row) : Bs w w.heap.size v row := by
  rcases h.form with ⟨h1, h2⟩ | ⟨g, cap, h1, h2, hm, _, h3, h4⟩
  · exact .inl ⟨_, _, h1, h2⟩
  · exact .inr ⟨g, 0, cap, h1, h3, h2, hm, fun i hi => by rw [Nat.zero_add]; exact h4 i hi⟩
theorem Buf.alloc {w : World} {base : Nat} {v : Value} {row : List UInt8} (h : Buf w base v row) (o : Obj) : Buf (w.alloc o) base v row := World.ownsRow.alloc h o
theorem info_u8 : (Try.prog.info? 5).map (fun i => (i.zero, i.size, i.bytes)) = some (some (.int .u8 0), 1, 1) := by kernel_rfl
theorem mk_room (c : Nat) (h : c ≤ 200000000) (w : World) : (Instr.makeSlice 22 (.int .i64 0) (.int .i64 (c : Int))).run Try.prog w = .ok (.slice (some ⟨w.heap.size, 0, none⟩) 0 c) (w.alloc (.cells (madeCells #[.int .u8 0] c) 5)) :=
  run_make_room 22 5 (.int .u8 0) 1 Try.underlying22 info_u8 rfl .i64 .i64 c (by omega) (by omega) w
theorem Buf.room (w : World) (c : Nat) (h : c ≤ 200000000) : Buf (w.alloc (.cells (madeCells #[.int .u8 0] c) 5)) w.heap.size (.slice (some ⟨w.heap.size, 0, none⟩) 0 c) [] :=
  World.ownsRow_made w _ c (Nat.le_refl _) (by unfold maxLen; omega) (by rw [size_madeCells]; omega)
theorem Buf.nil (w : World) (base : Nat) : Buf w base (.slice none 0 0) [] := World.ownsRow_nil _ _ _ _
theorem new_row (w : World) (l : List Value) (t : TypeId) (j : Nat) (u : Value) (h : l[j]? = some u) : (w.alloc (.cells l.toArray t)).cell? ((⟨w.heap.size, 0, none⟩ : Addr).add j) = some u := by
  have hj : j < l.length := (List.getElem?_eq_some_iff.1 h).1
  have := World.rowIs.cell (World.rowIs_alloc w l.toArray t (fun i => l.getD i default) (fun i hi => by
    have hi' : i < l.length := by simpa using hi
    simp [List.getD_eq_getElem?_getD, List.getElem?_eq_getElem hi'])) (i := j) (by simpa using hj)
  have e : (⟨w.heap.size, 0, none⟩ : Addr).add j = ⟨w.heap.size, j, none⟩ := by unfold Addr.add; simp; omega
  rw [e, this, List.getD_eq_getElem?_getD, h]; rfl
/-- Behind an append of bytes that lie in a block of their own. -/
theorem wpList_app {ops : Array Oper} {rest : List Oper} {o : Oper} {a : Act} {Q : Exit → Act → World → Prop} (hgd : o.guard = none) (s x : Operand) (ho : o.op = .call { callee := .builtin .append, args := #[s, x], argTypes := #[22, 22] })
    {W w : World} {base : Nat} {v : Value} {row : List UInt8} (hs : a.eval s = v) (hB : Buf w base v row) (hb : Below base W w) (hbs : base ≤ w.heap.size) (news : List UInt8) {cs : Array Value} {m c : Nat} (hx : a.eval x = .slice (some ⟨w.heap.size, 0, none⟩) m c) (hcs : cs = (bc news).toArray) (hm : m = news.length) (h0 : 0 < news.length) (hlen : row.length + news.length ≤ 100000000)
    (h : ∀ v' w', Buf w' base v' (row ++ news) → Below base W w' → base ≤ w'.heap.size → wpList Try.prog ops Q rest (a.put o.dst v') w') : wpList Try.prog ops Q (o :: rest) a (w.alloc (.cells cs 5)) := by
  obtain ⟨i0, hi, hz0, hz1, hz2⟩ := info_parts info_u8
  subst hcs hm
  refine wpList_append_own _ hgd s x 22 ho base 5 i0 (.int .u8 0) 1 1 Try.underlying22 hi hz0 hz1 hz2 rfl (by decide) v row.length (bc row) hs (hB.alloc _) ⟨w.heap.size, 0, none⟩ news.length c (bc news) hx (by rw [bc_len, Nat.mul_one]) (fun j u hu => new_row w (bc news) _ j u hu) ?_ (by unfold maxLen; omega) (by omega) (by simp; omega) ?_
  · intro u hu
    unfold bc at hu
    rw [List.mem_map] at hu
    obtain ⟨_, _, rfl⟩ := hu
    rfl
  · intro v' w' hown hgrow _
    have hb' := (hb.alloc hbs (.cells (bc news).toArray 5)).grown hgrow (by simp; omega) (fun k hk => (World.ownsRow.lt hB k hk).1)
    refine h v' w' ?_ hb' (Nat.le_trans hbs ?_)
    · unfold Buf
      rw [List.length_append]
      have : bc (row ++ news) = bc row ++ bc news := by unfold bc; rw [List.map_append]
      rw [this]; exact hown
    · exact Nat.le_trans (by simp) hgrow.size
/-- The same at a step of a region that draws its order. -/
theorem step_app {ops : Array Oper} {o : Oper} {a : Act} {K : Act → World → Prop} {Q : Exit → Act → World → Prop} {E : Prop} (hgd : o.guard = none) (s x : Operand) (ho : o.op = .call { callee := .builtin .append, args := #[s, x], argTypes := #[22, 22] })
    {W w : World} {base : Nat} {v : Value} {row : List UInt8} (hs : a.eval s = v) (hB : Buf w base v row) (hb : Below base W w) (hbs : base ≤ w.heap.size) (news : List UInt8) {cs : Array Value} {m c : Nat} (hx : a.eval x = .slice (some ⟨w.heap.size, 0, none⟩) m c) (hcs : cs = (bc news).toArray) (hm : m = news.length) (h0 : 0 < news.length) (hlen : row.length + news.length ≤ 100000000)
    (h : ∀ v' w', Buf w' base v' (row ++ news) → Below base W w' → base ≤ w'.heap.size → K (a.put o.dst v') w') : 
    if Region.wanted o (yielded ops a.tmps) = true then Oper.wp Try.prog o a (w.alloc (.cells cs 5)).drew K Q else E := by
  obtain ⟨i0, hi, hz0, hz1, hz2⟩ := info_parts info_u8
  subst hcs hm
  refine step_append_lies _ hgd s x 22 ho base 5 i0 (.int .u8 0) 1 1 Try.underlying22 hi hz0 hz1 hz2 rfl (by decide) v row.length (bc row) hs (hB.alloc _) ⟨w.heap.size, 0, none⟩ news.length c (bc news) hx (by rw [bc_len, Nat.mul_one]) (fun j u hu => new_row w (bc news) _ j u hu) ?_ h0 (by unfold maxLen; omega) (by omega) (by simp; omega) (w.heap.size + 1) (by simp) ?_
  · intro u hu
    unfold bc at hu
    rw [List.mem_map] at hu
    obtain ⟨_, _, rfl⟩ := hu
    rfl
  · intro g cap w' hown hgrow _ _
    have hd : Below base W (w.alloc (.cells (bc news).toArray 5)).drew := (hb.alloc hbs (.cells (bc news).toArray 5)).trans ⟨rfl, rfl, rfl, Nat.le_refl _, fun _ _ => rfl⟩
    have hb' := hd.grown hgrow (by simp; omega) (fun k hk => (World.ownsRow.lt hB k hk).1)
    refine h _ w' ?_ hb' (Nat.le_trans hbs ?_)
    · unfold Buf
      rw [List.length_append]
      have : bc (row ++ news) = bc row ++ bc news := by unfold bc; rw [List.map_append]
      rw [this]; exact hown
    · have := hgrow.size
      simp at this
      omega
end Go.Proofs.Ytacmallcfaokpaa.Bas
