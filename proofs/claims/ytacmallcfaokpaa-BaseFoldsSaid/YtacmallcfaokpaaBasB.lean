/-
  Contracts of package base and its reference: hexadecimal texts.
-/
import Derived.Test.YtacmallcfaokpaaBasA
namespace Go.Proofs.Ytacmallcfaokpaa.Bas
open Go.RowKit
set_option linter.unusedVariables false
set_option linter.unusedSimpArgs false

def H16 : ByteArray := ⟨#[48, 49, 50, 51, 52, 53, 54, 55, 56, 57, 97, 98, 99, 100, 101, 102]⟩
def hd (n : Nat) : UInt8 := H16.data.toList.getD n 0
def hexL : List UInt8 → List UInt8
  | [] => []
  | c :: l => hd (c.toNat / 16) :: hd (c.toNat % 16) :: hexL l
theorem hexL_app (a b : List UInt8) : hexL (a ++ b) = hexL a ++ hexL b := by
  induction a with
  | nil => rfl
  | cons c a ih => simp [hexL, ih]
theorem hexL_len (l : List UInt8) : (hexL l).length = 2 * l.length := by
  induction l with
  | nil => rfl
  | cons c l ih => simp [hexL, ih]; omega
theorem hexL_succ {l : List UInt8} {k : Nat} (h : k < l.length) : hexL (l.take (k + 1)) = hexL (l.take k) ++ [hd ((l.getD k 0).toNat / 16), hd ((l.getD k 0).toNat % 16)] := by
  rw [List.take_succ_eq_append_getElem h, hexL_app, List.getD_eq_getElem?_getD, List.getElem?_eq_getElem h]
  rfl
theorem hd_at {n : Nat} (h : n < 16) : ∀ (h' : n < H16.size), (H16[n]).toNat = (hd n).toNat := by
  intro h'
  unfold hd
  rw [List.getD_eq_getElem?_getD, List.getElem?_eq_getElem (by exact h')]
  rfl
theorem wraps_u8 (n : Int) (h₀ : 0 ≤ n) (h₁ : n < 2 ^ 8) : IntKind.u8.wrap n = n := by rw [IntKind.wrap_u8]; omega
theorem and15 (x : Nat) (h : x < 256) : bits .and .u8 (x : Int) 15 = ((x % 16 : Nat) : Int) := by
  have := bits_mask .u8 8 (by decide) wraps_u8 4 (by omega) (x : Int) (by omega) (by omega)
  rw [show (15 : Int) = 2 ^ 4 - 1 from rfl, this]; omega
theorem hd_cells {p q : Nat} (hp : p < H16.size) (hq : q < H16.size) : #[Value.int .u8 (H16[p]).toNat, Value.int .u8 (H16[q]).toNat] = (bc [hd p, hd q]).toArray := by
  rw [hd_at hp hp, hd_at hq hq]; rfl
set_option maxRecDepth 100000 in
set_option maxHeartbeats 1000000 in
theorem hex_row (g o cap : Nat) (l : List UInt8) (w : World) (hl : l.length ≤ 4000) (hg : g < w.heap.size) (hc : ∀ i, i < l.length → w.cell? ⟨g, o + i, none⟩ = some (.int .u8 ((l.getD i 0).toNat : Int))) (hcap : l.length ≤ cap) : Calls Try.prog 13 #[.slice (some ⟨g, o, none⟩) l.length cap] w fun e w' => e = .returned (.string ⟨(hexL l).toArray⟩) ∧ Below w.heap.size w w' := by
  obtain ⟨n, hn⟩ : ∃ n, l.length = n := ⟨_, rfl⟩
  rw [hn] at hl hcap hc ⊢
  have hmk : ∀ w : World, (Instr.makeSlice 22 (.int .i64 0) (.int .i64 (2 * (n : Int)))).run Try.prog w = .ok (.slice (some ⟨w.heap.size, 0, none⟩) 0 (2 * n)) (w.alloc (.cells (madeCells #[.int .u8 0] (2 * n)) 5)) := fun w => mk_room (2 * n) (by omega) w
  have HC := Lib.hid hc
  have HN := Lib.hid hn
  clear hc hn
  go_enter Try.func13, Try.ntmps13
  go_wp2
  go_loopw [3, 12] (fun t i wr => ∃ k : Nat, k ≤ n ∧ i = .int .i64 k ∧ Below w.heap.size w wr ∧ w.heap.size ≤ wr.heap.size ∧ Hid (Buf wr w.heap.size t (hexL (l.take k)))) (fun _ i _ => n - (intOf i).toNat)
  case atStart => exact ⟨0, by omega, rfl, (Below.refl _ _).alloc (Nat.le_refl _) _, by simp, Lib.hid (Buf.room w (2 * n) (by omega))⟩
  case round =>
    obtain ⟨k, hk, rfl, hb, hbs, HB⟩ := hrel
    by_cases hlt : k < n
    · have HS := Lib.hid (hexL_succ (l := l) (k := k) (by rw [HN.out]; exact hlt))
      have hcell := HC.out k hlt
      have hx := UInt8.toNat_lt (l.getD k 0)
      have hcell2 := (hb.cell (p := ⟨g, o + k, none⟩) hg).trans hcell
      clear hcell
      generalize (l.getD k 0).toNat = x at *
      obtain ⟨p, hp⟩ : ∃ p : Nat, x / 16 = p := ⟨_, rfl⟩
      obtain ⟨q, hq⟩ : ∃ q : Nat, x % 16 = q := ⟨_, rfl⟩
      have e1 : (x : Int) / 16 = (p : Int) := by omega
      have e2 : bits .and .u8 (x : Int) 15 = (q : Int) := by rw [and15 x (by omega), hq]
      have p16 : p < 16 := by omega
      have q16 : q < 16 := by omega
      have HX := Lib.hid (hd_cells p16 q16)
      have HL : Hid ((hexL (l.take k)).length + [hd p, hd q].length ≤ 100000000) := Lib.hid (by rw [hexL_len, List.length_take]; show _ + 2 ≤ _; omega)
      have b3 : (0 : Int) ≤ (p : Int) := by omega
      have b4 : (0 : Int) ≤ (q : Int) := by omega
      have b1 : (p : Int) < 16 := by omega
      have b2 : (q : Int) < 16 := by omega
      rw [hp, hq] at HS
      clear hp hq
      go_wp2
      go_region_held3 (fun w' => True) (trivial) ((refine step_app (W := w) (by rfl) (.tmp 16) (.tmp 23) (by rfl) (by rfl) HB.out hb hbs [hd p, hd q] (by rfl) (HX.out) (by rfl) (by simp) HL.out ?_; intro v' w' hB' hb' hbs'; have hB' := Lib.hid hB'))
      all_goals
        go_wp2
        exact ⟨⟨k + 1, by omega, by go_num, hb', hbs', Lib.hid (by rw [HS.out]; exact hB'.out)⟩, by simp [intOf]; omega⟩
    · have hcv := HB.out.bs.conv 9 Try.underlying9
      have HE : Hid (hexL (l.take k) = hexL l) := Lib.hid (by rw [List.take_of_length_le (by rw [HN.out]; omega)])
      rw [HE.out] at hcv
      go_wp2
      go_ret
      exact ⟨rfl, hb⟩
theorem hex_any (v : Value) (l : List UInt8) (w : World) (h : Bs w w.heap.size v l) (hl : l.length ≤ 4000) : Calls Try.prog 13 #[v] w fun e w' => e = .returned (.string ⟨(hexL l).toArray⟩) ∧ Below w.heap.size w w' := by
  rcases h with ⟨a0, c0, rfl, rfl⟩ | ⟨g, o, cap, rfl, hg, h1, h2, h3⟩
  · have hmk : ∀ w : World, (Instr.makeSlice 22 (.int .i64 0) (.int .i64 0)).run Try.prog w = .ok (.slice (some ⟨w.heap.size, 0, none⟩) 0 0) (w.alloc (.cells (madeCells #[.int .u8 0] 0) 5)) := fun w => mk_room 0 (by omega) w
    have hcv := fun w => (show Bs w w.heap.size (.slice none 0 0) [] from .inl ⟨_, _, rfl, rfl⟩).conv 9 Try.underlying9
    have hcw := (Buf.room w 0 (by omega)).bs.conv 9 Try.underlying9
    go_enter Try.func13, Try.ntmps13
    go_wp2
    go_loopw [3, 12] (fun t i wr => t = .slice (some ⟨w.heap.size, 0, none⟩) 0 0 ∧ i = .int .i64 0 ∧ wr = w.alloc (.cells (madeCells #[.int .u8 0] 0) 5)) (fun _ _ _ => 0)
    case atStart => exact ⟨rfl, rfl, rfl⟩
    case round =>
      obtain ⟨rfl, rfl, rfl⟩ := hrel
      go_wp2
      go_ret
      exact ⟨rfl, (Below.refl _ _).alloc (Nat.le_refl _) _⟩
  · exact hex_row g o cap l w hl hg h3 h1
set_option maxRecDepth 100000 in
set_option maxHeartbeats 1000000 in
theorem rhex_row (g o cap : Nat) (l : List UInt8) (w : World) (hl : l.length ≤ 4000) (hg : g < w.heap.size) (hc : ∀ i, i < l.length → w.cell? ⟨g, o + i, none⟩ = some (.int .u8 ((l.getD i 0).toNat : Int))) (hcap : l.length ≤ cap) : Calls Try.prog 14 #[.slice (some ⟨g, o, none⟩) l.length cap] w fun e w' => e = .returned (.string ⟨(hexL l).toArray⟩) ∧ Below w.heap.size w w' := by
  obtain ⟨n, hn⟩ : ∃ n, l.length = n := ⟨_, rfl⟩
  rw [hn] at hl hcap hc ⊢
  have HC := Lib.hid hc
  have HN := Lib.hid hn
  clear hc hn
  go_enter Try.func14, Try.ntmps14
  go_wp2
  go_loopw [3, 4] (fun t i wr => ∃ k : Nat, k ≤ n ∧ i = .int .i64 k ∧ Below w.heap.size w wr ∧ w.heap.size ≤ wr.heap.size ∧ Hid (Buf wr w.heap.size t (hexL (l.take k)))) (fun _ i _ => n - (intOf i).toNat)
  case atStart => exact ⟨0, by omega, rfl, Below.refl _ _, by omega, Lib.hid (Buf.nil _ _)⟩
  case round =>
    obtain ⟨k, hk, rfl, hb, hbs, HB⟩ := hrel
    by_cases hlt : k < n
    · have HS := Lib.hid (hexL_succ (l := l) (k := k) (by rw [HN.out]; exact hlt))
      have hcell := HC.out k hlt
      have hx := UInt8.toNat_lt (l.getD k 0)
      have hcell2 := (hb.cell (p := ⟨g, o + k, none⟩) hg).trans hcell
      have hc0 := Lib.hid hcell
      clear hcell
      generalize (l.getD k 0).toNat = x at *
      obtain ⟨p, hp⟩ : ∃ p : Nat, x / 16 = p := ⟨_, rfl⟩
      obtain ⟨q, hq⟩ : ∃ q : Nat, x % 16 = q := ⟨_, rfl⟩
      have e1 : (x : Int) / 16 = (p : Int) := by omega
      have e2 : bits .and .u8 (x : Int) 15 = (q : Int) := by rw [and15 x (by omega), hq]
      have p16 : p < 16 := by omega
      have q16 : q < 16 := by omega
      have HX := Lib.hid (hd_cells p16 q16)
      have HL : Hid ((hexL (l.take k)).length + [hd p, hd q].length ≤ 100000000) := Lib.hid (by rw [hexL_len, List.length_take]; show _ + 2 ≤ _; omega)
      have b3 : (0 : Int) ≤ (p : Int) := by omega
      have b4 : (0 : Int) ≤ (q : Int) := by omega
      have b1 : (p : Int) < 16 := by omega
      have b2 : (q : Int) < 16 := by omega
      rw [hp, hq] at HS
      clear hp hq
      go_wp2
      go_region_held3 (fun w' => w'.cell? ⟨g, o + k, none⟩ = some (.int .u8 (x : Int))) (go_keep) ((refine step_app (W := w) (by rfl) (.tmp 11) (.tmp 24) (by rfl) (by rfl) HB.out hb hbs [hd p, hd q] (by rfl) (HX.out) (by rfl) (by simp) HL.out ?_; intro v' w' hB' hb' hbs'; have hB' := Lib.hid hB'; have hcell3 := (hb'.cell (p := ⟨g, o + k, none⟩) hg).trans (hc0.out); have hcell4 := hcell3))
      all_goals
        go_wp2
        exact ⟨⟨k + 1, by omega, by go_num, hb', hbs', Lib.hid (by rw [HS.out]; exact hB'.out)⟩, by simp [intOf]; omega⟩
    · have hcv := HB.out.bs.conv 9 Try.underlying9
      have HE : Hid (hexL (l.take k) = hexL l) := Lib.hid (by rw [List.take_of_length_le (by rw [HN.out]; omega)])
      rw [HE.out] at hcv
      go_wp2
      go_ret
      exact ⟨rfl, hb⟩
theorem rhex_any (v : Value) (l : List UInt8) (w : World) (h : Bs w w.heap.size v l) (hl : l.length ≤ 4000) : Calls Try.prog 14 #[v] w fun e w' => e = .returned (.string ⟨(hexL l).toArray⟩) ∧ Below w.heap.size w w' := by
  rcases h with ⟨a0, c0, rfl, rfl⟩ | ⟨g, o, cap, rfl, hg, h1, h2, h3⟩
  · have hmk : ∀ w : World, (Instr.makeSlice 22 (.int .i64 0) (.int .i64 0)).run Try.prog w = .ok (.slice (some ⟨w.heap.size, 0, none⟩) 0 0) (w.alloc (.cells (madeCells #[.int .u8 0] 0) 5)) := fun w => mk_room 0 (by omega) w
    have hcv := fun w => (show Bs w w.heap.size (.slice none 0 0) [] from .inl ⟨_, _, rfl, rfl⟩).conv 9 Try.underlying9
    have hcw := (Buf.room w 0 (by omega)).bs.conv 9 Try.underlying9
    go_enter Try.func14, Try.ntmps14
    go_wp2
    go_loopw [3, 4] (fun t i wr => t = .slice none 0 0 ∧ i = .int .i64 0 ∧ wr = w) (fun _ _ _ => 0)
    case atStart => exact ⟨rfl, rfl, rfl⟩
    case round =>
      obtain ⟨rfl, rfl, rfl⟩ := hrel
      go_wp2
      go_ret
      exact ⟨rfl, Below.refl _ _⟩
  · exact rhex_row g o cap l w hl hg h3 h1
end Go.Proofs.Ytacmallcfaokpaa.Bas
