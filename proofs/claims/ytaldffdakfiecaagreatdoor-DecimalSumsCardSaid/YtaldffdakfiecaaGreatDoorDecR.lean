/-
  Contracts of package decimal: differences; plain facts of the ring.
-/
import Derived.Test.YtaldffdakfiecaaGreatDoorDecP
namespace Go.Proofs.YtaldffdakfiecaaGreatDoor.Dec
open Go.RowKit
set_option linter.unusedVariables false
set_option linter.unusedSimpArgs false
open Go.Proofs.YtaldffdakfiecaaGreatDoor.Dig

set_option maxRecDepth 100000 in
set_option maxHeartbeats 8000000 in
theorem neg_zero (g : Bool) (n : Nat) (x : Int) (w : World) (hn : n = 0) : Calls Tryz.prog 22 #[.agg #[.bool g, .string (S n), .int .i64 x]] w fun e w' => e = .returned (.agg #[.bool false, .string ⟨#[]⟩, .int .i64 0]) ∧ Below w.heap.size w w' := by
  have ey : (S n).toList = [] := tl_nil (by rw [hn]; rfl)
  clear hn
  go_enter Tryz.func22, Tryz.ntmps22
  go_wp2
  exact bodyPost_ret (v := .agg #[.bool false, .string ⟨#[]⟩, .int .i64 0]) (by simp [results, Tryz.results22, go_sem]) rfl ⟨rfl, ((Below.refl _ _).alloc (Nat.le_refl _) _).alloc (by simp) _⟩
set_option maxRecDepth 100000 in
set_option maxHeartbeats 8000000 in
theorem neg_pos (g : Bool) (n : Nat) (x : Int) (w : World) (hn : 0 < n) : Calls Tryz.prog 22 #[.agg #[.bool g, .string (S n), .int .i64 x]] w fun e w' => e = .returned (.agg #[.bool (!g), .string (S n), .int .i64 x]) ∧ Below w.heap.size w w' := by
  have ey := tl_ne (S_pos hn)
  have ey' := tl_ne' (S_pos hn)
  clear hn
  go_enter Tryz.func22, Tryz.ntmps22
  go_wp2
  exact bodyPost_ret (v := .agg #[.bool (!g), .string (S n), .int .i64 x]) (by simp [results, Tryz.results22, go_sem]) rfl ⟨rfl, ((Below.refl _ _).alloc (Nat.le_refl _) _).alloc (by simp) _⟩
def ngG (g : Bool) (n : Nat) : Bool := if n = 0 then false else !g
theorem ok_neg {g : Bool} {n : Nat} {x : Int} (h : okD g n x) : okD (ngG g n) n x ∧ V (ngG g n) n x = -V g n x := by
  unfold ngG
  rcases h with ⟨rfl, rfl, rfl⟩ | ⟨h, r⟩
  · exact ⟨.inl ⟨rfl, rfl, rfl⟩, by rw [V_zero, V_zero]; rfl⟩
  · rw [if_neg (by omega)]
    refine ⟨.inr ⟨h, r⟩, ?_⟩
    unfold V
    cases g <;> simp
theorem neg_any {g : Bool} {n : Nat} {x : Int} (w : World) (h : okD g n x) : Calls Tryz.prog 22 #[.agg #[.bool g, .string (S n), .int .i64 x]] w fun e w' => e = .returned (.agg #[.bool (ngG g n), .string (S n), .int .i64 x]) ∧ Below w.heap.size w w' := by
  rcases h with ⟨rfl, rfl, rfl⟩ | ⟨h, r⟩
  · exact neg_zero false 0 0 w rfl
  · rw [show ngG g n = !g from if_neg (by omega)]
    exact neg_pos g n x w h
def subR (g1 : Bool) (n1 : Nat) (x1 : Int) (g2 : Bool) (n2 : Nat) (x2 : Int) : Bool × Nat × Int × Int := addR g1 n1 x1 (ngG g2 n2) n2 x2
set_option maxRecDepth 100000 in
set_option maxHeartbeats 8000000 in
theorem dsub_any (g1 : Bool) (n1 : Nat) (x1 : Int) (g2 : Bool) (n2 : Nat) (x2 : Int) (w : World) (h1 : okD g1 n1 x1) (h2 : okD g2 n2 x2) : Calls Tryz.prog 7 #[.agg #[.bool g1, .string (S n1), .int .i64 x1], .agg #[.bool g2, .string (S n2), .int .i64 x2]] w fun e w' => e = retR (subR g1 n1 x1 g2 n2 x2) ∧ Below w.heap.size w w' := by
  have HT := Lib.hid (T3.new w g1 (S n1) x1 g2 (S n2) x2)
  have HN := Lib.hid (fun w => neg_any w h2)
  have HA := Lib.hid (fun w => dadd_any g1 n1 x1 (ngG g2 n2) n2 x2 w h1 (ok_neg h2).1)
  unfold subR retR
  unfold retR at HA
  obtain ⟨ra, rn, rc, rd, hR⟩ : ∃ a b c d, addR g1 n1 x1 (ngG g2 n2) n2 x2 = (a, b, c, d) := ⟨_, _, _, _, rfl⟩
  rw [hR] at HA ⊢
  simp only at HA ⊢
  obtain ⟨rb, hrb⟩ : ∃ b, S rn = b := ⟨_, rfl⟩
  rw [hrb] at HA ⊢
  generalize ngG g2 n2 = gn at *
  clear h1 h2 hR hrb
  go_enter Tryz.func7, Tryz.ntmps7
  go_wp2
  have T := HT.out.four
  go_region_held3 (fun (W : World) => T4 w W g1  (S n1) x1 g2 (S n2) x2 ∧ W.cell? ⟨w.heap.size, 0, none⟩ = some (.bool g1) ∧ W.cell? ⟨w.heap.size, 1, none⟩ = some (.string (S n1)) ∧ W.cell? ⟨w.heap.size, 2, none⟩ = some (.int .i64 x1) ∧ W.cell? ⟨w.heap.size + 1, 0, none⟩ = some (.bool g2) ∧ W.cell? ⟨w.heap.size + 1, 1, none⟩ = some (.string (S n2)) ∧ W.cell? ⟨w.heap.size + 1, 2, none⟩ = some (.int .i64 x2)) ((first | (go_split_ands; exact T4.all (by assumption)) | (go_split_ands; exact T4.all (T4.d (by assumption))) | (go_split_ands; exact T4.all (T4.step hX (by assumption))) | (go_split_ands; exact T4.all (T4.put (by assumption) _ _ _)))) (first | (go_at_call 22; (with_reducible refine (HN.out _).mono ?_); rintro e wn ⟨rfl, hX⟩) | (go_at_call 6; (with_reducible refine (HA.out _).mono ?_); rintro e wn ⟨rfl, hX⟩) | (go_split_ands; obtain ⟨g0, s0, z0, hD⟩ := T4.c (by assumption); obtain ⟨c0, c1, c2⟩ := hD.cells; have y0 := hD.fz 0; have y1 := hD.fz 1; have y2 := hD.fz 2; go_simp))
  rename_i hH
  have bl := hH.1.bel
  clear hH T
  go_wp2
  exact bodyPost_ret (v := .tuple #[.agg #[.bool ra, .string rb, .int .i64 rc], .int .i64 rd]) (by simp [results, Tryz.results7, go_sem, c0, c1, c2]) rfl ⟨rfl, bl⟩
end Go.Proofs.YtaldffdakfiecaaGreatDoor.Dec
