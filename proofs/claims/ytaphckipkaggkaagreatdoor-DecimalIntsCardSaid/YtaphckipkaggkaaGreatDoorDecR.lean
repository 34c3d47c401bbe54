/-
  Contracts of package decimal: differences; plain facts of the ring.
-/
import Derived.Test.YtaphckipkaggkaaGreatDoorDecP
namespace Go.Proofs.YtaphckipkaggkaaGreatDoor.Dec
open Go.RowKit
set_option linter.unusedVariables false
set_option linter.unusedSimpArgs false
open Go.Proofs.YtaphckipkaggkaaGreatDoor.Dig

set_option maxRecDepth 100000 in
set_option maxHeartbeats 8000000 in
theorem neg_zero (g : Bool) (n : Nat) (x : Int) (w : World) (hn : n = 0) : Calls Tryz.prog 12 #[.agg #[.bool g, .string (S n), .int .i64 x]] w fun e w' => e = .returned (.agg #[.bool false, .string ⟨#[]⟩, .int .i64 0]) ∧ Below w.heap.size w w' := by
  have ey : (S n).toList = [] := tl_nil (by rw [hn]; rfl)
  clear hn
  go_enter Tryz.func12, Tryz.ntmps12
  go_wp2
  exact bodyPost_ret (v := .agg #[.bool false, .string ⟨#[]⟩, .int .i64 0]) (by simp [results, Tryz.results12, go_sem]) rfl ⟨rfl, ((Below.refl _ _).alloc (Nat.le_refl _) _).alloc (by simp) _⟩
set_option maxRecDepth 100000 in
set_option maxHeartbeats 8000000 in
theorem neg_pos (g : Bool) (n : Nat) (x : Int) (w : World) (hn : 0 < n) : Calls Tryz.prog 12 #[.agg #[.bool g, .string (S n), .int .i64 x]] w fun e w' => e = .returned (.agg #[.bool (!g), .string (S n), .int .i64 x]) ∧ Below w.heap.size w w' := by
  have ey := tl_ne (S_pos hn)
  have ey' := tl_ne' (S_pos hn)
  clear hn
  go_enter Tryz.func12, Tryz.ntmps12
  go_wp2
  exact bodyPost_ret (v := .agg #[.bool (!g), .string (S n), .int .i64 x]) (by simp [results, Tryz.results12, go_sem]) rfl ⟨rfl, ((Below.refl _ _).alloc (Nat.le_refl _) _).alloc (by simp) _⟩
def ngG (g : Bool) (n : Nat) : Bool := if n = 0 then false else !g
theorem ok_neg {g : Bool} {n : Nat} {x : Int} (h : okD g n x) : okD (ngG g n) n x ∧ V (ngG g n) n x = -V g n x := by
  unfold ngG
  rcases h with ⟨rfl, rfl, rfl⟩ | ⟨h, r⟩
  · exact ⟨.inl ⟨rfl, rfl, rfl⟩, by rw [V_zero, V_zero]; rfl⟩
  · rw [if_neg (by omega)]
    refine ⟨.inr ⟨h, r⟩, ?_⟩
    unfold V
    cases g <;> simp
theorem neg_any {g : Bool} {n : Nat} {x : Int} (w : World) (h : okD g n x) : Calls Tryz.prog 12 #[.agg #[.bool g, .string (S n), .int .i64 x]] w fun e w' => e = .returned (.agg #[.bool (ngG g n), .string (S n), .int .i64 x]) ∧ Below w.heap.size w w' := by
  rcases h with ⟨rfl, rfl, rfl⟩ | ⟨h, r⟩
  · exact neg_zero false 0 0 w rfl
  · rw [show ngG g n = !g from if_neg (by omega)]
    exact neg_pos g n x w h
def subR (g1 : Bool) (n1 : Nat) (x1 : Int) (g2 : Bool) (n2 : Nat) (x2 : Int) : Bool × Nat × Int × Int := addR g1 n1 x1 (ngG g2 n2) n2 x2
end Go.Proofs.YtaphckipkaggkaaGreatDoor.Dec
