/-
  The reference of package moment: pad, offset, clock.
-/
import Derived.Test.YtkbddelacjjapaaDoorMomP
import Derived.Test.YtkbddelacjjapaaDoorBits
namespace Go.Proofs.YtkbddelacjjapaaDoor.Mom
open Go.RowKit
set_option linter.unusedVariables false
set_option linter.unusedSimpArgs false
theorem pd_cons : ∀ (i n : Nat), pd (i + 1) n = UInt8.ofNat (48 + n / 10 ^ i % 10) :: pd i n := by
  intro i
  induction i with
  | zero => intro n; unfold pd; unfold pd; simp
  | succ i ih =>
    intro n
    show pd (i + 1) (n / 10) ++ [UInt8.ofNat (48 + n % 10)] = _ :: (pd i (n / 10) ++ [UInt8.ofNat (48 + n % 10)])
    rw [ih (n / 10), Nat.div_div_eq_div_mul, ← Nat.pow_succ']
    rfl
theorem conv_one (w : World) (c : UInt8) (v : Int) (hv : v = (c.toNat : Int)) : (convert 83 9 (.slice (some ⟨w.heap.size, 0, none⟩) 1 1)).run Tryd.prog (w.alloc (.cells #[.int .u8 v] 5)) = .ok (.string ⟨#[c]⟩) (w.alloc (.cells #[.int .u8 v] 5)) :=
  conv_cells w [c] [v] (by rw [hv]; rfl) 9 Tryd.underlying9
theorem trim_48 (l : List UInt8) : Lib.trimRightB (l ++ [48]) 48 = Lib.trimRightB l 48 := by
  unfold Lib.trimRightB
  rw [List.reverse_append]
  simp
theorem trim_ne (l : List UInt8) (c : UInt8) (h : c ≠ 48) : Lib.trimRightB (l ++ [c]) 48 = l ++ [c] := by
  unfold Lib.trimRightB
  rw [List.reverse_append]
  simp [h]
theorem last_of (s : ByteArray) (m : Nat) (h : s.size = m + 1) : s.data.toList = (s.extract 0 m).data.toList ++ [s[m]] := by
  obtain ⟨⟨l⟩⟩ := s
  have h2 : l.length = m + 1 := h
  rw [ByteArray.data_extract]
  show l = ((⟨l⟩ : Array UInt8).extract 0 m).toList ++ [l[m]]
  rw [Array.toList_extract]
  apply List.ext_getElem
  · simp; omega
  · intro i h1 h3
    by_cases hi : i < m
    · rw [List.getElem_append_left (by simp; omega)]
      simp
    · obtain rfl : i = m := by omega
      rw [List.getElem_append_right (by simp; omega)]
      simp
theorem dw_nil (p : UInt8 → Bool) : ∀ l : List UInt8, l.dropWhile p = [] → ∀ c ∈ l, p c = true := by
  intro l
  induction l with
  | nil => intro _ c hc; cases hc
  | cons a t ih =>
    intro h c hc
    cases hp : p a with
    | false => rw [List.dropWhile_cons, hp] at h; simp at h
    | true =>
      rw [List.dropWhile_cons, hp] at h
      rcases List.mem_cons.1 hc with rfl | hm
      · exact hp
      · exact ih (by simpa using h) c hm
theorem pd_nil : ∀ (k m : Nat), m < 10 ^ k → (∀ c ∈ pd k m, c = 48) → m = 0 := by
  intro k
  induction k with
  | zero => intro m h _; simpa using h
  | succ k ih =>
    intro m h hc
    unfold pd at hc
    have h1 := ih (m / 10) (by rw [Nat.pow_succ] at h; omega) (fun c hm => hc c (List.mem_append_left _ hm))
    have h2 := hc (UInt8.ofNat (48 + m % 10)) (by simp)
    have h3 := congrArg UInt8.toNat h2
    rw [UInt8.toNat_ofNat'] at h3
    have : (48 : UInt8).toNat = 48 := rfl
    omega
theorem trim_nil (m : Nat) (h : m < 1000000000) : Lib.trimRightB (pd 9 m) 48 = [] ↔ m = 0 := by
  constructor
  · intro e
    refine pd_nil 9 m h ?_
    unfold Lib.trimRightB at e
    rw [List.reverse_eq_nil_iff] at e
    intro c hc
    simpa using dw_nil _ _ e c (List.mem_reverse.2 hc)
  · rintro rfl; rfl
theorem ba_list {a b : ByteArray} (h : a.data.toList = b.data.toList) : a = b := by
  cases a; cases b; congr; exact Array.toList_inj.1 h
end Go.Proofs.YtkbddelacjjapaaDoor.Mom
