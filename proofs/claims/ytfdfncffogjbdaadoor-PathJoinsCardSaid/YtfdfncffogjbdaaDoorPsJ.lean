/-
  Package path: the order of paths.
-/
import Derived.Test.YtfdfncffogjbdaaDoorPsI
import Derived.Sort.Walk0
namespace Go.Proofs.YtfdfncffogjbdaaDoor.Ps
open Go.RowKit
set_option linter.unusedVariables false
set_option linter.unusedSimpArgs false
open RO

def icm (x y : Int) : Int := if x < y then -1 else if y < x then 1 else 0
def cb (l m : List UInt8) : Int := Lib.compareBytes l m
theorem cb_way : ∀ (l m : List UInt8), (l < m ∧ cb l m = -1) ∨ (l = m ∧ cb l m = 0) ∨ (m < l ∧ cb l m = 1)
  | [], [] => .inr (.inl ⟨rfl, rfl⟩)
  | [], _ :: _ => .inl ⟨List.nil_lt_cons _ _, rfl⟩
  | _ :: _, [] => .inr (.inr ⟨List.nil_lt_cons _ _, rfl⟩)
  | a :: l, b :: m => by
    unfold cb Lib.compareBytes
    by_cases h1 : a < b
    · rw [if_pos h1]
      exact .inl ⟨List.cons_lt_cons_iff.2 (.inl h1), rfl⟩
    rw [if_neg h1]
    by_cases h2 : b < a
    · rw [if_pos h2]
      exact .inr (.inr ⟨List.cons_lt_cons_iff.2 (.inl h2), rfl⟩)
    rw [if_neg h2]
    have e : a = b := by
      have h3 : ¬ a.toNat < b.toNat := h1
      have h4 : ¬ b.toNat < a.toNat := h2
      exact UInt8.toNat_inj.1 (by omega)
    subst e
    rcases cb_way l m with ⟨h, hc⟩ | ⟨h, hc⟩ | ⟨h, hc⟩
    · exact .inl ⟨List.cons_lt_cons_iff.2 (.inr ⟨rfl, h⟩), hc⟩
    · exact .inr (.inl ⟨by rw [h], hc⟩)
    · exact .inr (.inr ⟨List.cons_lt_cons_iff.2 (.inr ⟨rfl, h⟩), hc⟩)
/-- The order of two steps. -/
def cS (d e : St) : Int := if d.b = e.b then (if d.b = true then icm d.x e.x else cb d.s.data.toList e.s.data.toList) else if d.b = true then -1 else 1
def cmpL : List St → List St → Int
  | [], [] => 0
  | [], _ :: _ => -1
  | _ :: _, [] => 1
  | d :: l, e :: m => if cS d e ≠ 0 then cS d e else cmpL l m
theorem cmpL_step {L M : List St} {k : Nat} {d e : St} (h1 : L[k]? = some d) (h2 : M[k]? = some e) : cmpL (L.drop k) (M.drop k) = if cS d e ≠ 0 then cS d e else cmpL (L.drop (k + 1)) (M.drop (k + 1)) := by
  rw [drop_st h1, drop_st h2]; rfl
theorem cmpL_long {L M : List St} {k : Nat} {d : St} (h1 : L[k]? = some d) (h2 : M.length ≤ k) : cmpL (L.drop k) (M.drop k) = 1 := by
  rw [drop_st h1, List.drop_eq_nil_of_le h2]; rfl
theorem cmpL_short {L M : List St} {k : Nat} {d : St} (h1 : M[k]? = some d) (h2 : L.length ≤ k) : cmpL (L.drop k) (M.drop k) = -1 := by
  rw [drop_st h1, List.drop_eq_nil_of_le h2]; rfl
theorem cmpL_end {L M : List St} {k : Nat} (h1 : L.length ≤ k) (h2 : M.length ≤ k) : cmpL (L.drop k) (M.drop k) = 0 := by
  rw [List.drop_eq_nil_of_le h1, List.drop_eq_nil_of_le h2]; rfl
theorem two_st (w : World) (db : Bool) (ds : ByteArray) (dx : Int) (eb : Bool) (es : ByteArray) (ex : Int) : ∃ W, W = (w.alloc (.cells #[.bool db, .string ds, .int .i64 dx] 26)).alloc (.cells #[.bool eb, .string es, .int .i64 ex] 26) ∧ SC W w.heap.size db ds dx ∧ SC W (w.heap.size + 1) eb es ex ∧ Below w.heap.size w W := by
  refine ⟨_, rfl, (SC.new w db ds dx).alloc _, ?_, ((Below.refl _ _).alloc (Nat.le_refl _) _).alloc (by simp) _⟩
  have := SC.new (w.alloc (.cells #[.bool db, .string ds, .int .i64 dx] 26)) eb es ex
  simpa using this
set_option maxRecDepth 100000 in
set_option maxHeartbeats 4000000 in
theorem csteps_any (db : Bool) (ds : ByteArray) (dx : Int) (eb : Bool) (es : ByteArray) (ex : Int) (w : World)  : Calls Tryd.prog 45 #[.agg #[.bool db, .string ds, .int .i64 dx], .agg #[.bool eb, .string es, .int .i64 ex]] w fun e w' => e = .returned (.int .i64 (cS ⟨db, ds, dx⟩ ⟨eb, es, ex⟩)) ∧ Below w.heap.size w w' := by
  obtain ⟨W0, rfl, A, B, bl⟩ := two_st w db ds dx eb es ex
  obtain ⟨a0, a1, a2⟩ := A.cells
  obtain ⟨b0, b1, b2⟩ := B.cells
  have HC : Hid (∀ w, Calls Tryd.prog 63 #[.string ds, .string es] w fun e w' => e = .returned (.int .i64 (cb ds.data.toList es.data.toList)) ∧ w' = w) := Lib.hid (fun w => Tryd.strings_Compare ds es w)
  cases db
  · cases eb
    · have HZ : Hid (cS ⟨false, ds, dx⟩ ⟨false, es, ex⟩ = cb ds.data.toList es.data.toList) := Lib.hid rfl
      go_enter Tryd.func45, Tryd.ntmps45
      go_wp2_with (go_at_call 63; (with_reducible refine (HC.out _).mono ?_); rintro e w1 ⟨rfl, rfl⟩)
      go_ret
      exact ⟨ret_int HZ.out.symm, bl⟩
    · skip
      have HZ : Hid (cS ⟨false, ds, dx⟩ ⟨true, es, ex⟩ = 1) := Lib.hid (rfl)
      go_enter Tryd.func45, Tryd.ntmps45
      go_wp2
      go_ret
      exact ⟨ret_int HZ.out.symm, bl⟩
  · cases eb
    · skip
      have HZ : Hid (cS ⟨true, ds, dx⟩ ⟨false, es, ex⟩ = -1) := Lib.hid (rfl)
      go_enter Tryd.func45, Tryd.ntmps45
      go_wp2
      go_ret
      exact ⟨ret_int HZ.out.symm, bl⟩
    · rcases (show dx < ex ∨ ex < dx ∨ dx = ex by omega) with h | h | h
      · skip
        have HZ : Hid (cS ⟨true, ds, dx⟩ ⟨true, es, ex⟩ = -1) := Lib.hid (by show icm dx ex = -1; unfold icm; rw [if_pos h])
        go_enter Tryd.func45, Tryd.ntmps45
        go_wp2
        go_ret
        exact ⟨ret_int HZ.out.symm, bl⟩
      · skip
        have HZ : Hid (cS ⟨true, ds, dx⟩ ⟨true, es, ex⟩ = 1) := Lib.hid (by show icm dx ex = 1; unfold icm; rw [if_neg (by omega), if_pos h])
        go_enter Tryd.func45, Tryd.ntmps45
        go_wp2
        go_ret
        exact ⟨ret_int HZ.out.symm, bl⟩
      · subst h
        have HZ : Hid (cS ⟨true, ds, dx⟩ ⟨true, es, dx⟩ = 0) := Lib.hid (by show icm dx dx = 0; unfold icm; rw [if_neg (by omega), if_neg (by omega)])
        go_enter Tryd.func45, Tryd.ntmps45
        go_wp2
        go_ret
        exact ⟨ret_int HZ.out.symm, bl⟩
set_option maxRecDepth 100000 in
set_option maxHeartbeats 4000000 in
theorem rsteps_any (db : Bool) (ds : ByteArray) (dx : Int) (eb : Bool) (es : ByteArray) (ex : Int) (w : World) (hd : stV ⟨db, ds, dx⟩ = true) (he : stV ⟨eb, es, ex⟩ = true) : Calls Tryd.prog 46 #[.agg #[.bool db, .string ds, .int .i64 dx], .agg #[.bool eb, .string es, .int .i64 ex]] w fun e w' => e = .returned (.int .i64 (cS ⟨db, ds, dx⟩ ⟨eb, es, ex⟩)) ∧ Below w.heap.size w w' := by
  obtain ⟨W0, rfl, A, B, bl⟩ := two_st w db ds dx eb es ex
  obtain ⟨a0, a1, a2⟩ := A.cells
  obtain ⟨b0, b1, b2⟩ := B.cells
  cases db
  · rw [stV_f, Bool.and_eq_true, decide_eq_true_eq] at hd
    obtain ⟨⟨rfl, _⟩, _⟩ := hd
    cases eb
    · rw [stV_f, Bool.and_eq_true, decide_eq_true_eq] at he
      obtain ⟨⟨rfl, _⟩, _⟩ := he
      rcases cb_way ds.data.toList es.data.toList with ⟨h, hc⟩ | ⟨h, hc⟩ | ⟨h, hc⟩
      · have q1 : (ds.toList == es.toList) = false := by
          rw [beq_eq_false_iff_ne, Ne, tl_inj]
          intro e
          rw [e] at h
          exact absurd h (List.lt_irrefl _)
        have q2 : Op.bytesLess ds.toList es.toList = true := by rw [bytesLess_eq, ByteArray.toList_eq, ByteArray.toList_eq]; exact decide_eq_true h
        have HZ : Hid (cS ⟨false, ds, 0⟩ ⟨false, es, 0⟩ = -1) := Lib.hid (hc)
        go_enter Tryd.func46, Tryd.ntmps46
        go_wp2
        go_ret
        exact ⟨ret_int HZ.out.symm, bl⟩
      · have e : ds = es := tl_inj.1 (by rw [ByteArray.toList_eq, ByteArray.toList_eq]; exact h)
        subst e
        have HZ : Hid (cS ⟨false, ds, 0⟩ ⟨false, ds, 0⟩ = 0) := Lib.hid (hc)
        go_enter Tryd.func46, Tryd.ntmps46
        go_wp2
        go_ret
        exact ⟨ret_int HZ.out.symm, bl⟩
      · have q1 : (ds.toList == es.toList) = false := by
          rw [beq_eq_false_iff_ne, Ne, tl_inj]
          intro e
          rw [e] at h
          exact absurd h (List.lt_irrefl _)
        have q2 : Op.bytesLess ds.toList es.toList = false := by rw [bytesLess_eq, ByteArray.toList_eq, ByteArray.toList_eq]; exact decide_eq_false (List.lt_asymm h)
        have HZ : Hid (cS ⟨false, ds, 0⟩ ⟨false, es, 0⟩ = 1) := Lib.hid (hc)
        go_enter Tryd.func46, Tryd.ntmps46
        go_wp2
        go_ret
        exact ⟨ret_int HZ.out.symm, bl⟩
    · skip
      have HZ : Hid (cS ⟨false, ds, 0⟩ ⟨true, es, ex⟩ = 1) := Lib.hid (rfl)
      go_enter Tryd.func46, Tryd.ntmps46
      go_wp2
      go_ret
      exact ⟨ret_int HZ.out.symm, bl⟩
  · rw [stV_t, decide_eq_true_eq] at hd
    cases eb
    · skip
      have HZ : Hid (cS ⟨true, ds, dx⟩ ⟨false, es, ex⟩ = -1) := Lib.hid (rfl)
      go_enter Tryd.func46, Tryd.ntmps46
      go_wp2
      go_ret
      exact ⟨ret_int HZ.out.symm, bl⟩
    · rw [stV_t, decide_eq_true_eq] at he
      have e1 : ds = es := by
        have h1 := tl_nil hd.1
        have h2 := tl_nil he.1
        exact tl_inj.1 (by rw [h1, h2])
      subst e1
      rcases (show dx < ex ∨ ex < dx ∨ dx = ex by omega) with h | h | h
      · have q1 : (dx == ex) = false := by rw [beq_eq_false_iff_ne]; omega
        have HZ : Hid (cS ⟨true, ds, dx⟩ ⟨true, ds, ex⟩ = -1) := Lib.hid (by show icm dx ex = -1; unfold icm; rw [if_pos h])
        go_enter Tryd.func46, Tryd.ntmps46
        go_wp2
        go_ret
        exact ⟨ret_int HZ.out.symm, bl⟩
      · have q1 : (dx == ex) = false := by rw [beq_eq_false_iff_ne]; omega
        have HZ : Hid (cS ⟨true, ds, dx⟩ ⟨true, ds, ex⟩ = 1) := Lib.hid (by show icm dx ex = 1; unfold icm; rw [if_neg (by omega), if_pos h])
        go_enter Tryd.func46, Tryd.ntmps46
        go_wp2
        go_ret
        exact ⟨ret_int HZ.out.symm, bl⟩
      · subst h
        have HZ : Hid (cS ⟨true, ds, dx⟩ ⟨true, ds, dx⟩ = 0) := Lib.hid (by show icm dx dx = 0; unfold icm; rw [if_neg (by omega), if_neg (by omega)])
        go_enter Tryd.func46, Tryd.ntmps46
        go_wp2
        go_ret
        exact ⟨ret_int HZ.out.symm, bl⟩
end Go.Proofs.YtfdfncffogjbdaaDoor.Ps
