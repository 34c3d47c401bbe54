/-
  Package path: Parse at the literals that lives asks for.
-/
import Derived.Test.YtfdfncffogjbdaaDoorPsG
namespace Go.Proofs.YtfdfncffogjbdaaDoor.Ps
open Go.RowKit
set_option linter.unusedVariables false
set_option linter.unusedSimpArgs false
open RO

theorem sc_len (d : St) : (scs d).length = 3 := rfl
theorem sc_one (d : St) : ∀ u ∈ scs d, u.oneCell' = true := by
  intro u hu
  simp [scs] at hu
  rcases hu with rfl | rfl | rfl <;> rfl
theorem info_st : (Tryd.prog.info? 26).map (fun i => (i.zero, i.size, i.bytes)) = some (some (.agg #[.bool false, .string ⟨#[]⟩, .int .i64 0]), 3, 32) := by kernel_rfl
theorem ps_ape {ops : Array Oper} {rest : List Oper} {o : Oper} {a : Act} {Q : Exit → Act → World → Prop} (hgd : o.guard = none) (s y : Operand) (ho : o.op = .call { callee := .builtin .append, args := #[s, y], argTypes := #[22, 22] })
    {W w : World} {base : Nat} {v : Value} {L : List St} (hs : a.eval s = v) (hB : Ow scs 3 26 w base v L) (hb : Below base W w) (hbs : base ≤ w.heap.size) (x : St) {C : Array Value} {c : Nat} (hx : a.eval y = .slice (some ⟨w.heap.size, 0, none⟩) 1 c) (hC : C = (scs x).toArray) (hlen : L.length + 1 ≤ 100000000)
    (h : ∀ v' w', Ow scs 3 26 w' base v' (L ++ [x]) → Below base W w' → base ≤ w'.heap.size → wpList Tryd.prog ops Q rest (a.put o.dst v') w') : wpList Tryd.prog ops Q (o :: rest) a (w.alloc (.cells C 26)) :=
  wpList_appo Tryd.underlying22 info_st rfl sc_len sc_one (by decide) (by decide) hgd s y ho hs hB hb hbs x hx hC hlen h
/-- What is left of the text, and the steps so far. -/
structure PS (w : World) (A : Nat) (W : World) (t : ByteArray) (v : Value) (L : List St) : Prop where
  rc : RC W A t
  ow : Ow scs 3 26 W (A + 1) v L
  bl : Below w.heap.size w W
  ha : w.heap.size ≤ A
  sz : A + 1 ≤ W.heap.size
theorem PS.next {w W W' : World} {A : Nat} {t t' : ByteArray} {v : Value} {L : List St} (h : PS w A W t v L) (g : W.grownBy W' (some A)) (hr : RC W' A t') : PS w A W' t' v L := by
  have hlt := World.ownsRow.lt h.ow
  refine ⟨hr, World.ownsRow.kept (row := some A) h.ow g ?_, ⟨g.os.trans h.bl.os, g.tape.trans h.bl.tape, g.output.trans h.bl.output, Nat.le_trans h.bl.size g.size, fun j hj => ?_⟩, h.ha, Nat.le_trans h.sz g.size⟩
  · cases ho : v.ownBlock with
    | none => exact .inl rfl
    | some k =>
      refine .inr fun e => ?_
      injection e with e
      have := (hlt k ho).1
      omega
  · have h1 := h.ha
    have h2 := h.bl.size
    exact (g.block j (by omega) (fun e => by injection e with e; omega)).trans (h.bl.block j hj)
theorem PS.alloc {w W : World} {A : Nat} {t : ByteArray} {v : Value} {L : List St} (h : PS w A W t v L) (o : Obj) : PS w A (W.alloc o) t v L :=
  ⟨h.rc.alloc o, h.ow.alloc o, h.bl.alloc h.bl.size o, h.ha, Nat.le_trans h.sz (by simp)⟩
theorem PS.app {w W W' : World} {A : Nat} {t : ByteArray} {v v' : Value} {L L' : List St} (h : PS w A W t v L) (hO : Ow scs 3 26 W' (A + 1) v' L') (hb : Below (A + 1) W W') : PS w A W' t v' L' :=
  ⟨h.rc.below hb (by omega), hO, h.bl.trans (hb.mono (Nat.le_trans h.ha (Nat.le_succ A))), h.ha, Nat.le_trans h.sz hb.size⟩
theorem PS.rd {w W : World} {A : Nat} {t : ByteArray} {v : Value} {L : List St} (h : PS w A W t v L) : Ss W W.heap.size v L := h.ow.rd sc_len
theorem Ss.next {w w' : World} {v : Value} {L : List St} (h : Ss w w.heap.size v L) (hb : Below w.heap.size w w') : Ss w' w'.heap.size v L := Rd.next h hb
theorem PS.new (w W : World) (t : ByteArray) (hb : Below w.heap.size w W) : PS w W.heap.size (W.alloc (.cells #[.string t] 9)) t (.slice none 0 0) [] :=
  ⟨RC.new W t, Ow.nil _ _, hb.alloc hb.size _, hb.size, by simp⟩
theorem itoa_0 : Lib.itoa 0 = [48] := by
  unfold Lib.itoa
  rw [if_neg (by omega)]
  show Lib.decDigits 0 = _
  rw [Lib.decDigits, dif_pos (by omega)]; rfl
theorem itoa_1 : Lib.itoa 1 = [49] := by
  unfold Lib.itoa
  rw [if_neg (by omega)]
  show Lib.decDigits 1 = _
  rw [Lib.decDigits, dif_pos (by omega)]; rfl
/-- The texts of the steps of lives. -/
def T0 (d : St) : List UInt8 := if d.b = true then 91 :: (Lib.itoa d.x ++ [93]) else if d.s.size = 1 then 46 :: d.s.data.toList else 46 :: 34 :: (d.s.data.toList ++ [34])
theorem ts_a : TS ⟨false, (⟨#[97]⟩ : ByteArray), 0⟩ (T0 ⟨false, (⟨#[97]⟩ : ByteArray), 0⟩) := .inr (.inl ⟨rfl, name_a, rfl⟩)
theorem ts_i (x : Int) : TS ⟨true, (⟨#[]⟩ : ByteArray), x⟩ (T0 ⟨true, (⟨#[]⟩ : ByteArray), x⟩) := .inl ⟨rfl, rfl⟩
theorem ts_x : TS ⟨false, (⟨#[120, 32, 121]⟩ : ByteArray), 0⟩ (T0 ⟨false, (⟨#[120, 32, 121]⟩ : ByteArray), 0⟩) := .inr (.inr ⟨rfl, name_xy, _, esc_xy, rfl⟩)
def L0 : List St := [⟨false, (⟨#[97]⟩ : ByteArray), 0⟩, ⟨true, (⟨#[]⟩ : ByteArray), 0⟩, ⟨false, (⟨#[120, 32, 121]⟩ : ByteArray), 0⟩]
theorem ts0 : ∀ d ∈ L0, TS d (T0 d) := by
  intro d hd
  simp only [L0, List.mem_cons, List.not_mem_nil, or_false] at hd
  rcases hd with rfl | rfl | rfl
  · exact ts_a
  · exact ts_i 0
  · exact ts_x
theorem tl0 : ∀ d ∈ L0, (T0 d).length ≤ 20000 := by
  intro d hd
  simp only [L0, List.mem_cons, List.not_mem_nil, or_false] at hd
  rcases hd with rfl | rfl | rfl
  · decide
  · show (91 :: (Lib.itoa 0 ++ [93])).length ≤ 20000
    rw [itoa_0]; decide
  · decide
theorem tx0 : (txL T0 L0).toArray = #[46, 97, 91, 48, 93, 46, 34, 120, 32, 121, 34] := by
  show (pre L0 ++ (T0 _ ++ (T0 _ ++ (T0 _ ++ [])))).toArray = _
  show ([] ++ ([46, 97] ++ ((91 :: (Lib.itoa 0 ++ [93])) ++ ([46, 34, 120, 32, 121, 34] ++ [])))).toArray = _
  rw [itoa_0]; rfl
def L3 : List St := [⟨true, (⟨#[]⟩ : ByteArray), 1⟩]
theorem ts3 : ∀ d ∈ L3, TS d (T0 d) := by
  intro d hd
  simp only [L3, List.mem_cons, List.not_mem_nil, or_false] at hd
  subst hd
  exact ts_i 1
theorem tl3 : ∀ d ∈ L3, (T0 d).length ≤ 20000 := by
  intro d hd
  simp only [L3, List.mem_cons, List.not_mem_nil, or_false] at hd
  subst hd
  show (91 :: (Lib.itoa 1 ++ [93])).length ≤ 20000
  rw [itoa_1]; decide
theorem tx3 : (txL T0 L3).toArray = #[46, 91, 49, 93] := by
  show ([46] ++ ((91 :: (Lib.itoa 1 ++ [93])) ++ [])).toArray = _
  rw [itoa_1]; rfl
set_option maxRecDepth 100000 in
set_option maxHeartbeats 8000000 in
theorem parse_one (w : World) (hT : Utf.Tabs w) (ht : Tb w) : Calls Tryd.prog 17 #[.string (⟨#[46, 97, 91, 48, 93, 46, 34, 120, 32, 121, 34]⟩ : ByteArray)] w fun e w' => ∃ v, e = .returned (.tuple #[v, .int .i64 0]) ∧ Ss w' w'.heap.size v [⟨false, (⟨#[97]⟩ : ByteArray), 0⟩, ⟨true, (⟨#[]⟩ : ByteArray), 0⟩, ⟨false, (⟨#[120, 32, 121]⟩ : ByteArray), 0⟩] ∧ Below w.heap.size w w' := by
  have HV : Hid (∀ w', Below w.heap.size w w' → Calls Tryd.prog 30 #[.string (⟨#[46, 97, 91, 48, 93, 46, 34, 120, 32, 121, 34]⟩ : ByteArray)] w' fun e w2 => e = .returned (.bool true) ∧ Below w'.heap.size w' w2) := Lib.hid (fun w' hb => Utf.valid_is (Lib.hid (by decide)) (hT.below hb) (by decide))
  have HP : Hid (∀ w, Calls Tryd.prog 38 #[.string (⟨#[46, 97, 91, 48, 93, 46, 34, 120, 32, 121, 34]⟩ : ByteArray), .string ⟨#[46, 91]⟩] w fun e w' => e = .returned (.bool false) ∧ w' = w) := Lib.hid (fun w => Tryd.strings_HasPrefix (⟨#[46, 97, 91, 48, 93, 46, 34, 120, 32, 121, 34]⟩ : ByteArray) ⟨#[46, 91]⟩ w)
  have HPV := Lib.hid (fun (v : Value) (L : List St) (w' : World) (hb : Below w.heap.size w w') (hv : Ss w' w'.heap.size v L) (hL : ∀ d ∈ L, d.ok) => pvalid_any v L w' hv hL (hT.below hb))
  have HTX := Lib.hid (fun (T : St → List UInt8) (v : Value) (L : List St) (w' : World) (hb : Below w.heap.size w w') (hv : Ss w' w'.heap.size v L) (hL : ∀ d ∈ L, d.ok) (hl : L.length ≤ 48) (hT : ∀ d ∈ L, TS d (T d)) (hTl : ∀ d ∈ L, (T d).length ≤ 20000) => text_any T v L w' hv hL hl hT hTl (ht.next hb))
  have HN0 : Hid (∀ (A : Nat) (W : World), RC W A (⟨#[46, 97, 91, 48, 93, 46, 34, 120, 32, 121, 34]⟩ : ByteArray) → Calls Tryd.prog 39 #[.pointer (some ⟨A, 0, none⟩)] W fun e W' => e = .returned (.tuple #[.agg #[.bool false, .string (⟨#[97]⟩ : ByteArray), .int .i64 0], .bool true]) ∧ RC W' A (⟨#[91, 48, 93, 46, 34, 120, 32, 121, 34]⟩ : ByteArray) ∧ W.grownBy W' (some A)) := Lib.hid (fun A W h => next_any A (⟨#[46, 97, 91, 48, 93, 46, 34, 120, 32, 121, 34]⟩ : ByteArray) (⟨#[97]⟩ : ByteArray) (⟨#[91, 48, 93, 46, 34, 120, 32, 121, 34]⟩ : ByteArray) false true 0 2 W h (by decide) (by decide) rfl (fun w => step_name _ _ w (by decide) (by decide) rfl rfl rfl rfl))
  have HN1 : Hid (∀ (A : Nat) (W : World), RC W A (⟨#[91, 48, 93, 46, 34, 120, 32, 121, 34]⟩ : ByteArray) → Calls Tryd.prog 39 #[.pointer (some ⟨A, 0, none⟩)] W fun e W' => e = .returned (.tuple #[.agg #[.bool true, .string (⟨#[]⟩ : ByteArray), .int .i64 0], .bool true]) ∧ RC W' A (⟨#[46, 34, 120, 32, 121, 34]⟩ : ByteArray) ∧ W.grownBy W' (some A)) := Lib.hid (fun A W h => next_any A (⟨#[91, 48, 93, 46, 34, 120, 32, 121, 34]⟩ : ByteArray) (⟨#[]⟩ : ByteArray) (⟨#[46, 34, 120, 32, 121, 34]⟩ : ByteArray) true true 0 3 W h (by decide) (by decide) rfl (fun w => (step_index _ (⟨#[48]⟩ : ByteArray) 2 0 w (by decide) (by decide) rfl (by decide) (by decide) rfl (by decide) (by decide))))
  have HN2 : Hid (∀ (A : Nat) (W : World), RC W A (⟨#[46, 34, 120, 32, 121, 34]⟩ : ByteArray) → Calls Tryd.prog 39 #[.pointer (some ⟨A, 0, none⟩)] W fun e W' => e = .returned (.tuple #[.agg #[.bool false, .string (⟨#[120, 32, 121]⟩ : ByteArray), .int .i64 0], .bool true]) ∧ RC W' A (⟨#[]⟩ : ByteArray) ∧ W.grownBy W' (some A)) := Lib.hid (fun A W h => next_any A (⟨#[46, 34, 120, 32, 121, 34]⟩ : ByteArray) (⟨#[120, 32, 121]⟩ : ByteArray) (⟨#[]⟩ : ByteArray) false true 0 6 W h (by decide) (by decide) rfl (fun w => (step_quoted _ (⟨#[120, 32, 121, 34]⟩ : ByteArray) _ 4 w (by decide) (by decide) (by decide) rfl rfl rfl unesc_xy)))
  have hmf : ∀ (fn : Fn) (first cap : Array Value) (w : World), (Instr.makeFunc fn first cap).run Tryd.prog w = .ok (.func fn first cap) w := fun _ _ _ _ => rfl
  have ne0 := tl_ne (s := (⟨#[46, 97, 91, 48, 93, 46, 34, 120, 32, 121, 34]⟩ : ByteArray)) (by decide)
  have nf0 := tl_ne' (s := (⟨#[46, 97, 91, 48, 93, 46, 34, 120, 32, 121, 34]⟩ : ByteArray)) (by decide)
  have ne1 := tl_ne (s := (⟨#[91, 48, 93, 46, 34, 120, 32, 121, 34]⟩ : ByteArray)) (by decide)
  have nf1 := tl_ne' (s := (⟨#[91, 48, 93, 46, 34, 120, 32, 121, 34]⟩ : ByteArray)) (by decide)
  have ne2 := tl_ne (s := (⟨#[46, 34, 120, 32, 121, 34]⟩ : ByteArray)) (by decide)
  have nf2 := tl_ne' (s := (⟨#[46, 34, 120, 32, 121, 34]⟩ : ByteArray)) (by decide)
  have ze := tl_nil (s := (⟨#[]⟩ : ByteArray)) (by decide)
  go_enter Tryd.func17, Tryd.ntmps17
  go_wp2_with (first | (go_at_call 30; (with_reducible refine (HV.out _ (Below.refl _ _)).mono ?_); rintro e w1 ⟨rfl, hX⟩; have P := PS.new w w1 (⟨#[46, 97, 91, 48, 93, 46, 34, 120, 32, 121, 34]⟩ : ByteArray) hX; have rc := P.rc.cell; have rf := P.rc.fz; have HX := Lib.hid hX; clear hX P) | (go_at_call 38; (with_reducible refine (HP.out _).mono ?_); rintro e w2 ⟨rfl, rfl⟩))
  have P := PS.new w w1 (⟨#[46, 97, 91, 48, 93, 46, 34, 120, 32, 121, 34]⟩ : ByteArray) HX.out
  clear rc rf
  refine wp_loop_rounds 4 ?_
  rw [rounds_succ]
  have hlen := Rd.run_len Tryd.underlying22 P.rd (n := 0) rfl
  have rc := P.rc.cell
  go_wp2_with (first | (go_at_call 39; go_loud ((with_reducible refine (HN0.out w1.heap.size _ P.rc).mono ?_); rintro e x1 ⟨rfl, hR, hG⟩; have P1 := (P.next hG hR).alloc (.cells #[.bool false, .string (⟨#[97]⟩ : ByteArray), .int .i64 0] 26); have D := SC.new x1 false (⟨#[97]⟩ : ByteArray) 0; obtain ⟨d0, d1, d2⟩ := D.cells; clear P rc hR hG)) | (at_builtin; go_loud (refine ps_ape (by rfl) (.tmp 34) (.tmp 36) (by rfl) (by rfl) P1.ow (Below.refl _ _) P1.sz ⟨false, (⟨#[97]⟩ : ByteArray), 0⟩ (c := 1) ((show _ = Value.slice (some ⟨x1.heap.size + 1, 0, none⟩) 1 1 by rfl).trans (by simp)) (by rfl) (by decide) ?_); intro v1 y1 hO hb hbs; have P := P1.app hO hb; clear P1 hO hb hbs hlen d0 d1 d2 D))
  rw [rounds_succ]
  have hlen := Rd.run_len Tryd.underlying22 P.rd (n := 1) rfl
  have rc := P.rc.cell
  go_wp2_with (first | (go_at_call 39; go_loud ((with_reducible refine (HN1.out w1.heap.size _ P.rc).mono ?_); rintro e x1 ⟨rfl, hR, hG⟩; have P1 := (P.next hG hR).alloc (.cells #[.bool true, .string (⟨#[]⟩ : ByteArray), .int .i64 0] 26); have D := SC.new x1 true (⟨#[]⟩ : ByteArray) 0; obtain ⟨d0, d1, d2⟩ := D.cells; clear P rc hR hG)) | (at_builtin; go_loud (refine ps_ape (by rfl) (.tmp 34) (.tmp 36) (by rfl) (by rfl) P1.ow (Below.refl _ _) P1.sz ⟨true, (⟨#[]⟩ : ByteArray), 0⟩ (c := 1) ((show _ = Value.slice (some ⟨x1.heap.size + 1, 0, none⟩) 1 1 by rfl).trans (by simp)) (by rfl) (by decide) ?_); intro v2 y1 hO hb hbs; have P := P1.app hO hb; clear P1 hO hb hbs hlen d0 d1 d2 D))
  rw [rounds_succ]
  have hlen := Rd.run_len Tryd.underlying22 P.rd (n := 2) rfl
  have rc := P.rc.cell
  go_wp2_with (first | (go_at_call 39; go_loud ((with_reducible refine (HN2.out w1.heap.size _ P.rc).mono ?_); rintro e x1 ⟨rfl, hR, hG⟩; have P1 := (P.next hG hR).alloc (.cells #[.bool false, .string (⟨#[120, 32, 121]⟩ : ByteArray), .int .i64 0] 26); have D := SC.new x1 false (⟨#[120, 32, 121]⟩ : ByteArray) 0; obtain ⟨d0, d1, d2⟩ := D.cells; clear P rc hR hG)) | (at_builtin; go_loud (refine ps_ape (by rfl) (.tmp 34) (.tmp 36) (by rfl) (by rfl) P1.ow (Below.refl _ _) P1.sz ⟨false, (⟨#[120, 32, 121]⟩ : ByteArray), 0⟩ (c := 1) ((show _ = Value.slice (some ⟨x1.heap.size + 1, 0, none⟩) 1 1 by rfl).trans (by simp)) (by rfl) (by decide) ?_); intro v3 y1 hO hb hbs; have P := P1.app hO hb; clear P1 hO hb hbs hlen d0 d1 d2 D))
  rw [rounds_succ]
  have hlen := Rd.run_len Tryd.underlying22 P.rd (n := 3) rfl
  have rc := P.rc.cell
  have hok : ∀ d ∈ ([⟨false, (⟨#[97]⟩ : ByteArray), 0⟩, ⟨true, (⟨#[]⟩ : ByteArray), 0⟩, ⟨false, (⟨#[120, 32, 121]⟩ : ByteArray), 0⟩] : List St), d.ok := by
    intro d hd
    simp only [List.mem_cons, List.not_mem_nil, or_false] at hd
    rcases hd with rfl | rfl | rfl <;> exact ⟨by decide, by decide, by decide⟩
  have PV := Lib.hid (HPV.out v3 [⟨false, (⟨#[97]⟩ : ByteArray), 0⟩, ⟨true, (⟨#[]⟩ : ByteArray), 0⟩, ⟨false, (⟨#[120, 32, 121]⟩ : ByteArray), 0⟩] _ P.bl P.rd hok)
  rw [show pvB [⟨false, (⟨#[97]⟩ : ByteArray), 0⟩, ⟨true, (⟨#[]⟩ : ByteArray), 0⟩, ⟨false, (⟨#[120, 32, 121]⟩ : ByteArray), 0⟩] = true by decide] at PV
  have HT1 : Hid (∀ (w' : World), Below w.heap.size w w' → Ss w' w'.heap.size v3 [⟨false, (⟨#[97]⟩ : ByteArray), 0⟩, ⟨true, (⟨#[]⟩ : ByteArray), 0⟩, ⟨false, (⟨#[120, 32, 121]⟩ : ByteArray), 0⟩] → Calls Tryd.prog 16 #[v3] w' fun e w2 => e = .returned (.string (⟨#[46, 97, 91, 48, 93, 46, 34, 120, 32, 121, 34]⟩ : ByteArray)) ∧ Below w'.heap.size w' w2) := Lib.hid (fun w' hb hv => by
    have h := HTX.out T0 v3 [⟨false, (⟨#[97]⟩ : ByteArray), 0⟩, ⟨true, (⟨#[]⟩ : ByteArray), 0⟩, ⟨false, (⟨#[120, 32, 121]⟩ : ByteArray), 0⟩] w' hb hv hok (by decide) ts0 tl0
    have e : (txL T0 [⟨false, (⟨#[97]⟩ : ByteArray), 0⟩, ⟨true, (⟨#[]⟩ : ByteArray), 0⟩, ⟨false, (⟨#[120, 32, 121]⟩ : ByteArray), 0⟩]).toArray = _ := tx0
    rw [e] at h
    exact h)
  have P9 : PS w w1.heap.size _ (⟨#[]⟩ : ByteArray) v3 [⟨false, (⟨#[97]⟩ : ByteArray), 0⟩, ⟨true, (⟨#[]⟩ : ByteArray), 0⟩, ⟨false, (⟨#[120, 32, 121]⟩ : ByteArray), 0⟩] := P
  have HP9 := Lib.hid P9
  clear P9
  clear P
  go_wp2_with (first | (go_at_call 10; (with_reducible refine (PV.out).mono ?_); rintro e z1 ⟨rfl, hX⟩; have bl := HP9.out.bl.trans (hX.mono HP9.out.bl.size); have rd := Ss.next HP9.out.rd hX; have rc := (HP9.out.rc.below hX HP9.out.rc.lt).cell; clear hX) | (go_at_call 16; (with_reducible refine (HT1.out _ bl rd).mono ?_); rintro e z2 ⟨rfl, hX⟩; have bl := bl.trans (hX.mono bl.size); have rd := Ss.next rd hX; clear hX))
  go_ret2
  exact ⟨_, rfl, rd, bl⟩
set_option maxRecDepth 100000 in
set_option maxHeartbeats 8000000 in
theorem parse_bad (w : World) (hT : Utf.Tabs w) (ht : Tb w) : Calls Tryd.prog 17 #[.string (⟨#[46, 91, 48, 49, 93]⟩ : ByteArray)] w fun e w' => e = .returned (.tuple #[.slice none 0 0, .int .i64 3]) ∧ Below w.heap.size w w' := by
  have HV : Hid (∀ w', Below w.heap.size w w' → Calls Tryd.prog 30 #[.string (⟨#[46, 91, 48, 49, 93]⟩ : ByteArray)] w' fun e w2 => e = .returned (.bool true) ∧ Below w'.heap.size w' w2) := Lib.hid (fun w' hb => Utf.valid_is (Lib.hid (by decide)) (hT.below hb) (by decide))
  have HP : Hid (∀ w, Calls Tryd.prog 38 #[.string (⟨#[46, 91, 48, 49, 93]⟩ : ByteArray), .string ⟨#[46, 91]⟩] w fun e w' => e = .returned (.bool true) ∧ w' = w) := Lib.hid (fun w => Tryd.strings_HasPrefix (⟨#[46, 91, 48, 49, 93]⟩ : ByteArray) ⟨#[46, 91]⟩ w)
  have HPV := Lib.hid (fun (v : Value) (L : List St) (w' : World) (hb : Below w.heap.size w w') (hv : Ss w' w'.heap.size v L) (hL : ∀ d ∈ L, d.ok) => pvalid_any v L w' hv hL (hT.below hb))
  have HTX := Lib.hid (fun (T : St → List UInt8) (v : Value) (L : List St) (w' : World) (hb : Below w.heap.size w w') (hv : Ss w' w'.heap.size v L) (hL : ∀ d ∈ L, d.ok) (hl : L.length ≤ 48) (hT : ∀ d ∈ L, TS d (T d)) (hTl : ∀ d ∈ L, (T d).length ≤ 20000) => text_any T v L w' hv hL hl hT hTl (ht.next hb))
  have HN0 : Hid (∀ (A : Nat) (W : World), RC W A (⟨#[91, 48, 49, 93]⟩ : ByteArray) → Calls Tryd.prog 39 #[.pointer (some ⟨A, 0, none⟩)] W fun e W' => e = .returned (.tuple #[.agg #[.bool true, .string (⟨#[]⟩ : ByteArray), .int .i64 1], .bool true]) ∧ RC W' A (⟨#[]⟩ : ByteArray) ∧ W.grownBy W' (some A)) := Lib.hid (fun A W h => next_any A (⟨#[91, 48, 49, 93]⟩ : ByteArray) (⟨#[]⟩ : ByteArray) (⟨#[]⟩ : ByteArray) true true 1 4 W h (by decide) (by decide) rfl (fun w => (step_index _ (⟨#[48, 49]⟩ : ByteArray) 3 1 w (by decide) (by decide) rfl (by decide) (by decide) rfl (by decide) (by decide))))
  have hmf : ∀ (fn : Fn) (first cap : Array Value) (w : World), (Instr.makeFunc fn first cap).run Tryd.prog w = .ok (.func fn first cap) w := fun _ _ _ _ => rfl
  have ne0 := tl_ne (s := (⟨#[46, 91, 48, 49, 93]⟩ : ByteArray)) (by decide)
  have nf0 := tl_ne' (s := (⟨#[46, 91, 48, 49, 93]⟩ : ByteArray)) (by decide)
  have ne1 := tl_ne (s := (⟨#[91, 48, 49, 93]⟩ : ByteArray)) (by decide)
  have nf1 := tl_ne' (s := (⟨#[91, 48, 49, 93]⟩ : ByteArray)) (by decide)
  have ze := tl_nil (s := (⟨#[]⟩ : ByteArray)) (by decide)
  have hxt : (⟨#[46, 91, 48, 49, 93]⟩ : ByteArray).extract 1 5 = (⟨#[91, 48, 49, 93]⟩ : ByteArray) := rfl
  go_enter Tryd.func17, Tryd.ntmps17
  go_wp2_with (first | (go_at_call 30; (with_reducible refine (HV.out _ (Below.refl _ _)).mono ?_); rintro e w1 ⟨rfl, hX⟩; have P := PS.new w w1 (⟨#[46, 91, 48, 49, 93]⟩ : ByteArray) hX; have rc := P.rc.cell; have rf := P.rc.fz; have HX := Lib.hid hX; clear hX P) | (go_at_call 38; (with_reducible refine (HP.out _).mono ?_); rintro e w2 ⟨rfl, rfl⟩))
  have P := PS.new w w1 (⟨#[91, 48, 49, 93]⟩ : ByteArray) HX.out
  clear rc rf
  refine wp_loop_rounds 2 ?_
  rw [rounds_succ]
  have hlen := Rd.run_len Tryd.underlying22 P.rd (n := 0) rfl
  have rc := P.rc.cell
  go_wp2_with (first | (go_at_call 39; go_loud ((with_reducible refine (HN0.out w1.heap.size _ P.rc).mono ?_); rintro e x1 ⟨rfl, hR, hG⟩; have P1 := (P.next hG hR).alloc (.cells #[.bool true, .string (⟨#[]⟩ : ByteArray), .int .i64 1] 26); have D := SC.new x1 true (⟨#[]⟩ : ByteArray) 1; obtain ⟨d0, d1, d2⟩ := D.cells; clear P rc hR hG)) | (at_builtin; go_loud (refine ps_ape (by rfl) (.tmp 34) (.tmp 36) (by rfl) (by rfl) P1.ow (Below.refl _ _) P1.sz ⟨true, (⟨#[]⟩ : ByteArray), 1⟩ (c := 1) ((show _ = Value.slice (some ⟨x1.heap.size + 1, 0, none⟩) 1 1 by rfl).trans (by simp)) (by rfl) (by decide) ?_); intro v1 y1 hO hb hbs; have P := P1.app hO hb; clear P1 hO hb hbs hlen d0 d1 d2 D))
  rw [rounds_succ]
  have hlen := Rd.run_len Tryd.underlying22 P.rd (n := 1) rfl
  have rc := P.rc.cell
  have hok : ∀ d ∈ ([⟨true, (⟨#[]⟩ : ByteArray), 1⟩] : List St), d.ok := by
    intro d hd
    simp only [List.mem_cons, List.not_mem_nil, or_false] at hd
    rcases hd with rfl <;> exact ⟨by decide, by decide, by decide⟩
  have PV := Lib.hid (HPV.out v1 [⟨true, (⟨#[]⟩ : ByteArray), 1⟩] _ P.bl P.rd hok)
  rw [show pvB [⟨true, (⟨#[]⟩ : ByteArray), 1⟩] = true by decide] at PV
  have HT1 : Hid (∀ (w' : World), Below w.heap.size w w' → Ss w' w'.heap.size v1 [⟨true, (⟨#[]⟩ : ByteArray), 1⟩] → Calls Tryd.prog 16 #[v1] w' fun e w2 => e = .returned (.string (⟨#[46, 91, 49, 93]⟩ : ByteArray)) ∧ Below w'.heap.size w' w2) := Lib.hid (fun w' hb hv => by
    have h := HTX.out T0 v1 [⟨true, (⟨#[]⟩ : ByteArray), 1⟩] w' hb hv hok (by decide) ts3 tl3
    have e : (txL T0 [⟨true, (⟨#[]⟩ : ByteArray), 1⟩]).toArray = _ := tx3
    rw [e] at h
    exact h)
  have P9 : PS w w1.heap.size _ (⟨#[]⟩ : ByteArray) v1 [⟨true, (⟨#[]⟩ : ByteArray), 1⟩] := P
  have HP9 := Lib.hid P9
  clear P9
  clear P
  go_wp2_with (first | (go_at_call 10; (with_reducible refine (PV.out).mono ?_); rintro e z1 ⟨rfl, hX⟩; have bl := HP9.out.bl.trans (hX.mono HP9.out.bl.size); have rd := Ss.next HP9.out.rd hX; have rc := (HP9.out.rc.below hX HP9.out.rc.lt).cell; clear hX) | (go_at_call 16; (with_reducible refine (HT1.out _ bl rd).mono ?_); rintro e z2 ⟨rfl, hX⟩; have bl := bl.trans (hX.mono bl.size); have rd := Ss.next rd hX; clear hX))
  go_ret2
  exact ⟨rfl, bl⟩
end Go.Proofs.YtfdfncffogjbdaaDoor.Ps
