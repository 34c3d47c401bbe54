/-
  Package span: the runs of bytes that are kept twice, walked.
-/
import Derived.Test.YtdgoblapmjpcaaaSpX
import Derived.Deep.DeepCutAuto
import Derived.Deep.RegionHeld3
import Derived.Deep.QuietTactic
import Derived.BigQuiet
namespace Go.Proofs.Ytdgoblapmjpcaaa.Sp
open Go.RowKit
set_option linter.unusedVariables false
set_option linter.unusedSimpArgs false
open RO

theorem drop_ru {L : List Ru} {k : Nat} {r : Ru} (h : L[k]? = some r) : L.drop k = r :: L.drop (k + 1) := by
  obtain ⟨hk, rfl⟩ := List.getElem?_eq_some_iff.1 h
  rw [List.drop_eq_getElem_cons hk]
def SmR (r : Ru) : Prop := (0 ≤ r.a ∧ r.a ≤ 1000000000) ∧ (0 ≤ r.b ∧ r.b ≤ 1000000000) ∧ (0 ≤ r.c ∧ r.c ≤ 1000000000)
/-- The cells of a run. -/
def RuC (w : World) (P : Nat) (r : Ru) : Prop := w.cell? ⟨P, 0, none⟩ = some (.int .i64 r.a) ∧ w.cell? ⟨P, 1, none⟩ = some (.int .i64 r.b) ∧ w.cell? ⟨P, 2, none⟩ = some (.int .i64 r.c)
theorem RuC.below {w w' : World} {B P : Nat} {r : Ru} (h : RuC w P r) (hb : Below B w w') (hP : P < B) : RuC w' P r :=
  ⟨(hb.cell (p := ⟨P, 0, none⟩) hP).trans h.1, (hb.cell (p := ⟨P, 1, none⟩) hP).trans h.2.1, (hb.cell (p := ⟨P, 2, none⟩) hP).trans h.2.2⟩
theorem RuC.new (w : World) (r : Ru) : RuC (w.alloc (.cells #[.int .i64 r.a, .int .i64 r.b, .int .i64 r.c] 66)) w.heap.size r := ⟨rowc w _ _ rfl, rowc w _ _ rfl, rowc w _ _ rfl⟩
theorem two_new (w : World) (x y : Ru) :
    let W := ((w.alloc (.cells #[.int .i64 x.a, .int .i64 x.b, .int .i64 x.c] 66)).alloc (.cells #[.int .i64 y.a, .int .i64 y.b, .int .i64 y.c] 66)).drew
    RuC W w.heap.size x ∧ RuC W (w.heap.size + 1) y ∧ w.heap.size < W.heap.size ∧ w.heap.size + 1 < W.heap.size ∧ Below w.heap.size w W := by
  intro W
  have hd : ∀ (b : Nat) (v : World), Below b v v.drew := fun b v => ⟨rfl, rfl, rfl, Nat.le_refl _, fun _ _ => rfl⟩
  have hs : (w.alloc (.cells #[.int .i64 x.a, .int .i64 x.b, .int .i64 x.c] 66)).heap.size = w.heap.size + 1 := by simp
  have h1 := RuC.new w x
  have h2 := RuC.new (w.alloc (.cells #[.int .i64 x.a, .int .i64 x.b, .int .i64 x.c] 66)) y
  rw [hs] at h2
  have hW : W.heap.size = w.heap.size + 2 := by simp [W]
  refine ⟨?_, ?_, by omega, by omega, ?_⟩
  · exact h1.below (B := w.heap.size + 1) (((Below.refl _ _).alloc (by simp) _).trans (hd _ _)) (by omega)
  · exact h2.below (B := w.heap.size + 2) (hd _ _) (by omega)
  · exact (((Below.refl _ _).alloc (Nat.le_refl _) _).alloc (by simp) _).trans (hd _ _)
/-- Behind an append onto a row of the call's own: blocks that are younger than the row read as before. -/
theorem sp_appk {ops : Array Oper} {rest : List Oper} {o : Oper} {a : Act} {Q : Exit → Act → World → Prop} (hgd : o.guard = none) (s y : Operand) (ho : o.op = .call { callee := .builtin .append, args := #[s, y], argTypes := #[63, 63] })
    {W w0 w : World} {base : Nat} {v : Value} {L : List Ru} (hs : a.eval s = v) (hB0 : Ow rc 3 66 w0 base v L) (h0 : Below w0.heap.size w0 w) (hb : Below base W w) (hbs : base ≤ w.heap.size) (x : Ru) {C : Array Value} {c : Nat} (hx : a.eval y = .slice (some ⟨w.heap.size, 0, none⟩) 1 c) (hC : C = (rc x).toArray) (hlen : L.length + 1 ≤ 100000000)
    (h : ∀ v' w', Ow rc 3 66 w' base v' (L ++ [x]) → Below base W w' → base ≤ w'.heap.size → (∀ g j, w0.heap.size ≤ g → g < w.heap.size → w'.cell? ⟨g, j, none⟩ = w.cell? ⟨g, j, none⟩) → wpList Try.prog ops Q rest (a.put o.dst v') w') : wpList Try.prog ops Q (o :: rest) a (w.alloc (.cells C 66)) := by
  have hB : Ow rc 3 66 w base v L := hB0.below h0
  obtain ⟨i0, hi, hz0, hz1, hz2⟩ := info_parts info_run
  subst hC
  refine wpList_append_own _ hgd s y 63 ho base 66 i0 (.agg #[.int .i64 0, .int .i64 0, .int .i64 0]) 3 24 Try.underlying63 hi hz0 hz1 hz2 rfl (by decide) v L.length (flat rc L) hs (hB.alloc _) ⟨w.heap.size, 0, none⟩ 1 c (rc x) hx rfl (fun j u hu => new_row w (rc x) _ j u hu) (rc_one x) (by unfold maxLen; omega) (by omega) (by simp; omega) ?_
  intro v' w' hown hgrow _
  have hb' := (hb.alloc hbs (.cells (rc x).toArray 66)).grown hgrow (by simp; omega) (fun k hk => (World.ownsRow.lt hB k hk).1)
  refine h v' w' ?_ hb' (Nat.le_trans hbs ?_) ?_
  · unfold Ow
    have e1 : flat rc (L ++ [x]) = flat rc L ++ rc x := by rw [flat_app]; unfold flat; simp
    rw [List.length_append, e1]; exact hown
  · exact Nat.le_trans (by simp) hgrow.size
  · intro g j hg1 hg2
    have hblk := hgrow.block g (by simp; omega) (by intro e; have := (World.ownsRow.lt hB0 _ e.symm).2; omega)
    have e1 := World.cell?_of_block (a := ⟨g, j, none⟩) hblk
    rw [e1]
    have hba : Below w.heap.size w (w.alloc (.cells (rc x).toArray 66)) := (Below.refl _ _).alloc (Nat.le_refl _) _
    exact hba.cell (p := ⟨g, j, none⟩) hg2
theorem bo_nil (k : Nat) (A : List Ru) : bo k A [] = [] := by
  cases k with
  | zero => rfl
  | succ k => cases A <;> rfl
theorem bo_nil' (k : Nat) (B : List Ru) : bo k [] B = [] := by
  cases k <;> rfl
theorem bo_eq (k : Nat) (x y : Ru) (A B : List Ru) : bo (k + 1) (x :: A) (y :: B) = (if max x.b y.a < min (x.b + x.c) (y.a + y.c) then [⟨x.a + max x.b y.a - x.b, y.b + max x.b y.a - y.a, min (x.b + x.c) (y.a + y.c) - max x.b y.a⟩] else []) ++ (if x.b + x.c < y.a + y.c then bo k A (y :: B) else bo k (x :: A) B) := rfl
set_option maxRecDepth 100000 in
set_option maxHeartbeats 8000000 in
theorem both_any (u v : Value) (A B : List Ru) (w : World) (hu : Rd rc 3 w w.heap.size u A) (hv : Rd rc 3 w w.heap.size v B) (hA : ∀ r ∈ A, SmR r) (hB : ∀ r ∈ B, SmR r) (hl : A.length + B.length ≤ 100000) : Calls Try.prog 36 #[u, v] w (RunsPost (bo (A.length + B.length) A B) w) := by
  obtain ⟨n, hn⟩ : ∃ n, A.length = n := ⟨_, rfl⟩
  obtain ⟨m, hm⟩ : ∃ m, B.length = m := ⟨_, rfl⟩
  rw [hn, hm] at hl ⊢
  have hl1 := Rd.run_len Try.underlying63 hu hn
  have hl2 := Rd.run_len Try.underlying63 hv hm
  obtain ⟨R, hR⟩ : ∃ R, bo (n + m) A B = R := ⟨_, rfl⟩
  rw [hR]
  have mk : ∀ (x : Value) (X : List Ru) (n : Nat), X.length = n → Rd rc 3 w w.heap.size x X → ∀ wr, Below w.heap.size w wr → ∀ k, k < n → ∃ (g o cap : Nat) (r : Ru), x = .slice (some ⟨g, o, none⟩) n cap ∧ n ≤ cap ∧ X[k]? = some r ∧ g < w.heap.size ∧ wr.cell? ⟨g, o + k * 3, none⟩ = some (.int .i64 r.a) ∧ wr.cell? ⟨g, o + k * 3 + 1, none⟩ = some (.int .i64 r.b) ∧ wr.cell? ⟨g, o + k * 3 + 2, none⟩ = some (.int .i64 r.c) := by
    intro x X n hX hx wr hb k hk
    obtain ⟨g, o, cap, hvv, hg, hc, hcell⟩ := ru_at hx hX (by omega)
    obtain ⟨d, hd⟩ := get_ru hX hk
    obtain ⟨e0, e1, e2⟩ := hcell k d hd
    exact ⟨g, o, cap, d, hvv, hc, hd, hg, (hb.cell (p := ⟨g, o + k * 3, none⟩) hg).trans e0, (hb.cell (p := ⟨g, o + k * 3 + 1, none⟩) hg).trans e1, (hb.cell (p := ⟨g, o + k * 3 + 2, none⟩) hg).trans e2⟩
  have HC1 := Lib.hid (mk u A n hn hu)
  have HC2 := Lib.hid (mk v B m hm hv)
  have HA := Lib.hid hA
  have HB := Lib.hid hB
  have HX : Hid (R = [] ++ bo (n - 0 + (m - 0)) (A.drop 0) (B.drop 0)) := Lib.hid hR.symm
  have HB0 : Hid (Below w.heap.size w w) := Lib.hid (Below.refl _ _)
  clear mk hu hv hA hB hR
  go_enter Try.func36, Try.ntmps36
  go_wp2
  go_loopw [5, 6, 7] (fun kv iv jv wr => ∃ (i j : Nat) (acc : List Ru), i ≤ n ∧ j ≤ m ∧ iv = .int .i64 i ∧ jv = .int .i64 j ∧ acc.length ≤ i + j ∧ Hid (Ow rc 3 66 wr w.heap.size kv acc) ∧ Hid (Below w.heap.size w wr) ∧ w.heap.size ≤ wr.heap.size ∧ Hid (R = acc ++ bo (n - i + (m - j)) (A.drop i) (B.drop j))) (fun _ iv jv _ => n + m - (intOf iv).toNat - (intOf jv).toNat)
  case atStart => exact ⟨0, 0, [], by omega, by omega, rfl, rfl, by simp, Lib.hid (Ow.nil _ _), HB0, Nat.le_refl _, HX⟩
  case round =>
    obtain ⟨i, j, acc, hi, hj, rfl, rfl, ha, HO, HBw, hbs, HX⟩ := hrel
    by_cases hin : i < n
    · by_cases hjm : j < m
      · obtain ⟨g1, o1, cap1, x, rfl, hcap1, hx, hg1, c0, c1, c2⟩ := HC1.out wr HBw.out i hin
        obtain ⟨g2, o2, cap2, y, rfl, hcap2, hy, hg2, d0, d1, d2⟩ := HC2.out wr HBw.out j hjm
        have hsx := HA.out x (List.mem_of_getElem? hx)
        have hsy := HB.out y (List.mem_of_getElem? hy)
        have HX2 : Hid (R = acc ++ bo (n - i + (m - j)) (x :: A.drop (i + 1)) (y :: B.drop (j + 1))) := Lib.hid (by rw [HX.out, drop_ru hx, drop_ru hy])
        have HDX : Hid (A.drop i = x :: A.drop (i + 1)) := Lib.hid (drop_ru hx)
        have HDY : Hid (B.drop j = y :: B.drop (j + 1)) := Lib.hid (drop_ru hy)
        obtain ⟨xa, xb, xc⟩ := x
        obtain ⟨ya, yb, yc⟩ := y
        obtain ⟨⟨x1, x2⟩, ⟨x3, x4⟩, ⟨x5, x6⟩⟩ := hsx
        obtain ⟨⟨y1, y2⟩, ⟨y3, y4⟩, ⟨y5, y6⟩⟩ := hsy
        simp only at x1 x2 x3 x4 x5 x6 y1 y2 y3 y4 y5 y6 c0 c1 c2 d0 d1 d2
        have k1 : (i : Int) < (n : Int) := by omega
        have k2 : (j : Int) < (m : Int) := by omega
        have gl1 : g1 < wr.heap.size := by omega
        have gl2 : g2 < wr.heap.size := by omega
        clear hx hy HX
        go_wp2
        go_cut [8, 9] (fun p q wx => ∃ P Q : Nat, p = .pointer (some ⟨P, 0, none⟩) ∧ q = .pointer (some ⟨Q, 0, none⟩) ∧ RuC wx P ⟨xa, xb, xc⟩ ∧ RuC wx Q ⟨ya, yb, yc⟩ ∧ P < wx.heap.size ∧ Q < wx.heap.size ∧ Hid (wr.heap.size ≤ P) ∧ Hid (wr.heap.size ≤ Q) ∧ Below wr.heap.size wr wx)
        case first =>
          go_wp2
          go_region
          all_goals (go_wp2_with fail; go_meet)
          · obtain ⟨z1, z2, z3, z4, z5⟩ := two_new wr ⟨xa, xb, xc⟩ ⟨ya, yb, yc⟩
            exact ⟨_, _, rfl, rfl, z1, z2, z3, z4, Lib.hid (by omega), Lib.hid (by omega), z5⟩
          · obtain ⟨z1, z2, z3, z4, z5⟩ := two_new wr ⟨ya, yb, yc⟩ ⟨xa, xb, xc⟩
            exact ⟨_, _, rfl, rfl, z2, z1, z4, z3, Lib.hid (by omega), Lib.hid (by omega), z5⟩
        case rest =>
          obtain ⟨P, Q, rfl, rfl, ⟨p0, p1, p2⟩, ⟨q0, q1, q2⟩, hP, hQ, HP, HQ, hbc⟩ := hcut
          simp only at p0 p1 p2 q0 q1 q2
          clear c0 c1 c2 d0 d1 d2
          have s1 : IntKind.i64.wrap (xb + xc) = xb + xc := IntWalk.i64_in _ (by omega)
          have s2 : IntKind.i64.wrap (ya + yc) = ya + yc := IntWalk.i64_in _ (by omega)
          have HOC : Hid (Ow rc 3 66 wc.drew w.heap.size u5 acc) := Lib.hid (ow_d (Ow.below HO.out hbc) 1)
          have HBD : Hid (Below wr.heap.size wr wc.drew) := Lib.hid (hbc.trans ⟨rfl, rfl, rfl, Nat.le_refl _, fun _ _ => rfl⟩)
          have HAL : Hid (acc.length + 1 ≤ 100000000) := Lib.hid (by omega)
          have HBC : Hid (Below w.heap.size w wc.drew) := Lib.hid (HBw.out.trans ((hbc.mono hbs).trans ⟨rfl, rfl, rfl, Nat.le_refl _, fun _ _ => rfl⟩))
          have hbsc : w.heap.size ≤ wc.drew.heap.size := Nat.le_trans hbs hbc.size
          go_wp2
          go_region_held3 (fun (W : World) => W.cell? ⟨P, 0, none⟩ = some (.int .i64 xa) ∧ W.cell? ⟨P, 1, none⟩ = some (.int .i64 xb) ∧ W.cell? ⟨P, 2, none⟩ = some (.int .i64 xc) ∧ W.cell? ⟨Q, 0, none⟩ = some (.int .i64 ya) ∧ W.cell? ⟨Q, 1, none⟩ = some (.int .i64 yb) ∧ W.cell? ⟨Q, 2, none⟩ = some (.int .i64 yc)) (go_keep) (fail)
          all_goals
            clear s1 s2
            have m1 : 0 ≤ max xb ya := by omega
            have m2 : max xb ya ≤ 1000000000 := by omega
            have m3 : 0 ≤ min (xb + xc) (ya + yc) := by omega
            have m4 : min (xb + xc) (ya + yc) ≤ 2000000000 := by omega
            by_cases hbe : max xb ya < min (xb + xc) (ya + yc)
            · by_cases hxy : xb + xc < ya + yc
              · have HXN : Hid (R = acc ++ [⟨xa + max xb ya - xb, yb + max xb ya - ya, min (xb + xc) (ya + yc) - max xb ya⟩] ++ bo (n - (i + 1) + (m - j)) (A.drop (i + 1)) (B.drop (j))) := Lib.hid (by rw [HX2.out, show n - i + (m - j) = n - (i + 1) + (m - j) + 1 by omega, bo_eq, if_pos hbe, if_pos hxy, HDY.out, List.append_assoc])
                go_wp2_with (at_builtin; go_loud (refine sp_appk (by rfl) (.tmp 49) (.tmp 68) (by rfl) (by rfl) HO.out HBD.out HBC.out hbsc ⟨xa + max xb ya - xb, yb + max xb ya - ya, min (xb + xc) (ya + yc) - max xb ya⟩ (by rfl) (by rfl) HAL.out ?_); intro v2 w2 hO3 hb3 hbs3 hkeep; have HO3 := Lib.hid hO3; have HB3 := Lib.hid hb3; have z1 := (hkeep P 1 HP.out hP).trans p1; have z2 := (hkeep P 2 HP.out hP).trans p2; have z3 := (hkeep Q 0 HQ.out hQ).trans q0; have z4 := (hkeep Q 2 HQ.out hQ).trans q2; clear hO3 hb3 hkeep)
                exact ⟨⟨i + 1, j, acc ++ [⟨xa + max xb ya - xb, yb + max xb ya - ya, min (xb + xc) (ya + yc) - max xb ya⟩], by omega, by omega, by go_num, rfl, by simp <;> omega, HO3, HB3, hbs3, HXN⟩, by simp [intOf] <;> omega⟩
              · have HXN : Hid (R = acc ++ [⟨xa + max xb ya - xb, yb + max xb ya - ya, min (xb + xc) (ya + yc) - max xb ya⟩] ++ bo (n - i + (m - (j + 1))) (A.drop (i)) (B.drop (j + 1))) := Lib.hid (by rw [HX2.out, show n - i + (m - j) = n - i + (m - (j + 1)) + 1 by omega, bo_eq, if_pos hbe, if_neg hxy, HDX.out, List.append_assoc])
                go_wp2_with (at_builtin; go_loud (refine sp_appk (by rfl) (.tmp 49) (.tmp 68) (by rfl) (by rfl) HO.out HBD.out HBC.out hbsc ⟨xa + max xb ya - xb, yb + max xb ya - ya, min (xb + xc) (ya + yc) - max xb ya⟩ (by rfl) (by rfl) HAL.out ?_); intro v2 w2 hO3 hb3 hbs3 hkeep; have HO3 := Lib.hid hO3; have HB3 := Lib.hid hb3; have z1 := (hkeep P 1 HP.out hP).trans p1; have z2 := (hkeep P 2 HP.out hP).trans p2; have z3 := (hkeep Q 0 HQ.out hQ).trans q0; have z4 := (hkeep Q 2 HQ.out hQ).trans q2; clear hO3 hb3 hkeep)
                exact ⟨⟨i, j + 1, acc ++ [⟨xa + max xb ya - xb, yb + max xb ya - ya, min (xb + xc) (ya + yc) - max xb ya⟩], by omega, by omega, rfl, by go_num, by simp <;> omega, HO3, HB3, hbs3, HXN⟩, by simp [intOf] <;> omega⟩
            · by_cases hxy : xb + xc < ya + yc
              · have HXN : Hid (R = acc ++ bo (n - (i + 1) + (m - j)) (A.drop (i + 1)) (B.drop (j))) := Lib.hid (by rw [HX2.out, show n - i + (m - j) = n - (i + 1) + (m - j) + 1 by omega, bo_eq, if_neg hbe, if_pos hxy, HDY.out, List.nil_append])
                go_wp2
                exact ⟨⟨i + 1, j, acc, by omega, by omega, by go_num, rfl, by omega, HOC, HBC, hbsc, HXN⟩, by simp [intOf] <;> omega⟩
              · have HXN : Hid (R = acc ++ bo (n - i + (m - (j + 1))) (A.drop (i)) (B.drop (j + 1))) := Lib.hid (by rw [HX2.out, show n - i + (m - j) = n - i + (m - (j + 1)) + 1 by omega, bo_eq, if_neg hbe, if_neg hxy, HDX.out, List.nil_append])
                go_wp2
                exact ⟨⟨i, j + 1, acc, by omega, by omega, rfl, by go_num, by omega, HOC, HBC, hbsc, HXN⟩, by simp [intOf] <;> omega⟩
      · obtain rfl : j = m := by omega
        have HFIN : Hid (R = acc) := Lib.hid (by rw [HX.out, List.drop_eq_nil_of_le (by omega : B.length ≤ j), bo_nil, List.append_nil])
        have k1 : (i : Int) < (n : Int) := by omega
        go_wp2
        go_ret
        exact ⟨_, rfl, HBw.out, by rw [HFIN.out]; exact HO.out⟩
    · obtain rfl : i = n := by omega
      have HFIN : Hid (R = acc) := Lib.hid (by rw [HX.out, List.drop_eq_nil_of_le (by omega : A.length ≤ i), bo_nil', List.append_nil])
      go_wp2
      go_ret
      exact ⟨_, rfl, HBw.out, by rw [HFIN.out]; exact HO.out⟩
end Go.Proofs.Ytdgoblapmjpcaaa.Sp
