/-
  limit.Value: what it returns of any limits and any value.
-/
import Derived.Test.YthkpcanlimhhfaaLimW
import Derived.Test.YthkpcanlimhhfaaLimF
namespace Go.Proofs.Ythkpcanlimhhfaa.VL
open Go.RowKit
set_option linter.unusedVariables false
set_option linter.unusedSimpArgs false
open Go.Proofs.Ythkpcanlimhhfaa.Lim (valB valid_any valid_t valid_f)

/-- The five cells of limits in a block of their own. -/
def LX (w : World) (A : Nat) (cs : List Value) : Prop := w.rowIs A 34 5 (fun i => cs.getD i default)
theorem LX.new (w : World) {cs : List Value} (h : cs.length = 5) : LX (w.alloc (.cells cs.toArray 34)) w.heap.size cs := by
  have := World.rowIs_alloc w cs.toArray 34 (fun i => cs.getD i default) (fun i hi => by
    have hi' : i < cs.length := by simpa using hi
    simp [List.getD_eq_getElem?_getD, List.getElem?_eq_getElem hi'])
  unfold LX
  rw [show cs.toArray.size = 5 by simpa using h] at this
  exact this
theorem LX.at_ {w : World} {A : Nat} {cs : List Value} (h : LX w A cs) {i : Nat} {u : Value} (hi : i < 5) (hu : cs[i]? = some u) : w.cell? ⟨A, i, none⟩ = some u := by
  rw [World.rowIs.cell h hi, List.getD_eq_getElem?_getD, hu]; rfl
theorem BX.all {w : World} {A : Nat} {k : Int} {m : VM} {ab : Option Addr} {nb cb : Nat} {al : Option Addr} {nl cl : Nat} {af : Option Addr} {nf cf : Nat} (h : BX w A [.int .i64 k, .bool m.b, .bool m.ng, .string m.dg, .int .i64 m.ex, .int .i64 m.tk, .int .i64 m.td, .int .i64 m.tn, .int .i64 m.tz, .string m.tx, .slice ab nb cb, .slice al nl cl, .slice af nf cf]) : w.cell? ⟨A, 0, none⟩ = some (.int .i64 k) ∧ w.cell? ⟨A, 1, none⟩ = some (.bool m.b) ∧ w.cell? ⟨A, 2, none⟩ = some (.bool m.ng) ∧ w.cell? ⟨A, 3, none⟩ = some (.string m.dg) ∧ w.cell? ⟨A, 4, none⟩ = some (.int .i64 m.ex) ∧ w.cell? ⟨A, 5, none⟩ = some (.int .i64 m.tk) ∧ w.cell? ⟨A, 6, none⟩ = some (.int .i64 m.td) ∧ w.cell? ⟨A, 7, none⟩ = some (.int .i64 m.tn) ∧ w.cell? ⟨A, 8, none⟩ = some (.int .i64 m.tz) ∧ w.cell? ⟨A, 9, none⟩ = some (.string m.tx) ∧ w.cell? ⟨A, 10, none⟩ = some (.slice ab nb cb) ∧ w.cell? ⟨A, 11, none⟩ = some (.slice al nl cl) ∧ w.cell? ⟨A, 12, none⟩ = some (.slice af nf cf) :=
  ⟨h.at_ (i := 0) (by decide) rfl, h.at_ (i := 1) (by decide) rfl, h.at_ (i := 2) (by decide) rfl, h.at_ (i := 3) (by decide) rfl, h.at_ (i := 4) (by decide) rfl, h.at_ (i := 5) (by decide) rfl, h.at_ (i := 6) (by decide) rfl, h.at_ (i := 7) (by decide) rfl, h.at_ (i := 8) (by decide) rfl, h.at_ (i := 9) (by decide) rfl, h.at_ (i := 10) (by decide) rfl, h.at_ (i := 11) (by decide) rfl, h.at_ (i := 12) (by decide) rfl⟩
/-- What a walk of limit.Value keeps: the two boxes. -/
structure LV (w W : World) (B : Nat) (ld ln lb la le : Int) (k : Int) (m : VM) (ab : Option Addr) (nb cb : Nat) (al : Option Addr) (nl cl : Nat) (af : Option Addr) (nf cf : Nat) : Prop where
  bel : Below w.heap.size w W
  lx : LX W B [.int .i64 ld, .int .i64 ln, .int .i64 lb, .int .i64 la, .int .i64 le]
  vx : BX W (B + 1) [.int .i64 k, .bool m.b, .bool m.ng, .string m.dg, .int .i64 m.ex, .int .i64 m.tk, .int .i64 m.td, .int .i64 m.tn, .int .i64 m.tz, .string m.tx, .slice ab nb cb, .slice al nl cl, .slice af nf cf]
theorem LV.next {w W W' : World} {B : Nat} {ld ln lb la le : Int} {k : Int} {m : VM} {ab : Option Addr} {nb cb : Nat} {al : Option Addr} {nl cl : Nat} {af : Option Addr} {nf cf : Nat} (h : LV w W B ld ln lb la le k m ab nb cb al nl cl af nf cf) (hX : Below W.heap.size W W') : LV w W' B ld ln lb la le k m ab nb cb al nl cl af nf cf :=
  ⟨h.bel.trans (hX.mono h.bel.size), World.rowIs.of_block h.lx (hX.block B (World.rowIs.lt h.lx)), h.vx.below hX h.vx.lt⟩
theorem LV.all {w W : World} {B : Nat} {ld ln lb la le : Int} {k : Int} {m : VM} {ab : Option Addr} {nb cb : Nat} {al : Option Addr} {nl cl : Nat} {af : Option Addr} {nf cf : Nat} (h : LV w W B ld ln lb la le k m ab nb cb al nl cl af nf cf) : LV w W B ld ln lb la le k m ab nb cb al nl cl af nf cf ∧ W.cell? ⟨B, 0, none⟩ = some (.int .i64 ld) ∧ W.cell? ⟨B, 1, none⟩ = some (.int .i64 ln) ∧ W.cell? ⟨B, 2, none⟩ = some (.int .i64 lb) ∧ W.cell? ⟨B, 3, none⟩ = some (.int .i64 la) ∧ W.cell? ⟨B, 4, none⟩ = some (.int .i64 le) ∧ W.cell? ⟨B + 1, 0, none⟩ = some (.int .i64 k) ∧ W.cell? ⟨B + 1, 1, none⟩ = some (.bool m.b) ∧ W.cell? ⟨B + 1, 2, none⟩ = some (.bool m.ng) ∧ W.cell? ⟨B + 1, 3, none⟩ = some (.string m.dg) ∧ W.cell? ⟨B + 1, 4, none⟩ = some (.int .i64 m.ex) ∧ W.cell? ⟨B + 1, 5, none⟩ = some (.int .i64 m.tk) ∧ W.cell? ⟨B + 1, 6, none⟩ = some (.int .i64 m.td) ∧ W.cell? ⟨B + 1, 7, none⟩ = some (.int .i64 m.tn) ∧ W.cell? ⟨B + 1, 8, none⟩ = some (.int .i64 m.tz) ∧ W.cell? ⟨B + 1, 9, none⟩ = some (.string m.tx) ∧ W.cell? ⟨B + 1, 10, none⟩ = some (.slice ab nb cb) ∧ W.cell? ⟨B + 1, 11, none⟩ = some (.slice al nl cl) ∧ W.cell? ⟨B + 1, 12, none⟩ = some (.slice af nf cf) :=
  ⟨h, h.lx.at_ (i := 0) (by decide) rfl, h.lx.at_ (i := 1) (by decide) rfl, h.lx.at_ (i := 2) (by decide) rfl, h.lx.at_ (i := 3) (by decide) rfl, h.lx.at_ (i := 4) (by decide) rfl, h.vx.at_ (i := 0) (by decide) rfl, h.vx.at_ (i := 1) (by decide) rfl, h.vx.at_ (i := 2) (by decide) rfl, h.vx.at_ (i := 3) (by decide) rfl, h.vx.at_ (i := 4) (by decide) rfl, h.vx.at_ (i := 5) (by decide) rfl, h.vx.at_ (i := 6) (by decide) rfl, h.vx.at_ (i := 7) (by decide) rfl, h.vx.at_ (i := 8) (by decide) rfl, h.vx.at_ (i := 9) (by decide) rfl, h.vx.at_ (i := 10) (by decide) rfl, h.vx.at_ (i := 11) (by decide) rfl, h.vx.at_ (i := 12) (by decide) rfl⟩
theorem LV.new (w : World) (ld ln lb la le : Int) (k : Int) (m : VM) (ab : Option Addr) (nb cb : Nat) (al : Option Addr) (nl cl : Nat) (af : Option Addr) (nf cf : Nat) : LV w ((w.alloc (.cells #[.int .i64 ld, .int .i64 ln, .int .i64 lb, .int .i64 la, .int .i64 le] 34)).alloc (.cells #[.int .i64 k, .bool m.b, .bool m.ng, .string m.dg, .int .i64 m.ex, .int .i64 m.tk, .int .i64 m.td, .int .i64 m.tn, .int .i64 m.tz, .string m.tx, .slice ab nb cb, .slice al nl cl, .slice af nf cf] 30)) w.heap.size ld ln lb la le k m ab nb cb al nl cl af nf cf := by
  have hs : (w.alloc (.cells #[.int .i64 ld, .int .i64 ln, .int .i64 lb, .int .i64 la, .int .i64 le] 34)).heap.size = w.heap.size + 1 := by simp
  have h1 := LX.new w (cs := [.int .i64 ld, .int .i64 ln, .int .i64 lb, .int .i64 la, .int .i64 le]) rfl
  have h2 := BX.new (w.alloc (.cells #[.int .i64 ld, .int .i64 ln, .int .i64 lb, .int .i64 la, .int .i64 le] 34)) (cs := [.int .i64 k, .bool m.b, .bool m.ng, .string m.dg, .int .i64 m.ex, .int .i64 m.tk, .int .i64 m.td, .int .i64 m.tn, .int .i64 m.tz, .string m.tx, .slice ab nb cb, .slice al nl cl, .slice af nf cf]) rfl
  rw [hs] at h2
  exact ⟨((Below.refl _ _).alloc (Nat.le_refl _) _).alloc (by simp) _, World.rowIs.alloc h1 _, h2⟩
theorem LV.drew {w W : World} {B : Nat} {ld ln lb la le : Int} {k : Int} {m : VM} {ab : Option Addr} {nb cb : Nat} {al : Option Addr} {nl cl : Nat} {af : Option Addr} {nf cf : Nat} (h : LV w W B ld ln lb la le k m ab nb cb al nl cl af nf cf) : LV w W.drew B ld ln lb la le k m ab nb cb al nl cl af nf cf := ⟨h.bel.drew, h.lx, h.vx⟩
/-- What limit.Value returns. -/
def valT (f : Nat) (t : VT) (ld ln lb la le : Int) : Int :=
  if valB ld ln lb la le = true then (if dpT f t ld.toNat = true then 9 else if ln < (ctT f t ln.toNat : Int) then 10 else 0) else 1
theorem valT_0 {f : Nat} {t : VT} {ld ln lb la le : Int} (h : valB ld ln lb la le = false) : valT f t ld ln lb la le = 1 := by
  unfold valT; rw [if_neg (by rw [h]; decide)]
theorem valT_1 {f : Nat} {t : VT} {ld ln lb la le : Int} (h : valB ld ln lb la le = true) (h2 : dpT f t ld.toNat = true) : valT f t ld ln lb la le = 9 := by
  unfold valT; rw [if_pos h, if_pos h2]
theorem valT_2 {f : Nat} {t : VT} {ld ln lb la le : Int} (h : valB ld ln lb la le = true) (h2 : dpT f t ld.toNat = false) (h3 : ln < (ctT f t ln.toNat : Int)) : valT f t ld ln lb la le = 10 := by
  unfold valT; rw [if_pos h, if_neg (by rw [h2]; decide), if_pos h3]
theorem valT_3 {f : Nat} {t : VT} {ld ln lb la le : Int} (h : valB ld ln lb la le = true) (h2 : dpT f t ld.toNat = false) (h3 : ¬ ln < (ctT f t ln.toNat : Int)) : valT f t ld ln lb la le = 0 := by
  unfold valT; rw [if_pos h, if_neg (by rw [h2]; decide), if_neg h3]
theorem valB_bd {ld ln lb la le : Int} (h1 : valB ld ln lb la le = true) : 1 ≤ ld ∧ ld ≤ 48 ∧ 1 ≤ ln ∧ ln ≤ 65536 ∧ 1 ≤ lb ∧ lb ≤ 1048576 ∧ 0 ≤ la ∧ la ≤ 1024 ∧ 0 ≤ le ∧ le ≤ 65536 := by
  unfold valB at h1; simpa only [decide_eq_true_eq] using h1
set_option maxRecDepth 100000 in
set_option maxHeartbeats 8000000 in
theorem lval_any (ld ln lb la le : Int) (hld : -9223372036854775808 ≤ ld ∧ ld ≤ 9223372036854775807) (hln : -9223372036854775808 ≤ ln ∧ ln ≤ 9223372036854775807) (hlb : -9223372036854775808 ≤ lb ∧ lb ≤ 9223372036854775807) (hla : -9223372036854775808 ≤ la ∧ la ≤ 9223372036854775807) (hle : -9223372036854775808 ≤ le ∧ le ≤ 9223372036854775807) (f : Nat) (cs : List Value) (t : VT) (w : World) (hV : VR w w.heap.size f cs t) : Calls Try.prog 7 #[.agg #[.int .i64 ld, .int .i64 ln, .int .i64 lb, .int .i64 la, .int .i64 le], .agg cs.toArray] w fun e w' => e = .returned (.int .i64 (valT f t ld ln lb la le)) ∧ Below w.heap.size w w' := by
  obtain ⟨k, m, l, fs, ab, nb, cb, al, nl, cl, af, nf, cf, rfl, rfl⟩ := hV.form
  change Calls Try.prog 7 #[.agg #[.int .i64 ld, .int .i64 ln, .int .i64 lb, .int .i64 la, .int .i64 le], .agg #[.int .i64 k, .bool m.b, .bool m.ng, .string m.dg, .int .i64 m.ex, .int .i64 m.tk, .int .i64 m.td, .int .i64 m.tn, .int .i64 m.tz, .string m.tx, .slice ab nb cb, .slice al nl cl, .slice af nf cf]] w _
  obtain ⟨T, hT⟩ : ∃ T : VT, T = .mk k m l fs := ⟨_, rfl⟩
  rw [← hT] at hV
  cases hB : valB ld ln lb la le with
  | false =>
    have HR := Lib.hid (valT_0 (f := f) (t := T) hB)
    have HB9 := Lib.hid hB
    clear hB
    have HQ0 := Lib.hid (LV.new w ld ln lb la le k m ab nb cb al nl cl af nf cf)
    rw [← hT]
    go_enter Try.func7, Try.ntmps7
    go_wp2_with (go_at_call 10; (with_reducible refine (valid_f hld hln hlb hla hle HB9).mono ?_); rintro e w1 ⟨rfl, hX⟩; have HQ1 := Lib.hid (HQ0.out.next hX); obtain ⟨_, y0_, y1_, y2_, y3_, y4_, x0_, x1_, x2_, x3_, x4_, x5_, x6_, x7_, x8_, x9_, x10_, x11_, x12_⟩ := HQ1.out.all; clear hX)
    go_ret
    exact ⟨ret_int HR.out.symm, HQ1.out.bel⟩
  | true =>
    have hbd := valB_bd hB
    have HB9 := Lib.hid hB
    have HQ0 := Lib.hid (LV.new w ld ln lb la le k m ab nb cb al nl cl af nf cf)
    obtain ⟨d, hd⟩ : ∃ d : Nat, (ld : Int) = d := ⟨ld.toNat, by omega⟩
    obtain ⟨n, hn⟩ : ∃ n : Nat, (ln : Int) = n := ⟨ln.toNat, by omega⟩
    have hdn : ld.toNat = d := by omega
    have hnn : ln.toNat = n := by omega
    have HD := Lib.hid (fun (w1 : World) (hb : Below w.heap.size w w1) => deeper_any f _ T d w1 ld (hV.next hb) (by omega) hd)
    have HC := Lib.hid (fun (w1 : World) (hb : Below w.heap.size w w1) => count_any f _ T n w1 ln (hV.next hb) (by omega) hn)
    have HV1 := Lib.hid (valT_1 (f := f) (t := T) hB)
    have HV2 := Lib.hid (valT_2 (f := f) (t := T) hB)
    have HV3 := Lib.hid (valT_3 (f := f) (t := T) hB)
    rw [hdn] at HV1
    rw [hdn, hnn] at HV2 HV3
    rw [← hT]
    clear hB hT hV hdn hnn hd hn
    obtain ⟨R, hR⟩ : ∃ R, valT f T ld ln lb la le = R := ⟨_, rfl⟩
    rw [hR] at HV1 HV2 HV3 ⊢
    clear hR
    obtain ⟨D, hD⟩ : ∃ D, dpT f T d = D := ⟨_, rfl⟩
    rw [hD] at HV1 HV2 HV3 HD
    clear hD
    obtain ⟨c, hc⟩ : ∃ c : Int, (ctT f T n : Int) = c := ⟨_, rfl⟩
    rw [hc] at HV2 HV3 HC
    clear hc
    cases D with
    | true =>
      have HR := Lib.hid (HV1.out rfl)
      clear HV1 HV2 HV3
      go_enter Try.func7, Try.ntmps7
      go_wp2_with (first | (go_at_call 10; (with_reducible refine (valid_t hld hln hlb hla hle HB9).mono ?_); rintro e w1 ⟨rfl, hX⟩; have HQ1 := Lib.hid (HQ0.out.next hX); obtain ⟨_, y0_, y1_, y2_, y3_, y4_, x0_, x1_, x2_, x3_, x4_, x5_, x6_, x7_, x8_, x9_, x10_, x11_, x12_⟩ := HQ1.out.all; clear hX) | (go_at_call 11; (with_reducible refine (HD.out _ HQ1.out.bel).mono ?_); rintro e w2 ⟨rfl, hX⟩; have HQ2 := Lib.hid (HQ1.out.next hX); obtain ⟨_, y0__, y1__, y2__, y3__, y4__, x0__, x1__, x2__, x3__, x4__, x5__, x6__, x7__, x8__, x9__, x10__, x11__, x12__⟩ := HQ2.out.all; clear hX))
      go_ret
      exact ⟨ret_int HR.out.symm, HQ2.out.bel⟩
    | false =>
      by_cases hlt : ln < c
      · have HR := Lib.hid (HV2.out rfl hlt)
        clear HV1 HV2 HV3
        go_enter Try.func7, Try.ntmps7
        go_wp2_with (first | (go_at_call 10; (with_reducible refine (valid_t hld hln hlb hla hle HB9).mono ?_); rintro e w1 ⟨rfl, hX⟩; have HQ1 := Lib.hid (HQ0.out.next hX); obtain ⟨_, y0_, y1_, y2_, y3_, y4_, x0_, x1_, x2_, x3_, x4_, x5_, x6_, x7_, x8_, x9_, x10_, x11_, x12_⟩ := HQ1.out.all; clear hX) | (go_at_call 11; (with_reducible refine (HD.out _ HQ1.out.bel).mono ?_); rintro e w2 ⟨rfl, hX⟩; have HQ2 := Lib.hid (HQ1.out.next hX); obtain ⟨_, y0__, y1__, y2__, y3__, y4__, x0__, x1__, x2__, x3__, x4__, x5__, x6__, x7__, x8__, x9__, x10__, x11__, x12__⟩ := HQ2.out.all; clear hX))
        go_region_held3 (fun (W : World) => LV w W w.heap.size ld ln lb la le k m ab nb cb al nl cl af nf cf ∧ W.cell? ⟨w.heap.size, 0, none⟩ = some (.int .i64 ld) ∧ W.cell? ⟨w.heap.size, 1, none⟩ = some (.int .i64 ln) ∧ W.cell? ⟨w.heap.size, 2, none⟩ = some (.int .i64 lb) ∧ W.cell? ⟨w.heap.size, 3, none⟩ = some (.int .i64 la) ∧ W.cell? ⟨w.heap.size, 4, none⟩ = some (.int .i64 le) ∧ W.cell? ⟨w.heap.size + 1, 0, none⟩ = some (.int .i64 k) ∧ W.cell? ⟨w.heap.size + 1, 1, none⟩ = some (.bool m.b) ∧ W.cell? ⟨w.heap.size + 1, 2, none⟩ = some (.bool m.ng) ∧ W.cell? ⟨w.heap.size + 1, 3, none⟩ = some (.string m.dg) ∧ W.cell? ⟨w.heap.size + 1, 4, none⟩ = some (.int .i64 m.ex) ∧ W.cell? ⟨w.heap.size + 1, 5, none⟩ = some (.int .i64 m.tk) ∧ W.cell? ⟨w.heap.size + 1, 6, none⟩ = some (.int .i64 m.td) ∧ W.cell? ⟨w.heap.size + 1, 7, none⟩ = some (.int .i64 m.tn) ∧ W.cell? ⟨w.heap.size + 1, 8, none⟩ = some (.int .i64 m.tz) ∧ W.cell? ⟨w.heap.size + 1, 9, none⟩ = some (.string m.tx) ∧ W.cell? ⟨w.heap.size + 1, 10, none⟩ = some (.slice ab nb cb) ∧ W.cell? ⟨w.heap.size + 1, 11, none⟩ = some (.slice al nl cl) ∧ W.cell? ⟨w.heap.size + 1, 12, none⟩ = some (.slice af nf cf)) ((first | (go_split_ands; exact LV.all (by assumption)) | (go_split_ands; exact LV.all (LV.drew (by assumption))) | (go_split_ands; exact LV.all (LV.next (by assumption) hX)))) ((go_at_call 12; go_split_ands; (with_reducible refine (HC.out _ (LV.bel (LV.drew (by assumption)))).mono ?_); rintro e wn ⟨rfl, hX⟩))
        all_goals go_wp2
        all_goals go_ret
        all_goals go_split_ands
        all_goals exact ⟨ret_int HR.out.symm, LV.bel (by assumption)⟩
      · have HR := Lib.hid (HV3.out rfl hlt)
        clear HV1 HV2 HV3
        go_enter Try.func7, Try.ntmps7
        go_wp2_with (first | (go_at_call 10; (with_reducible refine (valid_t hld hln hlb hla hle HB9).mono ?_); rintro e w1 ⟨rfl, hX⟩; have HQ1 := Lib.hid (HQ0.out.next hX); obtain ⟨_, y0_, y1_, y2_, y3_, y4_, x0_, x1_, x2_, x3_, x4_, x5_, x6_, x7_, x8_, x9_, x10_, x11_, x12_⟩ := HQ1.out.all; clear hX) | (go_at_call 11; (with_reducible refine (HD.out _ HQ1.out.bel).mono ?_); rintro e w2 ⟨rfl, hX⟩; have HQ2 := Lib.hid (HQ1.out.next hX); obtain ⟨_, y0__, y1__, y2__, y3__, y4__, x0__, x1__, x2__, x3__, x4__, x5__, x6__, x7__, x8__, x9__, x10__, x11__, x12__⟩ := HQ2.out.all; clear hX))
        go_region_held3 (fun (W : World) => LV w W w.heap.size ld ln lb la le k m ab nb cb al nl cl af nf cf ∧ W.cell? ⟨w.heap.size, 0, none⟩ = some (.int .i64 ld) ∧ W.cell? ⟨w.heap.size, 1, none⟩ = some (.int .i64 ln) ∧ W.cell? ⟨w.heap.size, 2, none⟩ = some (.int .i64 lb) ∧ W.cell? ⟨w.heap.size, 3, none⟩ = some (.int .i64 la) ∧ W.cell? ⟨w.heap.size, 4, none⟩ = some (.int .i64 le) ∧ W.cell? ⟨w.heap.size + 1, 0, none⟩ = some (.int .i64 k) ∧ W.cell? ⟨w.heap.size + 1, 1, none⟩ = some (.bool m.b) ∧ W.cell? ⟨w.heap.size + 1, 2, none⟩ = some (.bool m.ng) ∧ W.cell? ⟨w.heap.size + 1, 3, none⟩ = some (.string m.dg) ∧ W.cell? ⟨w.heap.size + 1, 4, none⟩ = some (.int .i64 m.ex) ∧ W.cell? ⟨w.heap.size + 1, 5, none⟩ = some (.int .i64 m.tk) ∧ W.cell? ⟨w.heap.size + 1, 6, none⟩ = some (.int .i64 m.td) ∧ W.cell? ⟨w.heap.size + 1, 7, none⟩ = some (.int .i64 m.tn) ∧ W.cell? ⟨w.heap.size + 1, 8, none⟩ = some (.int .i64 m.tz) ∧ W.cell? ⟨w.heap.size + 1, 9, none⟩ = some (.string m.tx) ∧ W.cell? ⟨w.heap.size + 1, 10, none⟩ = some (.slice ab nb cb) ∧ W.cell? ⟨w.heap.size + 1, 11, none⟩ = some (.slice al nl cl) ∧ W.cell? ⟨w.heap.size + 1, 12, none⟩ = some (.slice af nf cf)) ((first | (go_split_ands; exact LV.all (by assumption)) | (go_split_ands; exact LV.all (LV.drew (by assumption))) | (go_split_ands; exact LV.all (LV.next (by assumption) hX)))) ((go_at_call 12; go_split_ands; (with_reducible refine (HC.out _ (LV.bel (LV.drew (by assumption)))).mono ?_); rintro e wn ⟨rfl, hX⟩))
        all_goals go_wp2
        all_goals go_ret
        all_goals go_split_ands
        all_goals exact ⟨ret_int HR.out.symm, LV.bel (by assumption)⟩
end Go.Proofs.Ythkpcanlimhhfaa.VL
