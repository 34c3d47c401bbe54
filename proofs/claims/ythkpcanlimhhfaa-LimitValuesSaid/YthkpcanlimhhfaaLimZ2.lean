/-
  The reference's Deeper, Nodes and Value; the law LimitValues.
-/
import Derived.Test.YthkpcanlimhhfaaLimZ
namespace Go.Proofs.Ythkpcanlimhhfaa.VL
open Go.RowKit
set_option linter.unusedVariables false
set_option linter.unusedSimpArgs false
open Go.Proofs.Ythkpcanlimhhfaa.Lim (valB rvalid_any rvalid_t rvalid_f awake_any)

theorem sm_map {α β : Type} (g : β → Nat) (h : α → β) (L : List α) (q : Nat) : sm g (L.map h) q = sm (fun x => g (h x)) L q := by
  unfold sm; rw [← List.map_take, List.map_map]; rfl
theorem sm_mono {α : Type} {g h : α → Nat} (hgh : ∀ x, g x ≤ h x) (L : List α) (q : Nat) : sm g L q ≤ sm h L q := by
  unfold sm
  induction L.take q with
  | nil => simp
  | cons x r ih => simp; have := hgh x; omega
theorem sm_at {α : Type} {g : α → Nat} {L : List α} {k : Nat} {x : α} (h : L[k]? = some x) : ∀ n, k < n → g x ≤ sm g L n := by
  intro n hn
  induction n with
  | zero => omega
  | succ n ih =>
    have hk := (List.getElem?_eq_some_iff.1 h).1
    rcases Nat.lt_or_ge k n with h1 | h1
    · have := ih h1
      by_cases h2 : n < L.length
      · rw [sm_step (g := g) (List.getElem?_eq_getElem h2)]; omega
      · unfold sm at *
        rw [List.take_of_length_le (by omega)] at *
        exact this
    · have e : k = n := by omega
      subst e
      rw [sm_step (g := g) h]; omega
theorem sm_len {α : Type} {g : α → Nat} (hg : ∀ x, 1 ≤ g x) (L : List α) : L.length ≤ sm g L L.length := by
  unfold sm
  rw [List.take_length]
  induction L with
  | nil => simp
  | cons x r ih => simp; have := hg x; omega
theorem szT_pos : ∀ (f : Nat) (t : VT), 1 ≤ szT f t := by
  intro f t
  cases f with
  | zero => exact Nat.le_refl _
  | succ f => cases t with | mk k m l fs => unfold szT; omega
/-- The parts of a value weigh less than it does. -/
theorem sz_parts {f : Nat} {k : Int} {m : VM} {l : List VT} {fs : List (ByteArray × VT)} : 1 + sm (szT f) (ptT k l fs) (ptT k l fs).length ≤ szT (f + 1) (.mk k m l fs) := by
  unfold ptT
  simp only [szT]
  split
  · omega
  · split
    · rw [sm_map, List.length_map]; omega
    · simp [sm]; omega
theorem sz_fields {f : Nat} {k : Int} {m : VM} {l : List VT} {fs : List (ByteArray × VT)} : fs.length ≤ szT (f + 1) (.mk k m l fs) := by
  have := sm_len (g := fun (p : ByteArray × VT) => szT f p.2) (fun p => szT_pos f p.2) fs
  simp only [szT]; omega
theorem dp_parts {f : Nat} {k : Int} {m : VM} {l : List VT} {fs : List (ByteArray × VT)} {d : Nat} (hd : d ≠ 0) : dpT (f + 1) (.mk k m l fs) d = (ptT k l fs).any (fun t => dpT f t (d - 1)) := by
  unfold ptT
  simp only [dpT]
  rw [if_neg hd]
  split
  · rfl
  · split
    · rw [List.any_map]; rfl
    · rfl
/-- The nodes of a value. -/
def ndT : Nat → VT → Nat
  | 0, _ => 1
  | f + 1, .mk k _ l fs => 1 + sm (ndT f) (ptT k l fs) (ptT k l fs).length
theorem nd_le : ∀ (f : Nat) (t : VT), ndT f t ≤ szT f t := by
  intro f
  induction f with
  | zero => intro t; exact Nat.le_refl _
  | succ f ih =>
    intro t
    cases t with
    | mk k m l fs =>
      have h1 := sm_mono ih (ptT k l fs) (ptT k l fs).length
      have h2 := sz_parts (f := f) (k := k) (m := m) (l := l) (fs := fs)
      unfold ndT; omega
theorem nd_pos (f : Nat) (t : VT) : 1 ≤ ndT f t := by
  cases f with
  | zero => exact Nat.le_refl _
  | succ f => cases t with | mk k m l fs => unfold ndT; omega
/-- Counting up to a limit tells whether the nodes are more. -/
theorem ctl_nd {α : Type} {g : α → Nat → Nat} {h : α → Nat} {L : Nat} (hg : ∀ x M, (h x ≤ M → g x M = h x) ∧ (M < h x → M < g x M)) : ∀ (l : List α) (n : Nat), (n + (l.map h).sum ≤ L → ctl g L l n = n + (l.map h).sum) ∧ (L < n + (l.map h).sum → L < ctl g L l n) := by
  intro l
  induction l with
  | nil => intro n; simp [ctl]
  | cons x r ih =>
    intro n
    have e : ((x :: r).map h).sum = h x + (r.map h).sum := by simp
    rw [e, ctl]
    by_cases hn : n ≤ L
    · rw [if_pos hn]
      obtain ⟨g1, g2⟩ := hg x (L - n)
      by_cases hx : h x ≤ L - n
      · rw [g1 hx]
        have := ih (n + h x)
        rw [Nat.add_assoc] at this
        exact this
      · have h3 := g2 (by omega)
        rw [ctl_over _ _ (by omega)]
        omega
    · rw [if_neg hn, ctl_over _ _ (by omega)]
      omega
theorem ct_nd : ∀ (f : Nat) (t : VT) (L : Nat), (ndT f t ≤ L → ctT f t L = ndT f t) ∧ (L < ndT f t → L < ctT f t L) := by
  intro f
  induction f with
  | zero => intro t L; exact ⟨fun _ => rfl, fun h => h⟩
  | succ f ih =>
    intro t L
    cases t with
    | mk k m l fs =>
      have e : ∀ (M : List VT), sm (ndT f) M M.length = (M.map (ndT f)).sum := fun M => by unfold sm; rw [List.take_length]
      simp only [ndT, ctT, ptT]
      split
      · rw [e]; exact ctl_nd (fun x M => ih x M) l 1
      · split
        · rw [e, List.map_map]; exact ctl_nd (g := fun (p : ByteArray × VT) => ctT f p.2) (h := (ndT f) ∘ (fun p => p.2)) (fun x M => ih x.2 M) fs 1
        · simp [sm]
theorem ct_lt {f : Nat} {t : VT} {L : Nat} : L < ctT f t L ↔ L < ndT f t := by
  obtain ⟨h1, h2⟩ := ct_nd f t L
  constructor
  · intro h
    rcases Nat.lt_or_ge L (ndT f t) with h3 | h3
    · exact h3
    · rw [h1 h3] at h; omega
  · exact h2
set_option maxRecDepth 100000 in
set_option maxHeartbeats 8000000 in
theorem rdeeper_any : ∀ (f : Nat) (cs : List Value) (t : VT) (d : Nat) (w : World) (z : Int), VR w w.heap.size f cs t → szT f t ≤ 1000 → d ≤ 1000 → z = (d : Int) → Calls Try.prog 14 #[.agg cs.toArray, .int .i64 z] w fun e w' => e = .returned (.bool (dpT f t d)) ∧ Below w.heap.size w w' := by
  intro f
  induction f with
  | zero => intro cs t d w z h; exact h.elim
  | succ f ih =>
    intro cs t d w z h hsz hd hz
    have IH := Lib.hid ih
    have hV := h
    obtain ⟨k, m, l, fs, ab, nb, cb, al, nl, cl, af, nf, cf, rfl, rfl⟩ := h.form
    have bl : Below w.heap.size w (w.alloc (.cells #[.int .i64 k, .bool m.b, .bool m.ng, .string m.dg, .int .i64 m.ex, .int .i64 m.tk, .int .i64 m.td, .int .i64 m.tn, .int .i64 m.tz, .string m.tx, .slice ab nb cb, .slice al nl cl, .slice af nf cf] 30)) := (Below.refl _ _).alloc (Nat.le_refl _) _
    have HP := Lib.hid (parts_any f _ k m l fs _ (hV.next bl) (by have := sz_fields (f := f) (k := k) (m := m) (l := l) (fs := fs); omega))
    obtain ⟨P, hP⟩ : ∃ P, ptT k l fs = P := ⟨_, rfl⟩
    have hsp := sz_parts (f := f) (k := k) (m := m) (l := l) (fs := fs)
    have HDP := Lib.hid (dp_parts (f := f) (k := k) (m := m) (l := l) (fs := fs) (d := d))
    rw [hP] at HP hsp HDP
    have HSZ := Lib.hid (fun (i : Nat) (x : VT) (hi : P[i]? = some x) => Nat.le_trans (Nat.le_trans (sm_at (g := szT f) hi P.length ((List.getElem?_eq_some_iff.1 hi).1)) (Nat.le_trans (Nat.le_add_left _ 1) hsp)) hsz)
    clear hP hsp hsz ih hV h
    obtain ⟨np, hnp⟩ : ∃ n, P.length = n := ⟨_, rfl⟩
    change Calls Try.prog 14 #[.agg #[.int .i64 k, .bool m.b, .bool m.ng, .string m.dg, .int .i64 m.ex, .int .i64 m.tk, .int .i64 m.td, .int .i64 m.tn, .int .i64 m.tz, .string m.tx, .slice ab nb cb, .slice al nl cl, .slice af nf cf], .int .i64 z] w _
    subst hz
    by_cases hd0 : d = 0
    · subst hd0
      have HR : Hid (dpT (f + 1) (.mk k m l fs) 0 = true) := Lib.hid (if_pos rfl)
      go_enter Try.func14, Try.ntmps14
      go_wp2
      go_ret
      exact ⟨ret_bool HR.out.symm, bl⟩
    have hd1 : ¬ ((d : Int) < 1) := by omega
    have hw1 : IntKind.i64.wrap ((d : Int) - 1) = (d : Int) - 1 := IntWalk.i64_in _ (by omega)
    have HR0 := HDP.out hd0
    obtain ⟨G, hG⟩ : ∃ G : VT → Bool, G = (fun t => dpT f t (d - 1)) := ⟨_, rfl⟩
    rw [← hG] at HR0
    have HR := Lib.hid HR0
    have hGG : ∀ t', G t' = dpT f t' (d - 1) := fun t' => by rw [hG]
    have HEND := Lib.hid (any_end (g := G) (L := P) (k := np) (by omega))
    clear hG HR0 HDP
    have x0 := (BX.new w (cs := [.int .i64 k, .bool m.b, .bool m.ng, .string m.dg, .int .i64 m.ex, .int .i64 m.tk, .int .i64 m.td, .int .i64 m.tn, .int .i64 m.tz, .string m.tx, .slice ab nb cb, .slice al nl cl, .slice af nf cf]) rfl).all
    go_enter Try.func14, Try.ntmps14
    go_wp2_with (go_at_call 19; (with_reducible refine (HP.out).mono ?_); rintro e w1 ⟨v1, rfl, hS, hX1⟩; obtain ⟨a1, c1, rfl, hp9⟩ := SlR.slice hS hnp; have C1 := Lib.hid (SlR.at13 hS hnp); have bl1 := bl.trans (hX1.mono bl.size); have blz := Below.refl w1.heap.size w1; clear hS hX1)
    go_loopw [6] (fun i wr => ∃ (q : Nat), q ≤ np ∧ i = .int .i64 q ∧ Below w1.heap.size w1 wr ∧ Hid (P.any G = (P.drop q).any G)) (fun i _ => np - (intOf i).toNat)
    case atStart => exact ⟨0, by omega, rfl, blz, Lib.hid rfl⟩
    case round =>
      clear blz x0
      obtain ⟨q, hq, rfl, blz, HX⟩ := hrel
      have blw := bl1.trans (blz.mono bl1.size)
      by_cases hlt : q < np
      · obtain ⟨g, o, kx, mx, lx, fx, ax1, nx1, cx1, ax2, nx2, cx2, ax3, nx3, cx3, rfl, hx, hg, hv, e0, e1, e2, e3, e4, e5, e6, e7, e8, e9, e10, e11, e12⟩ := C1.out _ blz q hlt
        have HST := Lib.hid (any_step (g := G) hx)
        have HC := Lib.hid (fun z hz => IH.out _ _ (d - 1) wr z hv (HSZ.out _ _ hx) (by omega) hz)
        obtain ⟨bb, hbb⟩ : ∃ bb, dpT f (.mk kx mx lx fx) (d - 1) = bb := ⟨_, rfl⟩
        rw [hbb] at HC
        have HGB : Hid (G (.mk kx mx lx fx) = bb) := Lib.hid ((hGG _).trans hbb)
        clear hbb hv hx
        cases bb with
        | true =>
          have HX2 : Hid (P.any G = true) := Lib.hid (by rw [HX.out, HST.out, HGB.out, Bool.true_or])
          clear HST HX HGB
          go_wp2_with (go_at_call 14; (with_reducible refine (HC.out _ (by omega)).mono ?_); rintro e w2 ⟨rfl, hX⟩; have blw2 := blw.trans (hX.mono blw.size); clear hX)
          go_ret
          exact ⟨ret_bool (HR.out.trans HX2.out).symm, blw2⟩
        | false =>
          have HX2 : Hid (P.any G = (P.drop (q + 1)).any G) := Lib.hid (by rw [HX.out, HST.out, HGB.out, Bool.false_or])
          clear HST HX HGB
          go_wp2_with (go_at_call 14; (with_reducible refine (HC.out _ (by omega)).mono ?_); rintro e w2 ⟨rfl, hX⟩; have blz2 := blz.trans (hX.mono blz.size); clear hX)
          exact ⟨⟨q + 1, by omega, by go_num, blz2, HX2⟩, by simp [intOf]; omega⟩
      · obtain rfl : np = q := by omega
        have HX2 : Hid (P.any G = false) := Lib.hid (HX.out.trans HEND.out)
        go_wp2
        go_ret
        exact ⟨ret_bool (HR.out.trans HX2.out).symm, blw⟩
set_option maxRecDepth 100000 in
set_option maxHeartbeats 8000000 in
theorem nodes_any : ∀ (f : Nat) (cs : List Value) (t : VT) (w : World), VR w w.heap.size f cs t → szT f t ≤ 1000 → Calls Try.prog 15 #[.agg cs.toArray] w fun e w' => e = .returned (.int .i64 (ndT f t)) ∧ Below w.heap.size w w' := by
  intro f
  induction f with
  | zero => intro cs t w h; exact h.elim
  | succ f ih =>
    intro cs t w h hsz
    have IH := Lib.hid ih
    have hV := h
    obtain ⟨k, m, l, fs, ab, nb, cb, al, nl, cl, af, nf, cf, rfl, rfl⟩ := h.form
    have bl : Below w.heap.size w (w.alloc (.cells #[.int .i64 k, .bool m.b, .bool m.ng, .string m.dg, .int .i64 m.ex, .int .i64 m.tk, .int .i64 m.td, .int .i64 m.tn, .int .i64 m.tz, .string m.tx, .slice ab nb cb, .slice al nl cl, .slice af nf cf] 30)) := (Below.refl _ _).alloc (Nat.le_refl _) _
    have HP := Lib.hid (parts_any f _ k m l fs _ (hV.next bl) (by have := sz_fields (f := f) (k := k) (m := m) (l := l) (fs := fs); omega))
    obtain ⟨P, hP⟩ : ∃ P, ptT k l fs = P := ⟨_, rfl⟩
    have hsp := sz_parts (f := f) (k := k) (m := m) (l := l) (fs := fs)
    have hnd : ndT (f + 1) (.mk k m l fs) = 1 + sm (ndT f) (ptT k l fs) (ptT k l fs).length := rfl
    rw [hP] at HP hsp hnd
    have HSZ := Lib.hid (fun (i : Nat) (x : VT) (hi : P[i]? = some x) => Nat.le_trans (Nat.le_trans (sm_at (g := szT f) hi P.length ((List.getElem?_eq_some_iff.1 hi).1)) (Nat.le_trans (Nat.le_add_left _ 1) hsp)) hsz)
    obtain ⟨np, hnp⟩ : ∃ n, P.length = n := ⟨_, rfl⟩
    rw [hnp] at hnd hsp
    have hle := sm_mono (nd_le f) P np
    have hmono : ∀ q, q ≤ np → sm (ndT f) P q ≤ 1000 := fun q hq => by
      have h1 : sm (ndT f) P q ≤ sm (ndT f) P np := by
        obtain ⟨r, rfl⟩ := Nat.exists_eq_add_of_le hq
        clear hq hnd hsp hle
        have : ∀ r, q + r ≤ P.length → sm (ndT f) P q ≤ sm (ndT f) P (q + r) := by
          intro r
          induction r with
          | zero => intro _; exact Nat.le_refl _
          | succ r ih2 =>
            intro h2
            have := ih2 (by omega)
            rw [← Nat.add_assoc, sm_step (g := ndT f) (List.getElem?_eq_getElem (show q + r < P.length by omega))]
            omega
        exact this r (by omega)
      omega
    have HMO := Lib.hid hmono
    clear hP hsp hsz ih hV h hle hmono
    obtain ⟨G, hG⟩ : ∃ G : VT → Nat, G = ndT f := ⟨_, rfl⟩
    rw [← hG] at hnd HMO
    have HND := Lib.hid hnd
    have hGG : ∀ t', G t' = ndT f t' := fun t' => by rw [hG]
    clear hG hnd
    change Calls Try.prog 15 #[.agg #[.int .i64 k, .bool m.b, .bool m.ng, .string m.dg, .int .i64 m.ex, .int .i64 m.tk, .int .i64 m.td, .int .i64 m.tn, .int .i64 m.tz, .string m.tx, .slice ab nb cb, .slice al nl cl, .slice af nf cf]] w _
    have x0 := (BX.new w (cs := [.int .i64 k, .bool m.b, .bool m.ng, .string m.dg, .int .i64 m.ex, .int .i64 m.tk, .int .i64 m.td, .int .i64 m.tn, .int .i64 m.tz, .string m.tx, .slice ab nb cb, .slice al nl cl, .slice af nf cf]) rfl).all
    go_enter Try.func15, Try.ntmps15
    go_wp2_with (go_at_call 19; (with_reducible refine (HP.out).mono ?_); rintro e w1 ⟨v1, rfl, hS, hX1⟩; obtain ⟨a1, c1, rfl, hp9⟩ := SlR.slice hS hnp; have C1 := Lib.hid (SlR.at13 hS hnp); have bl1 := bl.trans (hX1.mono bl.size); have blz := Below.refl w1.heap.size w1; clear hS hX1)
    go_loopw [3, 5] (fun nn i wr => ∃ (q n : Nat), q ≤ np ∧ i = .int .i64 q ∧ nn = .int .i64 n ∧ n ≤ 1001 ∧ Below w1.heap.size w1 wr ∧ Hid (n = 1 + sm G P q)) (fun _ i _ => np - (intOf i).toNat)
    case atStart => exact ⟨0, 1, by omega, rfl, rfl, by omega, blz, Lib.hid (by rw [sm_zero])⟩
    case round =>
      clear blz x0
      obtain ⟨q, n, hq, rfl, rfl, hn, blz, HX⟩ := hrel
      have blw := bl1.trans (blz.mono bl1.size)
      by_cases hlt : q < np
      · obtain ⟨g, o, kx, mx, lx, fx, ax1, nx1, cx1, ax2, nx2, cx2, ax3, nx3, cx3, rfl, hx, hg, hv, e0, e1, e2, e3, e4, e5, e6, e7, e8, e9, e10, e11, e12⟩ := C1.out _ blz q hlt
        have HST := Lib.hid (sm_step (g := G) hx)
        have HC := Lib.hid (IH.out _ _ wr hv (HSZ.out _ _ hx))
        obtain ⟨r, hr⟩ : ∃ r, ndT f (.mk kx mx lx fx) = r := ⟨_, rfl⟩
        rw [hr] at HC
        have HG : Hid (G (.mk kx mx lx fx) = r) := Lib.hid ((hGG _).trans hr)
        have hb1 : n + r ≤ 1001 := by have h1 := HMO.out (q + 1) (by omega); have h2 := HX.out; rw [HST.out, HG.out] at h1; omega
        have HX2 : Hid (n + r = 1 + sm G P (q + 1)) := Lib.hid (by rw [HST.out, HG.out, HX.out]; omega)
        have hs2 : IntKind.i64.wrap ((n : Int) + (r : Int)) = ((n + r : Nat) : Int) := by rw [IntWalk.i64_in _ (by omega)]; push_cast; rfl
        clear hr hv hx HST HX HG
        go_wp2_with (go_at_call 15; (with_reducible refine (HC.out).mono ?_); rintro e w2 ⟨rfl, hX⟩; have blz2 := blz.trans (hX.mono blz.size); clear hX)
        exact ⟨⟨q + 1, n + r, by omega, by go_num, rfl, hb1, blz2, HX2⟩, by simp [intOf]; omega⟩
      · obtain rfl : np = q := by omega
        have HX2 := Lib.hid (HND.out.trans HX.out.symm)
        go_wp2
        go_ret
        exact ⟨ret_int (by rw [HX2.out]), blw⟩
set_option maxRecDepth 100000 in
set_option maxHeartbeats 8000000 in
theorem rval_any (ld ln lb la le : Int) (hld : -9223372036854775808 ≤ ld ∧ ld ≤ 9223372036854775807) (hln : -9223372036854775808 ≤ ln ∧ ln ≤ 9223372036854775807) (hlb : -9223372036854775808 ≤ lb ∧ lb ≤ 9223372036854775807) (hla : -9223372036854775808 ≤ la ∧ la ≤ 9223372036854775807) (hle : -9223372036854775808 ≤ le ∧ le ≤ 9223372036854775807) (f : Nat) (cs : List Value) (t : VT) (w : World) (hV : VR w w.heap.size f cs t) (hsz : szT f t ≤ 1000) : Calls Try.prog 8 #[.agg #[.int .i64 ld, .int .i64 ln, .int .i64 lb, .int .i64 la, .int .i64 le], .agg cs.toArray] w fun e w' => e = .returned (.int .i64 (valT f t ld ln lb la le)) ∧ Below w.heap.size w w' := by
  obtain ⟨k, m, l, fs, ab, nb, cb, al, nl, cl, af, nf, cf, rfl, rfl⟩ := hV.form
  change Calls Try.prog 8 #[.agg #[.int .i64 ld, .int .i64 ln, .int .i64 lb, .int .i64 la, .int .i64 le], .agg #[.int .i64 k, .bool m.b, .bool m.ng, .string m.dg, .int .i64 m.ex, .int .i64 m.tk, .int .i64 m.td, .int .i64 m.tn, .int .i64 m.tz, .string m.tx, .slice ab nb cb, .slice al nl cl, .slice af nf cf]] w _
  obtain ⟨T, hT⟩ : ∃ T : VT, T = .mk k m l fs := ⟨_, rfl⟩
  rw [← hT] at hV hsz
  cases hB : valB ld ln lb la le with
  | false =>
    have HR := Lib.hid (valT_0 (f := f) (t := T) hB)
    have HB9 := Lib.hid hB
    clear hB
    have HQ0 := Lib.hid (LV.new w ld ln lb la le k m ab nb cb al nl cl af nf cf)
    rw [← hT]
    go_enter Try.func8, Try.ntmps8
    go_wp2_with (go_at_call 13; (with_reducible refine (rvalid_f HB9).mono ?_); rintro e w1 ⟨rfl, hX⟩; have HQ1 := Lib.hid (HQ0.out.next hX); obtain ⟨_, y0_, y1_, y2_, y3_, y4_, x0_, x1_, x2_, x3_, x4_, x5_, x6_, x7_, x8_, x9_, x10_, x11_, x12_⟩ := HQ1.out.all; clear hX)
    go_ret
    exact ⟨ret_int HR.out.symm, HQ1.out.bel⟩
  | true =>
    have hbd := valB_bd hB
    have HB9 := Lib.hid hB
    have HQ0 := Lib.hid (LV.new w ld ln lb la le k m ab nb cb al nl cl af nf cf)
    obtain ⟨d, hd⟩ : ∃ d : Nat, (ld : Int) = d := ⟨ld.toNat, by omega⟩
    obtain ⟨n, hn⟩ : ∃ n : Nat, (ln : Int) = n := ⟨ln.toNat, by omega⟩
    have hdn : ld.toNat = d := by omega
    have hnn : ln.toNat = n := by omega
    have HD := Lib.hid (fun (w1 : World) (hb : Below w.heap.size w w1) => rdeeper_any f _ T d w1 ld (hV.next hb) hsz (by omega) hd)
    have HC := Lib.hid (fun (w1 : World) (hb : Below w.heap.size w w1) => nodes_any f _ T w1 (hV.next hb) hsz)
    have HV1 := Lib.hid (valT_1 (f := f) (t := T) hB)
    have HV2 := Lib.hid (valT_2 (f := f) (t := T) hB)
    have HV3 := Lib.hid (valT_3 (f := f) (t := T) hB)
    have hlt3 : ∀ n : Nat, ((n : Int) < (ctT f T n : Int)) = ((n : Int) < (ndT f T : Int)) := fun n => propext ⟨fun h => Int.ofNat_lt.2 (ct_lt.1 (Int.ofNat_lt.1 h)), fun h => Int.ofNat_lt.2 (ct_lt.2 (Int.ofNat_lt.1 h))⟩
    rw [hdn] at HV1
    rw [hdn, hnn, hn, hlt3] at HV2 HV3
    rw [← hn] at HV2 HV3
    rw [← hT]
    clear hB hT hV hdn hnn hd hn hsz hlt3
    obtain ⟨R, hR⟩ : ∃ R, valT f T ld ln lb la le = R := ⟨_, rfl⟩
    rw [hR] at HV1 HV2 HV3 ⊢
    clear hR
    obtain ⟨D, hD⟩ : ∃ D, dpT f T d = D := ⟨_, rfl⟩
    rw [hD] at HV1 HV2 HV3 HD
    clear hD
    obtain ⟨c, hc⟩ : ∃ c : Int, (ndT f T : Int) = c := ⟨_, rfl⟩
    rw [hc] at HV2 HV3 HC
    clear hc
    cases D with
    | true =>
      have HR := Lib.hid (HV1.out rfl)
      clear HV1 HV2 HV3
      go_enter Try.func8, Try.ntmps8
      go_wp2_with (first | (go_at_call 13; (with_reducible refine (rvalid_t HB9).mono ?_); rintro e w1 ⟨rfl, hX⟩; have HQ1 := Lib.hid (HQ0.out.next hX); obtain ⟨_, y0_, y1_, y2_, y3_, y4_, x0_, x1_, x2_, x3_, x4_, x5_, x6_, x7_, x8_, x9_, x10_, x11_, x12_⟩ := HQ1.out.all; clear hX) | (go_at_call 14; (with_reducible refine (HD.out _ HQ1.out.bel).mono ?_); rintro e w2 ⟨rfl, hX⟩; have HQ2 := Lib.hid (HQ1.out.next hX); obtain ⟨_, y0__, y1__, y2__, y3__, y4__, x0__, x1__, x2__, x3__, x4__, x5__, x6__, x7__, x8__, x9__, x10__, x11__, x12__⟩ := HQ2.out.all; clear hX))
      go_ret
      exact ⟨ret_int HR.out.symm, HQ2.out.bel⟩
    | false =>
      by_cases hlt : ln < c
      · have HR := Lib.hid (HV2.out rfl hlt)
        clear HV1 HV2 HV3
        go_enter Try.func8, Try.ntmps8
        go_wp2_with (first | (go_at_call 13; (with_reducible refine (rvalid_t HB9).mono ?_); rintro e w1 ⟨rfl, hX⟩; have HQ1 := Lib.hid (HQ0.out.next hX); obtain ⟨_, y0_, y1_, y2_, y3_, y4_, x0_, x1_, x2_, x3_, x4_, x5_, x6_, x7_, x8_, x9_, x10_, x11_, x12_⟩ := HQ1.out.all; clear hX) | (go_at_call 14; (with_reducible refine (HD.out _ HQ1.out.bel).mono ?_); rintro e w2 ⟨rfl, hX⟩; have HQ2 := Lib.hid (HQ1.out.next hX); obtain ⟨_, y0__, y1__, y2__, y3__, y4__, x0__, x1__, x2__, x3__, x4__, x5__, x6__, x7__, x8__, x9__, x10__, x11__, x12__⟩ := HQ2.out.all; clear hX))
        go_region_held3 (fun (W : World) => LV w W w.heap.size ld ln lb la le k m ab nb cb al nl cl af nf cf ∧ W.cell? ⟨w.heap.size, 0, none⟩ = some (.int .i64 ld) ∧ W.cell? ⟨w.heap.size, 1, none⟩ = some (.int .i64 ln) ∧ W.cell? ⟨w.heap.size, 2, none⟩ = some (.int .i64 lb) ∧ W.cell? ⟨w.heap.size, 3, none⟩ = some (.int .i64 la) ∧ W.cell? ⟨w.heap.size, 4, none⟩ = some (.int .i64 le) ∧ W.cell? ⟨w.heap.size + 1, 0, none⟩ = some (.int .i64 k) ∧ W.cell? ⟨w.heap.size + 1, 1, none⟩ = some (.bool m.b) ∧ W.cell? ⟨w.heap.size + 1, 2, none⟩ = some (.bool m.ng) ∧ W.cell? ⟨w.heap.size + 1, 3, none⟩ = some (.string m.dg) ∧ W.cell? ⟨w.heap.size + 1, 4, none⟩ = some (.int .i64 m.ex) ∧ W.cell? ⟨w.heap.size + 1, 5, none⟩ = some (.int .i64 m.tk) ∧ W.cell? ⟨w.heap.size + 1, 6, none⟩ = some (.int .i64 m.td) ∧ W.cell? ⟨w.heap.size + 1, 7, none⟩ = some (.int .i64 m.tn) ∧ W.cell? ⟨w.heap.size + 1, 8, none⟩ = some (.int .i64 m.tz) ∧ W.cell? ⟨w.heap.size + 1, 9, none⟩ = some (.string m.tx) ∧ W.cell? ⟨w.heap.size + 1, 10, none⟩ = some (.slice ab nb cb) ∧ W.cell? ⟨w.heap.size + 1, 11, none⟩ = some (.slice al nl cl) ∧ W.cell? ⟨w.heap.size + 1, 12, none⟩ = some (.slice af nf cf)) ((first | (go_split_ands; exact LV.all (by assumption)) | (go_split_ands; exact LV.all (LV.drew (by assumption))) | (go_split_ands; exact LV.all (LV.next (by assumption) hX)))) ((go_at_call 15; go_split_ands; (with_reducible refine (HC.out _ (LV.bel (LV.drew (by assumption)))).mono ?_); rintro e wn ⟨rfl, hX⟩))
        all_goals go_wp2
        all_goals go_ret
        all_goals go_split_ands
        all_goals exact ⟨ret_int HR.out.symm, LV.bel (by assumption)⟩
      · have HR := Lib.hid (HV3.out rfl hlt)
        clear HV1 HV2 HV3
        go_enter Try.func8, Try.ntmps8
        go_wp2_with (first | (go_at_call 13; (with_reducible refine (rvalid_t HB9).mono ?_); rintro e w1 ⟨rfl, hX⟩; have HQ1 := Lib.hid (HQ0.out.next hX); obtain ⟨_, y0_, y1_, y2_, y3_, y4_, x0_, x1_, x2_, x3_, x4_, x5_, x6_, x7_, x8_, x9_, x10_, x11_, x12_⟩ := HQ1.out.all; clear hX) | (go_at_call 14; (with_reducible refine (HD.out _ HQ1.out.bel).mono ?_); rintro e w2 ⟨rfl, hX⟩; have HQ2 := Lib.hid (HQ1.out.next hX); obtain ⟨_, y0__, y1__, y2__, y3__, y4__, x0__, x1__, x2__, x3__, x4__, x5__, x6__, x7__, x8__, x9__, x10__, x11__, x12__⟩ := HQ2.out.all; clear hX))
        go_region_held3 (fun (W : World) => LV w W w.heap.size ld ln lb la le k m ab nb cb al nl cl af nf cf ∧ W.cell? ⟨w.heap.size, 0, none⟩ = some (.int .i64 ld) ∧ W.cell? ⟨w.heap.size, 1, none⟩ = some (.int .i64 ln) ∧ W.cell? ⟨w.heap.size, 2, none⟩ = some (.int .i64 lb) ∧ W.cell? ⟨w.heap.size, 3, none⟩ = some (.int .i64 la) ∧ W.cell? ⟨w.heap.size, 4, none⟩ = some (.int .i64 le) ∧ W.cell? ⟨w.heap.size + 1, 0, none⟩ = some (.int .i64 k) ∧ W.cell? ⟨w.heap.size + 1, 1, none⟩ = some (.bool m.b) ∧ W.cell? ⟨w.heap.size + 1, 2, none⟩ = some (.bool m.ng) ∧ W.cell? ⟨w.heap.size + 1, 3, none⟩ = some (.string m.dg) ∧ W.cell? ⟨w.heap.size + 1, 4, none⟩ = some (.int .i64 m.ex) ∧ W.cell? ⟨w.heap.size + 1, 5, none⟩ = some (.int .i64 m.tk) ∧ W.cell? ⟨w.heap.size + 1, 6, none⟩ = some (.int .i64 m.td) ∧ W.cell? ⟨w.heap.size + 1, 7, none⟩ = some (.int .i64 m.tn) ∧ W.cell? ⟨w.heap.size + 1, 8, none⟩ = some (.int .i64 m.tz) ∧ W.cell? ⟨w.heap.size + 1, 9, none⟩ = some (.string m.tx) ∧ W.cell? ⟨w.heap.size + 1, 10, none⟩ = some (.slice ab nb cb) ∧ W.cell? ⟨w.heap.size + 1, 11, none⟩ = some (.slice al nl cl) ∧ W.cell? ⟨w.heap.size + 1, 12, none⟩ = some (.slice af nf cf)) ((first | (go_split_ands; exact LV.all (by assumption)) | (go_split_ands; exact LV.all (LV.drew (by assumption))) | (go_split_ands; exact LV.all (LV.next (by assumption) hX)))) ((go_at_call 15; go_split_ands; (with_reducible refine (HC.out _ (LV.bel (LV.drew (by assumption)))).mono ?_); rintro e wn ⟨rfl, hX⟩))
        all_goals go_wp2
        all_goals go_ret
        all_goals go_split_ands
        all_goals exact ⟨ret_int HR.out.symm, LV.bel (by assumption)⟩
set_option maxRecDepth 100000 in
set_option maxHeartbeats 8000000 in
theorem values_walk (ld ln lb la le : Int) (hld : -9223372036854775808 ≤ ld ∧ ld ≤ 9223372036854775807) (hln : -9223372036854775808 ≤ ln ∧ ln ≤ 9223372036854775807) (hlb : -9223372036854775808 ≤ lb ∧ lb ≤ 9223372036854775807) (hla : -9223372036854775808 ≤ la ∧ la ≤ 9223372036854775807) (hle : -9223372036854775808 ≤ le ∧ le ≤ 9223372036854775807) (f : Nat) (cs : List Value) (t : VT) (w : World) (hV : VR w w.heap.size f cs t) : Calls Try.prog 4 #[.agg #[.int .i64 ld, .int .i64 ln, .int .i64 lb, .int .i64 la, .int .i64 le], .agg cs.toArray] w fun e w' => e = .returned (.bool true) ∧ Below w.heap.size w w' := by
  obtain ⟨k, m, l, fs, ab, nb, cb, al, nl, cl, af, nf, cf, rfl, rfl⟩ := hV.form
  change Calls Try.prog 4 #[.agg #[.int .i64 ld, .int .i64 ln, .int .i64 lb, .int .i64 la, .int .i64 le], .agg #[.int .i64 k, .bool m.b, .bool m.ng, .string m.dg, .int .i64 m.ex, .int .i64 m.tk, .int .i64 m.td, .int .i64 m.tn, .int .i64 m.tz, .string m.tx, .slice ab nb cb, .slice al nl cl, .slice af nf cf]] w _
  obtain ⟨T, hT⟩ : ∃ T : VT, T = .mk k m l fs := ⟨_, rfl⟩
  rw [← hT] at hV
  clear hT
  have HQ0 := Lib.hid (LV.new w ld ln lb la le k m ab nb cb al nl cl af nf cf)
  have HL := Lib.hid (fun (w1 : World) (hb : Below w.heap.size w w1) => light_any f _ _ 60 400 w1 (hV.next hb) (by decide) (by decide))
  obtain ⟨R, hR⟩ : ∃ R, valT f T ld ln lb la le = R := ⟨_, rfl⟩
  have HC := Lib.hid (fun (w1 : World) (hb : Below w.heap.size w w1) => lval_any ld ln lb la le hld hln hlb hla hle f _ T w1 (hV.next hb))
  have HD := Lib.hid (fun (w1 : World) (hb : Below w.heap.size w w1) (hz : szT f T ≤ 1000) => rval_any ld ln lb la le hld hln hlb hla hle f _ T w1 (hV.next hb) hz)
  rw [hR] at HC HD
  clear hR hV
  go_enter Try.func4, Try.ntmps4
  go_wp2_with (first | (go_at_call 5; (with_reducible refine (HL.out _ HQ0.out.bel).mono ?_); rintro e w1 ⟨r, rfl, hr, hs, hX⟩; have HS := Lib.hid hs; have HQ1 := Lib.hid (HQ0.out.next hX); obtain ⟨_, y0, y1, y2, y3, y4, x0, x1, x2, x3, x4, x5, x6, x7, x8, x9, x10, x11, x12⟩ := HQ1.out.all; clear hX hs) | (go_at_call 6; (with_reducible refine (awake_any _).mono ?_); rintro e w5 ⟨rfl, hX⟩; have bl := HQ1.out.bel.trans (hX.mono HQ1.out.bel.size); clear hX))
  · go_ret
    exact ⟨rfl, bl⟩
  · have hz : szT f T ≤ 1000 := by have := HS.out (by assumption); omega
    go_region_held3 (fun (W : World) => LV w W w.heap.size ld ln lb la le k m ab nb cb al nl cl af nf cf ∧ W.cell? ⟨w.heap.size, 0, none⟩ = some (.int .i64 ld) ∧ W.cell? ⟨w.heap.size, 1, none⟩ = some (.int .i64 ln) ∧ W.cell? ⟨w.heap.size, 2, none⟩ = some (.int .i64 lb) ∧ W.cell? ⟨w.heap.size, 3, none⟩ = some (.int .i64 la) ∧ W.cell? ⟨w.heap.size, 4, none⟩ = some (.int .i64 le) ∧ W.cell? ⟨w.heap.size + 1, 0, none⟩ = some (.int .i64 k) ∧ W.cell? ⟨w.heap.size + 1, 1, none⟩ = some (.bool m.b) ∧ W.cell? ⟨w.heap.size + 1, 2, none⟩ = some (.bool m.ng) ∧ W.cell? ⟨w.heap.size + 1, 3, none⟩ = some (.string m.dg) ∧ W.cell? ⟨w.heap.size + 1, 4, none⟩ = some (.int .i64 m.ex) ∧ W.cell? ⟨w.heap.size + 1, 5, none⟩ = some (.int .i64 m.tk) ∧ W.cell? ⟨w.heap.size + 1, 6, none⟩ = some (.int .i64 m.td) ∧ W.cell? ⟨w.heap.size + 1, 7, none⟩ = some (.int .i64 m.tn) ∧ W.cell? ⟨w.heap.size + 1, 8, none⟩ = some (.int .i64 m.tz) ∧ W.cell? ⟨w.heap.size + 1, 9, none⟩ = some (.string m.tx) ∧ W.cell? ⟨w.heap.size + 1, 10, none⟩ = some (.slice ab nb cb) ∧ W.cell? ⟨w.heap.size + 1, 11, none⟩ = some (.slice al nl cl) ∧ W.cell? ⟨w.heap.size + 1, 12, none⟩ = some (.slice af nf cf)) ((first | (go_split_ands; exact LV.all (by assumption)) | (go_split_ands; exact LV.all (LV.drew (by assumption))) | (go_split_ands; exact LV.all (LV.next (by assumption) hX)))) (first | (go_at_call 7; go_split_ands; (with_reducible refine (HC.out _ (LV.bel (LV.drew (by assumption)))).mono ?_); rintro e wn ⟨rfl, hX⟩) | (go_at_call 7; go_split_ands; (with_reducible refine (HC.out _ (LV.bel (by assumption))).mono ?_); rintro e wn ⟨rfl, hX⟩) | (go_at_call 8; go_split_ands; (with_reducible refine (HD.out _ (LV.bel (LV.drew (by assumption))) hz).mono ?_); rintro e wn ⟨rfl, hX⟩) | (go_at_call 8; go_split_ands; (with_reducible refine (HD.out _ (LV.bel (by assumption)) hz).mono ?_); rintro e wn ⟨rfl, hX⟩) | (go_at_call 6; (with_reducible refine (awake_any _).mono ?_); rintro e wn ⟨rfl, hX⟩))
    all_goals go_wp2
    all_goals go_ret
    all_goals go_split_ands
    all_goals exact ⟨rfl, LV.bel (by assumption)⟩
end Go.Proofs.Ythkpcanlimhhfaa.VL
