/-
  Contracts of package base's reference: base64 read.
-/
import Derived.Test.YtacmallcfaokpaaBasG
namespace Go.Proofs.Ytacmallcfaokpaa.Bas
open Go.RowKit
set_option linter.unusedVariables false
set_option linter.unusedSimpArgs false

/-- Block b is a row of just these bytes. -/
def BRow (w : World) (b : Nat) (l : List UInt8) : Prop := w.rowIs b 5 l.length (fun i => .int .u8 ((l.getD i 0).toNat : Int))
section
variable {w w' : World} {b : Nat} {l : List UInt8}
theorem BRow.cell (h : BRow w b l) {i : Nat} (hi : i < l.length) : w.cell? ⟨b, i, none⟩ = some (.int .u8 ((l.getD i 0).toNat : Int)) := World.rowIs.cell h hi
theorem BRow.frozen (h : BRow w b l) (i : Nat) : w.frozen? ⟨b, i, none⟩ = false := World.rowIs.frozen h i
theorem BRow.set (h : BRow w b l) {i : Nat} {c : UInt8} {v : Int} (hv : v = (c.toNat : Int)) : BRow (w.setCell ⟨b, i, none⟩ (.int .u8 v)) b (l.set i c) := by
  subst hv
  unfold BRow
  rw [List.length_set]
  refine (World.rowIs.set h i _).congr fun j hj => ?_
  by_cases e : j = i
  · subst e; simp [List.getD_eq_getElem?_getD, hj]
  · simp [List.getD_eq_getElem?_getD, e, List.getElem?_set_ne (Ne.symm e)]
theorem BRow.lt (h : BRow w b l) : b < w.heap.size := World.rowIs.lt h
theorem BRow.made (w : World) (n : Nat) : BRow (w.alloc (.cells (madeCells #[.int .u8 0] n) 5)) w.heap.size (List.replicate n 0) := by
  unfold BRow
  rw [List.length_replicate]
  refine (World.rowIs_made w (.int .u8 0) n 5).congr fun i hi => ?_
  simp [List.getD_eq_getElem?_getD, hi]
end
theorem mk_full (n : Nat) (h : n ≤ 200000000) (w : World) : (Instr.makeSlice 22 (.int .i64 (n : Int)) (.int .i64 (n : Int))).run Try.prog w = .ok (.slice (some ⟨w.heap.size, 0, none⟩) n n) (w.alloc (.cells (madeCells #[.int .u8 0] n) 5)) :=
  run_make_row' (P := Try.prog) 22 5 (.int .u8 0) 1 Try.underlying22 info_u8 rfl .i64 .i64 n (by omega) (by omega) w
/-- Byte j when the first i bits are laid. -/
def pbN (s : List UInt8) (i j : Nat) : Nat := if 8 * j + 8 ≤ i then vl (fb s) (8 * j) 8 else if 8 * j ≤ i then vl (fb s) (8 * j) (i - 8 * j) * 2 ^ (8 - (i - 8 * j)) else 0
theorem pbN_lt (s : List UInt8) (i j : Nat) : pbN s i j < 256 := by
  unfold pbN
  split
  · exact vl_lt (fb_bit s) _ 8
  · split
    · next h1 h2 =>
      have := vl_lt (fb_bit s) (8 * j) (i - 8 * j)
      have h3 : vl (fb s) (8 * j) (i - 8 * j) * 2 ^ (8 - (i - 8 * j)) < 2 ^ (i - 8 * j) * 2 ^ (8 - (i - 8 * j)) := Nat.mul_lt_mul_of_pos_right this (Nat.two_pow_pos _)
      rw [← Nat.pow_add, show i - 8 * j + (8 - (i - 8 * j)) = 8 by omega] at h3
      exact h3
    · omega
theorem pbN_other {s : List UInt8} {i j : Nat} (h : j ≠ i / 8) : pbN s (i + 1) j = pbN s i j := by
  unfold pbN
  by_cases h1 : 8 * j + 8 ≤ i
  · rw [if_pos h1, if_pos (by omega)]
  · rw [if_neg h1, if_neg (by omega)]
    by_cases h2 : 8 * j ≤ i
    · exfalso; omega
    · by_cases h3 : 8 * j ≤ i + 1
      · rw [if_neg h2, if_pos h3, show i + 1 - 8 * j = 0 by omega]
        simp [vl]
      · rw [if_neg h2, if_neg h3]
theorem pbN_at (s : List UInt8) (i : Nat) : pbN s (i + 1) (i / 8) = pbN s i (i / 8) + fb s i * 2 ^ (7 - i % 8) ∧ pbN s i (i / 8) % 2 ^ (8 - i % 8) = 0 := by
  have e0 : i - 8 * (i / 8) = i % 8 := by omega
  have h0 : pbN s i (i / 8) = vl (fb s) (8 * (i / 8)) (i % 8) * 2 ^ (8 - i % 8) := by
    unfold pbN
    rw [if_neg (by omega), if_pos (by omega), e0]
  have e2 : (2 : Nat) ^ (8 - i % 8) = 2 * 2 ^ (7 - i % 8) := by
    rw [show 8 - i % 8 = 7 - i % 8 + 1 by omega, Nat.pow_succ, Nat.mul_comm]
  have hv : vl (fb s) (8 * (i / 8)) (i % 8 + 1) = 2 * vl (fb s) (8 * (i / 8)) (i % 8) + fb s i := by
    show 2 * vl (fb s) (8 * (i / 8)) (i % 8) + fb s (8 * (i / 8) + i % 8) = _
    rw [show 8 * (i / 8) + i % 8 = i by omega]
  refine ⟨?_, by rw [h0]; exact Nat.mul_mod_left _ _⟩
  have key : pbN s (i + 1) (i / 8) = vl (fb s) (8 * (i / 8)) (i % 8 + 1) * 2 ^ (7 - i % 8) := by
    unfold pbN
    by_cases h8 : i % 8 = 7
    · rw [if_pos (by omega), h8]; simp
    · rw [if_neg (by omega), if_pos (by omega), show i + 1 - 8 * (i / 8) = i % 8 + 1 by omega, show 8 - (i % 8 + 1) = 7 - i % 8 by omega]
  rw [key, h0, hv, e2, Nat.add_mul, Nat.mul_comm 2, Nat.mul_assoc]
def rows (s : List UInt8) (m i : Nat) : List UInt8 := (List.range m).map fun j => (pbN s i j).toUInt8
theorem rows_len (s : List UInt8) (m i : Nat) : (rows s m i).length = m := by simp [rows]
theorem rows_get {s : List UInt8} {m i j : Nat} (h : j < m) : ((rows s m i).getD j 0).toNat = pbN s i j := by
  unfold rows
  simp only [List.getD_eq_getElem?_getD, List.getElem?_map]
  rw [List.getElem?_range h]
  exact Nat.mod_eq_of_lt (pbN_lt s i j)
theorem rows_succ {s : List UInt8} {m i : Nat} (h : i / 8 < m) : rows s m (i + 1) = (rows s m i).set (i / 8) (pbN s (i + 1) (i / 8)).toUInt8 := by
  apply List.ext_getElem (by simp [rows])
  intro j h1 h2
  rw [List.getElem_set]
  have hj : j < m := by simpa [rows] using h1
  by_cases e : i / 8 = j
  · rw [if_pos e]; subst e; simp [rows]
  · rw [if_neg e]
    simp only [rows, List.getElem_map, List.getElem_range]
    rw [pbN_other (Ne.symm e)]
theorem rows_0 (s : List UInt8) (m : Nat) : rows s m 0 = List.replicate m 0 := by
  apply List.ext_getElem (by simp [rows])
  intro j h1 h2
  simp only [rows, List.getElem_map, List.getElem_range, List.getElem_replicate]
  have : pbN s 0 j = 0 := by
    unfold pbN
    rw [if_neg (by omega)]
    by_cases h : 8 * j ≤ 0
    · rw [if_pos h]; simp [vl]
    · rw [if_neg h]
  rw [this]; rfl
theorem rows_all (s : List UInt8) (m : Nat) : rows s m (8 * m) = gb s m := by
  unfold rows gb
  apply List.map_congr_left
  intro j hj
  rw [List.mem_range] at hj
  unfold pbN
  rw [if_pos (by omega)]
theorem or_u8 (i x y : Nat) (hx : x % 2 ^ i = 0) (hy : y < 2 ^ i) (hx2 : x < 256) (hy2 : y < 256) : bits .or .u8 (x : Int) (y : Int) = ((x + y : Nat) : Int) := by
  have := bits_join .u8 8 (by decide) wraps_u8 i (x : Int) (y : Int) (by omega) (by have := congrArg (fun n : Nat => (n : Int)) hx; simpa using this) (by omega) (by omega) (by exact_mod_cast hy) (by omega)
  rw [this]; omega
theorem fn6_is {s : ByteArray} {k : Nat} {w : World} {x : Int} (h : k < s.size) (hx : Hid (dv (s.data.toList.getD k 0) = x)) : Calls Try.prog 25 #[.string ⟨#[65, 66, 67, 68, 69, 70, 71, 72, 73, 74, 75, 76, 77, 78, 79, 80, 81, 82, 83, 84, 85, 86, 87, 88, 89, 90, 97, 98, 99, 100, 101, 102, 103, 104, 105, 106, 107, 108, 109, 110, 111, 112, 113, 114, 115, 116, 117, 118, 119, 120, 121, 122, 48, 49, 50, 51, 52, 53, 54, 55, 56, 57, 43, 47]⟩, .int .u8 (s[k].toNat)] w fun e w' => e = .returned (.int .i64 x) ∧ w = w' :=
  (find_any T64 s[k] w (by decide)).mono fun e w' ⟨he, hw⟩ => ⟨by rw [he, ← hx.out, get_d h]; rfl, hw⟩
set_option maxRecDepth 100000 in
set_option maxHeartbeats 4000000 in
theorem rbytes_any (s : ByteArray) (w : World) (hs : s.size ≤ 8000) (ha : ∀ j, j < s.size → 0 ≤ dv (s.data.toList.getD j 0)) : Calls Try.prog 28 #[.string s] w fun e w' => ∃ v, e = .returned v ∧ Below w.heap.size w w' ∧ Bs w' w'.heap.size v (gb s.data.toList (6 * s.size / 8)) := by
  obtain ⟨m, hm⟩ : ∃ m, 6 * s.size / 8 = m := ⟨_, rfl⟩
  have e0 : (s.size : Int) * 6 / 8 = (m : Int) := by omega
  have hmk := mk_full m (by omega)
  have HM := Lib.hid hm
  have HA := Lib.hid ha
  have hm2 : 8 * m ≤ 6 * s.size := by omega
  rw [hm]
  clear hm ha
  go_enter Try.func28, Try.ntmps28
  go_wp2
  clear e0
  go_loopw [4] (fun i wr => ∃ k : Nat, k ≤ 8 * m ∧ i = .int .i64 k ∧ Below w.heap.size w wr ∧ Hid (BRow wr w.heap.size (rows s.data.toList m k))) (fun i _ => 8 * m - (intOf i).toNat)
  case atStart => exact ⟨0, by omega, rfl, (Below.refl _ _).alloc (Nat.le_refl _) _, Lib.hid (by rw [rows_0]; exact BRow.made w m)⟩
  case round =>
    obtain ⟨i, hi, rfl, hb, HB⟩ := hrel
    by_cases hlt : i < 8 * m
    · obtain ⟨a, ha⟩ : ∃ a, i / 6 = a := ⟨_, rfl⟩
      obtain ⟨c, hc⟩ : ∃ c, 5 - i % 6 = c := ⟨_, rfl⟩
      obtain ⟨j, hj⟩ : ∃ j, i / 8 = j := ⟨_, rfl⟩
      obtain ⟨d, hd⟩ : ∃ d, 7 - i % 8 = d := ⟨_, rfl⟩
      have e1 : (i : Int) / 6 = (a : Int) := by omega
      have e2 : (i : Int) / 8 = (j : Int) := by omega
      have e3 : 5 - (i : Int) % 6 = (c : Int) := by omega
      have e4 : 7 - (i : Int) % 8 = (d : Int) := by omega
      have has : a < s.size := by omega
      have hjm : j < m := by omega
      have hc5 : c ≤ 5 := by omega
      have hd7 : d ≤ 7 := by omega
      obtain ⟨x, hx⟩ : ∃ x, Hid (dv (s.data.toList.getD a 0) = x) := ⟨_, Lib.hid rfl⟩
      have hx0 := HA.out a has
      have hx1 := dv_lt (s.data.toList.getD a 0)
      rw [hx.out] at hx0 hx1
      obtain ⟨D, rfl⟩ := Int.eq_ofNat_of_zero_le hx0
      have hF : fb s.data.toList i = D / 2 ^ c % 2 := by
        unfold fb
        rw [ha, hx.out, hc]; rfl
      have hF2 := fb_bit s.data.toList i
      obtain ⟨hp1, hp2⟩ := pbN_at s.data.toList i
      have hcell := HB.out.cell (i := j) (by rw [rows_len]; exact hjm)
      have hfro := HB.out.frozen j
      have hblt := HB.out.lt
      rw [rows_get hjm] at hcell
      have HS := Lib.hid (rows_succ (s := s.data.toList) (m := m) (i := i) (by omega))
      have hlt1 := pbN_lt s.data.toList i (i / 8)
      have hlt2 := pbN_lt s.data.toList (i + 1) (i / 8)
      rw [hj] at hp1 hp2 HS hlt1 hlt2
      rw [hd, show 8 - i % 8 = d + 1 by omega] at *
      generalize pbN s.data.toList i j = X at *
      obtain ⟨Z, hZ⟩ : ∃ Z, pbN s.data.toList (i + 1) j = Z := ⟨_, rfl⟩
      rw [hZ] at hp1 HS hlt2
      generalize fb s.data.toList i = F at *
      obtain ⟨P, hP⟩ : ∃ P, D / 2 ^ c = P := ⟨_, rfl⟩
      have hPD : P ≤ D := by rw [← hP]; exact Nat.div_le_self _ _
      have e5 : (D : Int) / 2 ^ c = (P : Int) := by rw [← hP, Int.natCast_ediv, Int.natCast_pow]; rfl
      have e6 : bits .and .i64 (P : Int) 1 = (F : Int) := by rw [and1 P (by omega), hF, hP]
      obtain ⟨Y, hY⟩ : ∃ Y, F * 2 ^ d = Y := ⟨_, rfl⟩
      rw [hY] at hp1
      have hYl : Y < 256 := by omega
      have hYl2 : Y < 2 ^ (d + 1) := by
        rw [← hY, Nat.pow_succ]
        have := Nat.two_pow_pos d
        have h2 : F * 2 ^ d ≤ 1 * 2 ^ d := Nat.mul_le_mul_right _ (by omega)
        omega
      have e7 : IntKind.u8.wrap ((F : Int) * 2 ^ d) = (Y : Int) := by
        rw [show (F : Int) * 2 ^ d = ((F * 2 ^ d : Nat) : Int) by rw [Int.natCast_mul, Int.natCast_pow]; rfl, hY, IntKind.wrap_u8]; omega
      have e8 := or_u8 (d + 1) X Y hp2 hYl2 hlt1 hYl
      rw [← hp1] at e8
      have HZ : Hid ((Z : Int) = ((Z.toUInt8).toNat : Int)) := Lib.hid (by
        have : (Z.toUInt8).toNat = Z := Nat.mod_eq_of_lt hlt2
        rw [this])
      clear hF hP hY hp1 hp2 hZ ha hc hj hd
      go_wp2_with (go_at_call 25; (with_reducible refine (fn6_is has hx).mono ?_); rintro e w' ⟨rfl, rfl⟩)
      go_roundw
      case rel => exact ⟨i + 1, by omega, by go_num, hb.setCell (Nat.le_refl _) _, Lib.hid (by rw [HS.out]; exact HB.out.set HZ.out)⟩
      case measure => simp [intOf]; omega
    · have hc : BRow wr w.heap.size (gb s.data.toList m) := by
        have h8 : i = 8 * m := by omega
        rw [← rows_all, ← h8]; exact HB.out
      go_wp2
      go_ret
      exact ⟨.slice (some ⟨w.heap.size, 0, none⟩) m m, rfl, hb, .inr ⟨w.heap.size, 0, m, by rw [gb_len], hc.lt, by rw [gb_len]; omega, by unfold maxLen; omega, fun i hi => by rw [Nat.zero_add]; exact hc.cell hi⟩⟩
theorem take_dv {s : List UInt8} {j : Nat} (h : j < ne s) : 0 ≤ dv (s.getD j 0) := by
  unfold ne at h
  induction s generalizing j with
  | nil => simp at h
  | cons c s ih =>
    rw [List.takeWhile_cons] at h
    by_cases hc : isD c = true
    · rw [if_pos hc] at h
      rcases Nat.eq_zero_or_pos j with h0 | h0
      · subst h0; unfold isD at hc; simpa using hc
      · obtain ⟨m, rfl⟩ : ∃ m, j = m + 1 := ⟨j - 1, by omega⟩
        have := ih (j := m) (by simpa using h)
        simpa using this
    · rw [if_neg hc] at h; simp at h
theorem fb_take {s : List UInt8} {n i : Nat} (h : i < 6 * n) : fb (s.take n) i = fb s i := by
  unfold fb
  rw [List.getD_eq_getElem?_getD, List.getD_eq_getElem?_getD, List.getElem?_take_of_lt (by omega)]
theorem gb_take (s : List UInt8) {n q : Nat} (h : 8 * q ≤ 6 * n) : gb (s.take n) q = gb s q := by
  unfold gb
  apply List.map_congr_left
  intro j hj
  rw [List.mem_range] at hj
  rw [vl_congr fun i h1 h2 => fb_take (s := s) (n := n) (i := i) (by omega)]
/-- The text of the digits, as they stand in a text. -/
theorem fd_ds {s : List UInt8} (h : whole (dsL s) = true) : encL (by8 (dsL s)) = s.take (ne s) := by
  have h1 := (sx_by8 (dsL_lt s)).2 h
  have h2 : encL (by8 (dsL s)) = (sx (by8 (dsL s))).map td := by
    unfold encL fd sx
    rw [List.map_map]; rfl
  rw [h2, h1]
  unfold dsL
  rw [List.map_map]
  apply List.ext_getElem (by simp)
  intro j h1 h2
  simp only [List.getElem_map, Function.comp_apply]
  have hj : j < ne s := by
    rw [List.length_take] at h2; omega
  have := take_dv hj
  have hjs : j < s.length := by have := ne_le s; omega
  rw [List.getD_eq_getElem?_getD, List.getElem?_eq_getElem hjs] at this
  rw [List.getElem_take]
  exact td_dv _ this
theorem encL_dv (l : List UInt8) : ∀ c ∈ encL l, 0 ≤ dv c := by
  intro c hc
  unfold encL fd at hc
  rw [List.mem_map] at hc
  obtain ⟨j, _, rfl⟩ := hc
  rw [dv_td (vl_lt (bt_bit l) _ 6)]
  omega
theorem takeW_app {a b : List UInt8} (ha : ∀ c ∈ a, 0 ≤ dv c) (hb : ∀ c, b.head? = some c → dv c < 0) : (a ++ b).takeWhile isD = a := by
  induction a with
  | nil =>
    cases b with
    | nil => rfl
    | cons c b =>
      have := hb c rfl
      have h : isD c = false := by unfold isD; simp; omega
      simp [List.takeWhile_cons, h]
  | cons c a ih =>
    have h0 := ha c (by simp)
    have h : isD c = true := by unfold isD; simpa using h0
    rw [List.cons_append, List.takeWhile_cons, if_pos h, ih (fun x hx => ha x (by simp [hx]))]
theorem rep_head (n : Nat) : ∀ c, (List.replicate n (61 : UInt8)).head? = some c → dv c < 0 := by
  intro c h
  cases n with
  | zero => simp at h
  | succ n =>
    simp [List.replicate_succ] at h
    rw [← h, dv_61]; decide
theorem ne_app {a b : List UInt8} (ha : ∀ c ∈ a, 0 ≤ dv c) (hb : ∀ c, b.head? = some c → dv c < 0) : ne (a ++ b) = a.length := by
  unfold ne; rw [takeW_app ha hb]
theorem encL_sx (l : List UInt8) : encL l = (sx l).map td := by
  unfold encL fd sx; rw [List.map_map]; rfl
theorem ne_encP (l : List UInt8) (pad : Bool) : ne (encP l pad) = (encL l).length := ne_app (encL_dv l) (rep_head _)
theorem take_encP (l : List UInt8) (pad : Bool) : (encP l pad).take (encL l).length = encL l := List.take_left
theorem drop_encP (l : List UInt8) (pad : Bool) : (encP l pad).drop (encL l).length = List.replicate (pads pad (encL l).length) 61 := List.drop_left
theorem map_dv_td {m : List Nat} (h : ∀ x ∈ m, x < 64) : (m.map td).map (fun c => (dv c).toNat) = m := by
  rw [List.map_map]
  conv => rhs; rw [← List.map_id m]
  apply List.map_congr_left
  intro x hx
  show (dv (td x)).toNat = x
  rw [dv_td (h x hx)]; rfl
theorem dsL_encP (l : List UInt8) (pad : Bool) : dsL (encP l pad) = sx l := by
  unfold dsL
  rw [ne_encP, take_encP, encL_sx, map_dv_td (sx_lt l)]
/-- When the text of the bytes that s says is s. -/
theorem enc_eq (s : List UInt8) (pad : Bool) : encP (by8 (dsL s)) pad = s ↔ whole (dsL s) = true ∧ s.drop (ne s) = List.replicate (pads pad (ne s)) 61 := by
  constructor
  · intro h
    obtain ⟨l, hl⟩ : ∃ l, by8 (dsL s) = l := ⟨_, rfl⟩
    rw [hl] at h
    subst h
    refine ⟨by rw [dsL_encP]; exact whole_sx l, ?_⟩
    rw [ne_encP, drop_encP]
  · rintro ⟨hw, hd⟩
    unfold encP
    rw [fd_ds hw, List.length_take, Nat.min_eq_left (ne_le s), ← hd, List.take_append_drop]
theorem prefix_rep (n : Nat) (l : List UInt8) : Lib.hasPrefix (List.replicate n 61) l = true ↔ l.length ≤ n ∧ l = List.replicate l.length 61 := by
  induction l generalizing n with
  | nil => simp [Lib.hasPrefix]
  | cons c l ih =>
    cases n with
    | zero => simp [Lib.hasPrefix]
    | succ n =>
      have : Lib.hasPrefix (List.replicate (n + 1) 61) (c :: l) = ((c == (61 : UInt8)) && Lib.hasPrefix (List.replicate n 61) l) := by simp [Lib.hasPrefix, List.replicate_succ, List.isPrefixOf]
      rw [this, Bool.and_eq_true, ih]
      simp [List.replicate_succ]
      constructor
      · rintro ⟨rfl, h1, h2⟩; exact ⟨h1, rfl, h2⟩
      · rintro ⟨h1, rfl, h2⟩; exact ⟨rfl, h1, h2⟩
end Go.Proofs.Ytacmallcfaokpaa.Bas
