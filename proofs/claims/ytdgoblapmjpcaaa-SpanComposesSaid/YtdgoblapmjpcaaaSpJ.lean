/-
  Contracts of package span: the edits that undo edits.
-/
import Derived.Test.YtdgoblapmjpcaaaSpI
namespace Go.Proofs.Ytdgoblapmjpcaaa.Sp
open Go.RowKit
set_option linter.unusedVariables false
set_option linter.unusedSimpArgs false
open RO

def sw (r : Ru) : Ru := ⟨r.b, r.a, r.c⟩
/-- The edits lie one behind the other, from an offset on. -/
def Fit (S : Int) : Int → List Ed → Prop
  | fr, [] => 0 ≤ fr ∧ fr ≤ S
  | fr, d :: L => 0 ≤ fr ∧ fr ≤ d.f ∧ d.f ≤ d.t ∧ d.x.size ≤ 100000 ∧ Fit S d.t L
theorem Fit.le {S : Int} : ∀ {L : List Ed} {fr : Int}, Fit S fr L → 0 ≤ fr ∧ fr ≤ S := by
  intro L
  induction L with
  | nil => intro fr h; exact h
  | cons d L ih => intro fr h; obtain ⟨h1, h2, h3, _, h5⟩ := h; have := ih h5; omega
theorem fit_of {L : List Ed} {S : Nat} (h : Good L S) (hS : Short L) : Fit S 0 L := by
  suffices hh : ∀ (m k : Nat), k + m = L.length → Fit S (atk L k) (L.drop k) by
    have := hh L.length 0 (by omega)
    simpa [atk] using this
  intro m
  induction m with
  | zero =>
    intro k hk
    rw [List.drop_eq_nil_of_le (by omega)]
    have := atk_le h (k := k) (by omega)
    unfold Fit
    omega
  | succ m ih =>
    intro k hk
    obtain ⟨d, hd⟩ : ∃ d, L[k]? = some d := ⟨L[k]'(by omega), List.getElem?_eq_getElem _⟩
    obtain ⟨h1, h2, h3, h4⟩ := h.2 k d hd
    have hi := ih (k + 1) (by omega)
    rw [atk_succ hd, show ((d.t.toNat : Nat) : Int) = d.t by omega] at hi
    rw [drop_get hd]
    exact ⟨by omega, h4, h2, hS d (List.mem_of_getElem? hd), hi⟩
theorem wf_sw {tx : ByteArray} {S : Int} (hS : (tx.size : Int) = S) (hS5 : S ≤ 100000) : ∀ (L : List Ed) (fl : Bool) (fr to p q : Int), Fit S fr L → L.length ≤ 4096 → 0 ≤ to → to ≤ fr + 100000 * (4096 - (L.length : Int)) → Sm p → 0 ≤ q → q ≤ fr → WF tx p q ((rg S fl fr to L).map sw) := by
  intro L
  induction L with
  | nil =>
    intro fl fr to p q hF hl h1 h2 hp hq1 hq2
    obtain ⟨hf1, hf2⟩ := hF
    simp only [List.length_nil] at h2
    have e : rg S fl fr to [] = [⟨fr, to, S - fr⟩] := by cases fl <;> rfl
    rw [e]
    refine ⟨hp, ⟨hq1, by omega⟩, ⟨h1, by simp only [sw]; omega⟩, ⟨hf1, by simp only [sw]; omega⟩, ⟨by simp only [sw]; omega, by simp only [sw]; omega⟩, ?_⟩
    by_cases hc : (sw ⟨fr, to, S - fr⟩).c = 0
    · rw [if_pos hc]
      exact ⟨hp, ⟨hq1, by omega⟩, by omega⟩
    · rw [if_neg hc]
      refine ⟨hq2, by simp only [sw]; omega, ⟨by simp only [sw]; omega, by simp only [sw]; omega⟩, ⟨by simp only [sw]; omega, by simp only [sw]; omega⟩, by simp only [sw]; omega⟩
  | cons d L ih =>
    intro fl fr to p q hF hl h1 h2 hp hq1 hq2
    obtain ⟨hf1, hf2, hf3, hf4, hf5⟩ := hF
    have hle := Fit.le hf5
    simp only [List.length_cons] at h2 hl
    have hx : (0 : Int) ≤ d.x.size := Int.natCast_nonneg _
    have hx2 : (d.x.size : Int) ≤ 100000 := by omega
    unfold rg
    by_cases hg : (fl || decide (d.f ≠ fr)) = true
    · rw [if_pos hg, List.map_cons]
      refine ⟨hp, ⟨hq1, by omega⟩, ⟨h1, by simp only [sw]; omega⟩, ⟨hf1, by simp only [sw]; omega⟩, ⟨by simp only [sw]; omega, by simp only [sw]; omega⟩, ?_⟩
      by_cases hc : (sw ⟨fr, to, d.f - fr⟩).c = 0
      · rw [if_pos hc]
        simp only [sw] at hc
        exact ih false _ _ p q hf5 (by omega) (by omega) (by omega) hp hq1 (by omega)
      · rw [if_neg hc]
        refine ⟨hq2, by simp only [sw]; omega, ?_⟩
        exact ih false _ _ _ _ hf5 (by omega) (by omega) (by omega) ⟨by simp only [sw]; omega, by simp only [sw]; omega⟩ (by simp only [sw]; omega) (by simp only [sw]; omega)
    · rw [if_neg hg]
      exact ih false _ _ p q hf5 (by omega) (by omega) (by omega) hp hq1 (by omega)
theorem rg_count (S : Int) : ∀ (L : List Ed) (fl : Bool) (fr to : Int), (rg S fl fr to L).length ≤ L.length + 1 := by
  intro L
  induction L with
  | nil => intro fl fr to; cases fl <;> simp [rg]
  | cons d L ih =>
    intro fl fr to
    unfold rg
    split
    · have := ih false d.t (to + (d.f - fr) + d.x.size); simp; omega
    · have := ih false d.t (to + d.x.size); simp; omega
/-- The edits that undo edits. -/
def invL (src : ByteArray) (L : List Ed) : List Ed := if appE src.data.toList L = 0 then nm src (appR src.data.toList L).size 0 0 ((rg src.size true 0 0 L).map sw) else []
def InvPost (src : ByteArray) (L : List Ed) (w : World) (e : Ending) (w' : World) : Prop := ∃ v, e = .returned (.tuple #[v, .int .i64 (appE src.data.toList L)]) ∧ Below w.heap.size w w' ∧ Ow ec 3 50 w' w.heap.size v (invL src L)
/-- The first runs are swapped. -/
def mix (R : List Ru) (i : Nat) : List Ru := (R.take i).map sw ++ R.drop i
theorem mix_zero (R : List Ru) : mix R 0 = R := rfl
theorem mix_all (R : List Ru) {n : Nat} (h : R.length = n) : mix R n = R.map sw := by subst h; unfold mix; simp
theorem mix_len (R : List Ru) {i : Nat} : (mix R i).length = R.length := by unfold mix; simp; omega
theorem mix_get {R : List Ru} {i : Nat} {r : Ru} (h : R[i]? = some r) : (mix R i)[i]? = some r := by
  have hi := (List.getElem?_eq_some_iff.1 h).1
  unfold mix
  rw [List.getElem?_append_right (by simp; omega)]
  simp [List.length_take, Nat.min_eq_left (Nat.le_of_lt hi), h]
theorem mix_set {R : List Ru} {i : Nat} {r : Ru} (h : R[i]? = some r) : (mix R i).set i (sw r) = mix R (i + 1) := by
  obtain ⟨hi, rfl⟩ := List.getElem?_eq_some_iff.1 h
  unfold mix
  have hl : ((R.take i).map sw).length = i := by simp; omega
  rw [List.set_append_right _ _ (by omega), hl, Nat.sub_self, List.take_succ_eq_append_getElem hi, List.drop_eq_getElem_cons hi, List.map_append, List.append_assoc]
  rfl
theorem flat_set {L : List Ru} {i : Nat} {r r' : Ru} (h : L[i]? = some r) : (((flat rc L).set (i * 3) (.int .i64 r'.a)).set (i * 3 + 1) (.int .i64 r'.b)).set (i * 3 + 2) (.int .i64 r'.c) = flat rc (L.set i r') := by
  obtain ⟨hi, rfl⟩ := List.getElem?_eq_some_iff.1 h
  apply List.ext_getElem?
  intro j
  have hj : j / 3 * 3 + j % 3 = j := by omega
  have hl : (flat rc L).length = L.length * 3 := flat_len rc_len L
  by_cases hjl : j < L.length * 3
  · have hjd : j / 3 < L.length := by omega
    by_cases e : j / 3 = i
    · have e1 := flat_get (cs := rc) (sz := 3) rc_len (L := L.set i r') (i := j / 3) (j := j % 3) (x := r') (by rw [e]; simp [hi]) (by omega)
      rw [hj] at e1
      rw [e1]
      have h3 : j % 3 = 0 ∨ j % 3 = 1 ∨ j % 3 = 2 := by omega
      rcases h3 with h3 | h3 | h3
      · rw [List.getElem?_set_ne (by omega), List.getElem?_set_ne (by omega), show j = i * 3 by omega, List.getElem?_set_self (by omega), show i * 3 % 3 = 0 by omega]; rfl
      · rw [List.getElem?_set_ne (by omega), show j = i * 3 + 1 by omega, List.getElem?_set_self (by simp; omega), show (i * 3 + 1) % 3 = 1 by omega]; rfl
      · rw [show j = i * 3 + 2 by omega, List.getElem?_set_self (by simp; omega), show (i * 3 + 2) % 3 = 2 by omega]; rfl
    · have e0 := flat_get (cs := rc) (sz := 3) rc_len (L := L) (i := j / 3) (j := j % 3) (x := L[j / 3]) (List.getElem?_eq_getElem hjd) (by omega)
      have e1 := flat_get (cs := rc) (sz := 3) rc_len (L := L.set i r') (i := j / 3) (j := j % 3) (x := L[j / 3]) (by rw [List.getElem?_set_ne (by omega)]; exact List.getElem?_eq_getElem hjd) (by omega)
      rw [hj] at e0 e1
      rw [List.getElem?_set_ne (by omega), List.getElem?_set_ne (by omega), List.getElem?_set_ne (by omega), e0, e1]
  · rw [List.getElem?_eq_none (by simp; omega), List.getElem?_eq_none (by rw [flat_len rc_len]; simp; omega)]
theorem ow_set {w : World} {base g n cap : Nat} {L : List Ru} (h : Ow rc 3 66 w base (.slice (some ⟨g, 0, none⟩) n cap) L) (hn : L.length = n) {i : Nat} {r : Ru} (hi : L[i]? = some r) (r' : Ru) : Ow rc 3 66 (((w.setCell ⟨g, i * 3, none⟩ (.int .i64 r'.a)).setCell ⟨g, i * 3 + 1, none⟩ (.int .i64 r'.b)).setCell ⟨g, i * 3 + 2, none⟩ (.int .i64 r'.c)) base (.slice (some ⟨g, 0, none⟩) n cap) (L.set i r') := by
  unfold Ow at h ⊢
  rw [List.length_set, hn, ← flat_set hi]
  rw [hn] at h
  exact (World.ownsRow.stored (World.ownsRow.stored (World.ownsRow.stored h _ _).1 _ _).1 _ _).1
theorem ow_at {w : World} {base : Nat} {v : Value} {L : List Ru} {n : Nat} (h : Ow rc 3 66 w base v L) (hn : L.length = n) (h0 : 0 < n) : ∃ g cap, v = .slice (some ⟨g, 0, none⟩) n cap ∧ base ≤ g ∧ g < w.heap.size ∧ n ≤ cap := by
  subst hn
  obtain ⟨g, cap, hv, _, _⟩ := World.ownsRow.form h h0
  subst hv
  have := World.ownsRow.lt h g rfl
  rcases h.2 with ⟨h', _⟩ | ⟨g', cap', cur, h', hb, hg, hnc, _⟩
  · simp at h'
  · injection h' with h1 h2 h3
    subst h3
    exact ⟨g, cap, rfl, this.1, this.2, hnc⟩
theorem ow_cells {w : World} {base g n cap : Nat} {L : List Ru} (h : Ow rc 3 66 w base (.slice (some ⟨g, 0, none⟩) n cap) L) (hn : L.length = n) {i : Nat} {r : Ru} (hi : L[i]? = some r) : (w.cell? ⟨g, i * 3, none⟩ = some (.int .i64 r.a) ∧ w.cell? ⟨g, i * 3 + 1, none⟩ = some (.int .i64 r.b) ∧ w.cell? ⟨g, i * 3 + 2, none⟩ = some (.int .i64 r.c)) ∧ w.frozen? ⟨g, i * 3, none⟩ = false ∧ w.frozen? ⟨g, i * 3 + 1, none⟩ = false ∧ w.frozen? ⟨g, i * 3 + 2, none⟩ = false := by
  unfold Ow at h
  rw [hn] at h
  have hl := (List.getElem?_eq_some_iff.1 hi).1
  have hc : ∀ j, j < 3 → w.cell? ⟨g, i * 3 + j, none⟩ = (rc r)[j]? := fun j hj => by
    rw [World.ownsRow.cellAt h _ (by omega)]
    exact flat_get rc_len hi hj
  exact ⟨⟨hc 0 (by omega), hc 1 (by omega), hc 2 (by omega)⟩, World.ownsRow.frozenAt h _, World.ownsRow.frozenAt h _, World.ownsRow.frozenAt h _⟩
theorem rg_pos (S : Int) : ∀ (L : List Ed) (fl : Bool) (fr to : Int), 1 ≤ (rg S fl fr to L).length := by
  intro L
  induction L with
  | nil => intro fl fr to; cases fl <;> simp [rg]
  | cons d L ih =>
    intro fl fr to
    unfold rg
    split
    · simp
    · exact ih _ _ _
theorem chk_of_app {s : List UInt8} {L : List Ed} (h : appE s L = 0) : chk L s.length = 0 := by
  by_cases hc : chk L s.length = 0
  · exact hc
  · rw [(appE_bad hc).1] at h; exact absurd h hc
set_option maxRecDepth 100000 in
set_option maxHeartbeats 8000000 in
theorem invert_any (src : ByteArray) (v : Value) (L : List Ed) (w : World) (hv : Es w w.heap.size v L) (hL : ∀ d ∈ L, d.ok) (hs : src.size ≤ 100000) (hS : Short L) : Calls Try.prog 20 #[.string src, v] w (InvPost src L w) := by
  have hA := apply_any src v L w hv hL hs hS
  obtain ⟨T, hT⟩ : ∃ T, appR src.data.toList L = T := ⟨_, rfl⟩
  rw [hT] at hA
  by_cases hE : appE src.data.toList L = 0
  · have hck : chk L src.size = 0 := chk_of_app hE
    have hG := good_of hck
    have hTl : T.size ≤ 1048576 := by
      rw [← hT]
      by_cases hb : 1048576 < (app src.data.toList L).length
      · have := (appE_big hck hb).1; rw [hE] at this; omega
      · rw [(appE_ok hck hb).2]
        show (app src.data.toList L).toArray.size ≤ 1048576
        simp; omega
    have hi : invL src L = nm src (appR src.data.toList L).size 0 0 ((rg src.size true 0 0 L).map sw) := if_pos hE
    have hwf := wf_sw (tx := src) (S := src.size) rfl (by omega) L true 0 0 0 0 (fit_of hG hS) hG.1 (by omega) (by have := hG.1; omega) ⟨by omega, by omega⟩ (by omega) (by omega)
    have hcnt := rg_count src.size L true 0 0
    have hpos := rg_pos src.size L true 0 0
    have hRU := Lib.hid (fun (w' : World) (h : Below w.heap.size w w') => runs_any v L src.size w' (Rd.next hv h) hL hG hs hS)
    obtain ⟨R, hR⟩ : ∃ R, rg src.size true 0 0 L = R := ⟨_, rfl⟩
    rw [hR] at hcnt hpos hwf hi hRU
    rw [hT] at hi
    obtain ⟨n, hn⟩ : ∃ n, R.length = n := ⟨_, rfl⟩
    have hn5 : n ≤ 4097 := by have := hG.1; omega
    have hn1 : 1 ≤ n := by omega
    have HI := Lib.hid hi
    have HNO := Lib.hid (fun (u : Value) (w' : World) (h : Rd rc 3 w' w'.heap.size u (R.map sw)) => normal_any T.size src u (R.map sw) w' h hwf ⟨by omega, by omega⟩ (by omega) (by rw [List.length_map]; omega))
    have HV := Lib.hid hv
    have HA := Lib.hid hA
    have HN := Lib.hid hn
    have HE := Lib.hid hE
    rw [hE] at HA
    unfold InvPost
    rw [HE.out, HI.out]
    clear hv hA hL hS hck hG hi hwf hcnt hpos hR hn hE
    go_enter Try.func20, Try.ntmps20
    go_wp2_with (first | (go_at_call 18; (with_reducible refine HA.out.mono ?_); rintro e w1 ⟨rfl, hb1⟩) | (go_at_call 32; (with_reducible refine (hRU.out _ hb1).mono ?_); rintro e w2 ⟨u, rfl, hb2, hO⟩; have HO2 := Lib.hid hO; have hl2 := Rd.run_len Try.underlying63 (Ow.rd rc_len hO) HN.out; clear hO))
    obtain ⟨g, cap, rfl, hg1, hg2, hcap⟩ := ow_at HO2.out HN.out (by omega)
    have hbb : Below w.heap.size w w2 := hb1.trans (hb2.mono hb1.size)
    have hB1 : w.heap.size ≤ w1.heap.size := hb1.size
    go_loopw [26] (fun i wr => ∃ k : Nat, k ≤ n ∧ i = .int .i64 k ∧ Below w.heap.size w wr ∧ w2.heap.size ≤ wr.heap.size ∧ Hid (Ow rc 3 66 wr w1.heap.size (.slice (some ⟨g, 0, none⟩) n cap) (mix R k))) (fun i _ => n - (intOf i).toNat)
    case atStart => exact ⟨0, by omega, rfl, hbb, Nat.le_refl _, HO2⟩
    case round =>
      obtain ⟨k, hk, rfl, hb, hbs, HO⟩ := hrel
      by_cases hlt : k < n
      · obtain ⟨r, hr⟩ := get_ru HN.out hlt
        have hml := mix_len R (i := k)
        rw [HN.out] at hml
        obtain ⟨⟨c0, c1, c2⟩, f0, f1, f2⟩ := ow_cells HO.out hml (mix_get hr)
        have HS : Hid ((mix R k).set k (sw r) = mix R (k + 1)) := Lib.hid (mix_set hr)
        have hst := ow_set HO.out hml (mix_get hr) (sw r)
        rw [HS.out] at hst
        have HST := Lib.hid hst
        have hgl : g < wr.heap.size := by omega
        obtain ⟨⟨d0, d1, d2⟩, g0, g1, g2⟩ := ow_cells (HO.out.alloc (.cells #[.int .i64 r.a, .int .i64 r.b, .int .i64 r.c] 66)) hml (mix_get hr)
        clear hst hr
        go_wp2
        exact ⟨⟨k + 1, by omega, by go_num, ((((hb.setCell (p := ⟨g, k * 3, none⟩) (by show w.heap.size ≤ g; omega) _).setCell (p := ⟨g, k * 3 + 1, none⟩) (by show w.heap.size ≤ g; omega) _).setCell (p := ⟨g, k * 3 + 2, none⟩) (by show w.heap.size ≤ g; omega) _).alloc (by simp; omega) _), by simp; omega, Lib.hid (HST.out.alloc _)⟩, by simp [intOf]; omega⟩
      · obtain rfl : k = n := by omega
        have ho := HO.out
        rw [mix_all R HN.out] at ho
        have HO3 := Lib.hid (Ow.rd rc_len ho)
        clear ho
        go_wp2_with (go_at_call 33; (with_reducible refine (HNO.out _ _ HO3.out).mono ?_); rintro e w3 ⟨u3, rfl, hb3, hO⟩; have HO4 := Lib.hid hO; clear hO)
        go_ret2
        exact ⟨_, rfl, hb.trans (hb3.mono (by omega)), ow_le HO4.out (by omega)⟩
  · obtain ⟨E, hE'⟩ : ∃ E, appE src.data.toList L = E := ⟨_, rfl⟩
    have hi : invL src L = [] := if_neg hE
    have HA := Lib.hid hA
    unfold InvPost
    rw [hi]
    rw [hE'] at HA hE ⊢
    have hne : (E == 0) = false := by rw [beq_eq_false_iff_ne]; exact hE
    clear hA hE' hv
    go_enter Try.func20, Try.ntmps20
    go_wp2_with (go_at_call 18; (with_reducible refine HA.out.mono ?_); rintro e w1 ⟨rfl, hb1⟩)
    go_ret2
    exact ⟨_, rfl, hb1, Ow.nil _ _⟩
end Go.Proofs.Ytdgoblapmjpcaaa.Sp
