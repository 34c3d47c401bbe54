/-
  What the law collects of an iterator: all.
-/
import Derived.Test.YtiodnncpgdiejaaDoorUtfR
namespace Go.Proofs.YtiodnncpgdiejaaDoor.Utf
open Go.RowKit Go.Shelf
attribute [local go_sem] Oper.semAt_some

/-- The first characters: all, or so many. -/
def fewR (n : Int) (L : List Nat) : List Nat := if n < 0 then L else L.take n.toNat
def rc (L : List Nat) : List Value := L.map fun x => .int .i64 (x : Nat)
theorem rc_snoc (L : List Nat) (x : Nat) : rc (L ++ [x]) = rc L ++ [.int .i64 (x : Nat)] := by unfold rc; simp
theorem row_ne {W : World} {base : Nat} {e : TypeId} {size : Nat} {v : Value} {k : Nat} {xs : List Value} (h : W.ownsRow base e size v k xs) {B : Nat} (hB : B < base) : some B ≠ v.ownBlock := by
  intro e
  have := (World.ownsRow.lt h B e.symm).1
  omega
theorem fewR_all {n : Int} {L : List Nat} (h : (L.length : Int) < n ∨ n < 0) : fewR n L = L := by
  unfold fewR
  split
  · rfl
  · exact List.take_of_length_le (by omega)
theorem fewR_pre {n : Int} {L pre : List Nat} (h : pre <+: L) (hn : (pre.length : Int) = n) : fewR n L = pre := by
  unfold fewR
  rw [if_neg (by omega), ← hn, Int.toNat_natCast]
  exact (List.prefix_iff_eq_take.1 h).symm
set_option maxRecDepth 100000 in
set_option maxHeartbeats 4000000 in
theorem all_any (s : ByteArray) (n : Int) (w : World) (hT : Tabs w) (hs : s.size ≤ 4096) (hn : n = -1 ∨ (1 ≤ n ∧ n ≤ 1000)) : Calls Tryd.prog 10 #[.string s, .int .i64 n] w fun e W' => ∃ v, e = .returned (.tuple #[v, .bool true]) ∧ W'.ownsRow (w.heap.size + 1) 3 1 v (fewR n (rs s.data.toList)).length (rc (fewR n (rs s.data.toList))) ∧ Below w.heap.size w W' := by
  have hnil : ∀ (cap : Array Value) (w : World), Sem.run Tryd.prog (binOp BinOp.eql 48 (.func (.func 32) #[] cap) .nilFunc) w = .ok (.bool false) w := fun _ _ => by kernel_rfl
  obtain ⟨i0, hi, hz0, hz1, hz2⟩ := info_parts info_int
  refine (callsIn_wide (n := 9)).1 ?_
  refine callsIn_of_wp_marks Tryd.func10 rfl trivial ?_ rfl
  simp only [Tryd.ntmps10, List.size_toArray, List.length_cons, List.length_nil, Nat.reduceAdd, Nat.reduceSub, Array.replicate_succ, Array.replicate_zero, List.push_toArray, List.append_toArray, List.nil_append, List.cons_append]
  gi_wp2_with (refine ⟨trivial, ?_⟩; gi_at_call 18; refine (callsIn_wide.2 (runes_any _ _)).mono ?_; rintro e w' ⟨rfl, rfl⟩)
  have bN := Boxed.new w 3 (.int .i64 n)
  have bO := Boxed.new (w.alloc (.cells #[.int .i64 n] 3)) 31 (.slice none 0 0)
  have bS := Boxed.new ((w.alloc (.cells #[.int .i64 n] 3)).alloc (.cells #[.slice none 0 0] 31)) 9 (.string s)
  simp only [World.size_alloc] at bO bS
  have hB0 : Below w.heap.size w (((w.alloc (.cells #[.int .i64 n] 3)).alloc (.cells #[.slice none 0 0] 31)).alloc (.cells #[.string s] 9)) := (((Below.refl _ w).alloc (Nat.le_refl _) _).alloc (by simp) _).alloc (by simp; omega) _
  have hle := rs_le s.data.toList
  have hsz : s.data.toList.length = s.size := size_list s
  refine wpIn_rangeFunc_ownG rfl (by omega) (gf := 32) (lb := #[.pointer (some ⟨w.heap.size + 1 + 1, 0, none⟩)]) rfl trivial (enters_of Tryd.func32 (by kernel_rfl) rfl)
    (runes_stops 8 (by omega) (w.heap.size + 1 + 1) w.heap.size s (by omega) _ (by simp) (by simp; omega) bS.cell (fun W' h => hT.below (hB0.trans h))) K2.trans (K2.put (by simp; omega) (by simp)) (Below.refl _ _) (fun _ => rfl)
    (fun pre W => ((∃ v, Boxed W (w.heap.size + 1) 31 v ∧ W.ownsRow (w.heap.size + 1) 3 1 v pre.length (rc pre) ∧ True) ∧ Boxed W w.heap.size 3 (.int .i64 n) ∧ Boxed W (w.heap.size + 1 + 1) 9 (.string s) ∧ ((pre.length : Int) < n ∨ n < 0)) ∧ Below w.heap.size w W)
    (fun c pre W => ((∃ v, Boxed W (w.heap.size + 1) 31 v ∧ W.ownsRow (w.heap.size + 1) 3 1 v pre.length (rc pre) ∧ True) ∧ c = .exit 0 ∧ (pre.length : Int) = n) ∧ Below w.heap.size w W)
    ?hI ?hIx ?h0 (fun x => { tmps := #[.string s, .int .i64 n, undef, .pointer (some ⟨w.heap.size, 0, none⟩), .slice none 0 0, .bool false, .pointer (some ⟨w.heap.size + 1, 0, none⟩), .func (.func 32) #[] #[.pointer (some ⟨w.heap.size + 1 + 1, 0, none⟩)], .int .i64 (x : Nat), .string s, .func (.func 32) #[] #[.pointer (some ⟨w.heap.size + 1 + 1, 0, none⟩)], .func (.func 32) #[] #[.pointer (some ⟨w.heap.size + 1 + 1, 0, none⟩)], .bool false, .func (.func 32) #[] #[.pointer (some ⟨w.heap.size + 1 + 1, 0, none⟩)], .int .i64 (x : Nat), undef, undef, undef, undef, undef, undef, undef, undef, undef], defers := [] }) ?assign ?body ?done ?stop
  case hI => exact OwnFrom.and (OwnFrom.and (Own.from (holdsRow_own (w.heap.size + 1) (w.heap.size + 1) 31 3 1 (fun pre => pre.length) (fun pre => rc pre) (fun _ _ => True)) _) (OwnFrom.and (Own.from (boxed_own _ _ (fun _ => .int .i64 n)) _) (OwnFrom.and (Own.from (boxed_own _ _ (fun _ => .string s)) _) (ownFrom_pure _ (fun (pre : List Nat) => (pre.length : Int) < n ∨ n < 0))))) (ownFrom_below (Nat.le_refl _) (by simp; omega))
  case hIx => exact fun c => OwnFrom.and (OwnFrom.and (Own.from (holdsRow_own (w.heap.size + 1) (w.heap.size + 1) 31 3 1 (fun pre => pre.length) (fun pre => rc pre) (fun _ _ => True)) _) (ownFrom_pure _ (fun (pre : List Nat) => c = .exit 0 ∧ (pre.length : Int) = n))) (ownFrom_below (Nat.le_refl _) (by simp; omega))
  case h0 => exact ⟨⟨⟨_, bO.alloc _, World.ownsRow_nil _ _ _ _, trivial⟩, (bN.alloc _).alloc _, bS, by simp; omega⟩, hB0⟩
  case assign =>
    intro l x W K hK
    gi_wp2
    exact hK
  case body =>
    rintro l pre x W ⟨⟨⟨v, hv, hrow, _⟩, hbn, hbs, hpn⟩, hB⟩ hlt
    have hc := hv.cell
    have hcn := hbn.cell
    gi_wp2_with (gi_at_builtin; refine wpListIn_append_own _ rfl _ _ 31 rfl (w.heap.size + 1) 3 i0 (.int .i64 0) 1 8 Tryd.underlying31 hi hz0 hz1 hz2 rfl (by decide) _ _ _ rfl (hrow.alloc _) ⟨W.heap.size, 0, none⟩ 1 1 [.int .i64 (x : Nat)] rfl rfl (cell_one_new _ _ _) (by simp [Value.oneCell']) (by unfold maxLen; omega) (by omega) (by have := hv.lt; simp; omega) ?_; intro v' w1 hown' hgrow _; obtain ⟨g', cap', rfl⟩ := ownsRow_succ hown'; obtain ⟨hv1, hv2, hr2, hk2, hb2⟩ := hv.appended (by decide) hrow (by have := hv.lt; omega) (Nat.le_refl _) hown' hgrow; have hc1 := hv1.cell; have hf1 := hv1.frozen; have hbn1 := (hbn.alloc _).kept hgrow (row_ne hrow (by omega)); have hcn1 := hbn1.cell; have hbn2 := hbn1.other (B' := w.heap.size + 1) (by omega) (.slice (some ⟨g', 0, none⟩) (pre.length + 1) cap'); have hbs2 := ((hbs.alloc _).kept hgrow (hbs.not_row (by decide) hrow)).other (B' := w.heap.size + 1) (by omega) (.slice (some ⟨g', 0, none⟩) (pre.length + 1) cap'); have hB2 := hB.trans (hb2.mono (Nat.le_succ _)))
    · rename_i hx
      have hx := eq_of_beq hx
      exact ⟨hk2.from _, ⟨⟨_, hv2, by rw [rc_snoc]; simpa using hr2, trivial⟩, rfl, by simpa using hx⟩, hB2⟩
    · rename_i hx
      have hx : ¬ (pre.length : Int) + 1 = n := by intro e; rw [e] at hx; simp at hx
      exact ⟨hk2.from _, ⟨hb2.mono (Nat.le_succ _), hbs2.trans hbs.symm⟩, ⟨⟨_, hv2, by rw [rc_snoc]; simpa using hr2, trivial⟩, hbn2, hbs2, by simp; omega⟩, hB2⟩
  case done =>
    rintro D ys W hD rfl ⟨⟨⟨v, hv, hrow, _⟩, hbn, hbs, hpn⟩, hB⟩ hK
    have hc := hv.cell
    gi_wp2
    refine ⟨by simp, .inl ⟨_, _, rfl, run_takeDeferred hK, ?_⟩⟩
    exact ⟨_, results_tmp2 rfl _ _ _, v, rfl, by rw [fewR_all hpn]; exact ownsRow_putObj hrow _ hK rfl, hB.trans (belowK_b (w := w) (Nat.le_refl _) W D _ _ (by simp at hD; omega) hK rfl rfl)⟩
  case stop =>
    rintro D c pre W hD hpre ⟨⟨⟨v, hv, hrow, _⟩, rfl, hpn⟩, hB⟩ hK
    have hc := hv.cell
    gi_wp2
    refine ⟨by simp, .inl ⟨_, _, rfl, run_takeDeferred hK, ?_⟩⟩
    exact ⟨_, results_tmp2 rfl _ _ _, v, rfl, by rw [fewR_pre hpre hpn]; exact ownsRow_putObj hrow _ hK rfl, hB.trans (belowK_b (w := w) (Nat.le_refl _) W D _ _ (by simp at hD; omega) hK rfl rfl)⟩
end Go.Proofs.YtiodnncpgdiejaaDoor.Utf
