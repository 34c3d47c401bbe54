/-
  Contracts of package span: texts edited.
-/
import Derived.Test.YtdgoblapmjpcaaaSpC
namespace Go.Proofs.Ytdgoblapmjpcaaa.Sp
open Go.RowKit
set_option linter.unusedVariables false
set_option linter.unusedSimpArgs false
open RO

theorem good_nat {L : List Ed} {s : Nat} (h : Good L s) {k : Nat} {d : Ed} (hd : L[k]? = some d) : ∃ F T : Nat, d.f = (F : Int) ∧ d.t = (T : Int) ∧ atk L k ≤ F ∧ F ≤ T ∧ T ≤ s := by
  obtain ⟨a, b, c, e⟩ := h.2 k d hd
  exact ⟨d.f.toNat, d.t.toNat, by omega, by omega, by omega, by omega, by omega⟩
theorem heap_cell {w : World} {b : Nat} {cs : Array Value} {T : TypeId} {fr : Nat × Nat} (hb : w.heap[b]? = some (.cells cs T fr)) (j : Nat) : w.cell? ⟨b, j, none⟩ = cs[j]? := Lib.cell_of_heap hb j
set_option maxRecDepth 100000 in
set_option maxHeartbeats 4000000 in
theorem apply_any (src : ByteArray) (v : Value) (L : List Ed) (w : World) (hv : Es w w.heap.size v L) (hL : ∀ d ∈ L, d.ok) (hs : src.size ≤ 100000) (hS : Short L) : Calls Try.prog 18 #[.string src, v] w fun e w' => e = .returned (.tuple #[.string (appR src.data.toList L), .int .i64 (appE src.data.toList L)]) ∧ Below w.heap.size w w' := by
  have CC := Lib.hid (fun w (h : Es w w.heap.size v L) => check_any v L src.size w h hL ⟨by omega, by omega⟩)
  obtain ⟨C, hC⟩ : ∃ C, chk L src.size = C := ⟨_, rfl⟩
  have hCi := chk_is L src.size
  rw [hC] at CC hCi
  by_cases h0 : C = 0
  case neg =>
    obtain ⟨E1, E2⟩ := appE_bad (s := src.data.toList) (L := L) (by rw [size_list, hC]; exact h0)
    rw [size_list, hC] at E1
    have HE1 := Lib.hid E1
    have HE2 := Lib.hid E2
    have hne : (C != 0) = true := by rw [bne_iff_ne]; exact h0
    have HV := Lib.hid hv
    clear hv E1 E2 hC hL hCi
    go_enter Try.func18, Try.ntmps18
    go_wp2_with (go_at_call 15; (with_reducible refine (CC.out _ HV.out).mono ?_); rintro e w1 ⟨rfl, hb1⟩)
    go_ret2
    exact ⟨by rw [HE1.out, HE2.out]; rfl, hb1⟩
  subst h0
  have hG : Good L src.data.toList.length := good_of (by rw [size_list]; exact hC)
  obtain ⟨n, hn⟩ : ∃ n, L.length = n := ⟨_, rfl⟩
  have hn4 : n ≤ 4096 := by have := hG.1; omega
  obtain ⟨a, cap, rfl, hn9⟩ := Rd.slice hv hn
  obtain ⟨M, hM⟩ : ∃ M, (app src.data.toList L).length = M := ⟨_, rfl⟩
  have hAP : (app src.data.toList L).length = (pre src.data.toList L n).length + (src.size - atk L n) := by
    unfold app
    rw [List.length_append, List.length_drop, size_list, hn]
  have hPL := pre_le hG hS (k := n) (by omega)
  have hAN := atk_le hG (k := n) (by omega)
  rw [size_list] at hAN
  have hM9 : M ≤ 500000000 := by
    have := Nat.mul_le_mul_right 100000 hn4
    omega
  have HM : Hid (M = (pre src.data.toList L n).length + (src.size - atk L n)) := Lib.hid (by rw [← hM, hAP])
  have HBIG := Lib.hid (fun h => appE_big (s := src.data.toList) (L := L) (by rw [size_list]; exact hC) h)
  have HOKE := Lib.hid (fun h => appE_ok (s := src.data.toList) (L := L) (by rw [size_list]; exact hC) h)
  rw [hM] at HBIG HOKE
  have HV := Lib.hid hv
  have HN := Lib.hid hn
  have HG := Lib.hid hG
  have HOK := Lib.hid hL
  have HSh := Lib.hid hS
  have HPLe := Lib.hid (fun k (h : k ≤ n) => pre_le hG hS (k := k) (by omega))
  have HCELL : Hid (∀ (w' : World), Below w.heap.size w w' → ∀ k, k < n → ∃ g o d, a = some ⟨g, o, none⟩ ∧ L[k]? = some d ∧ w'.cell? ⟨g, o + k * 3, none⟩ = some (.int .i64 d.f) ∧ w'.cell? ⟨g, o + k * 3 + 1, none⟩ = some (.int .i64 d.t) ∧ w'.cell? ⟨g, o + k * 3 + 2, none⟩ = some (.string d.x) ∧ g < w.heap.size) := Lib.hid fun w' hb k hk => by
    obtain ⟨g, o, cap', hvv, hg, _, _, hcell⟩ := Es.at_ hv hn (by omega)
    injection hvv with h1 h2 h3
    obtain ⟨d, hd⟩ := get_in hn hk
    obtain ⟨e0, e1, e2⟩ := hcell k d hd
    exact ⟨g, o, d, h1, hd, (hb.cell (p := ⟨g, o + k * 3, none⟩) hg).trans e0, (hb.cell (p := ⟨g, o + k * 3 + 1, none⟩) hg).trans e1, (hb.cell (p := ⟨g, o + k * 3 + 2, none⟩) hg).trans e2, hg⟩
  clear hv hn hG hL hS hC hM hAP hPL hAN hCi
  go_enter Try.func18, Try.ntmps18
  go_wp2_with (go_at_call 15; (with_reducible refine (CC.out _ HV.out).mono ?_); rintro e w1 ⟨rfl, hb1⟩)
  go_loopw [7, 25] (fun z i wr => ∃ k : Nat, k ≤ n ∧ i = .int .i64 k ∧ z = .int .i64 ((pre src.data.toList L k).length + (src.size - atk L k) : Nat) ∧ Below w.heap.size w wr ∧ w.heap.size ≤ wr.heap.size) (fun _ i _ => n - (intOf i).toNat)
  case atStart => exact ⟨0, by omega, rfl, by simp [pre, atk], hb1, hb1.size⟩
  case round =>
    obtain ⟨k, hk, rfl, rfl, hb, hbs⟩ := hrel
    by_cases hlt : k < n
    · obtain ⟨g, o, d, rfl, hd, e0, e1, e2, hg⟩ := HCELL.out _ hb k hlt
      obtain ⟨hp1, hp2⟩ := pre_len HG.out HSh.out hd
      obtain ⟨F, T, hF, hT, q1, q2, q3⟩ := good_nat HG.out hd
      have hat := atk_succ hd
      have hpl := HPLe.out k (by omega)
      obtain ⟨df, dt, dx⟩ := d
      simp only at hF hT hp1 hp2 e0 e1 e2 hat
      subst hF hT
      rw [Int.toNat_natCast] at hp1 hat
      rw [size_list] at q3
      have hk5 : k * 100000 ≤ 409600000 := by omega
      obtain ⟨A, hA⟩ : ∃ A, atk L k = A := ⟨_, rfl⟩
      obtain ⟨P, hP⟩ : ∃ P, (pre src.data.toList L k).length = P := ⟨_, rfl⟩
      rw [hA, hP] at hp1
      rw [hA] at q1
      rw [hA, hP] at hpl
      rw [hA, hP]
      obtain ⟨Z, hZ⟩ : ∃ Z, P + (src.size - A) = Z := ⟨_, rfl⟩
      rw [hZ]
      have hz : ((pre src.data.toList L (k + 1)).length + (src.size - atk L (k + 1)) : Nat) + T = Z + dx.size + F := by rw [hp1, hat]; omega
      have HZ2 := Lib.hid hz
      have hZ9 : Z ≤ 600000000 := by omega
      clear hp1 hA hP hZ hz hat hd hpl
      go_wp2
      exact ⟨⟨k + 1, by omega, by go_num, congrArg (Value.int .i64) (by have := HZ2.out; omega), hb.alloc hbs _, by simp; omega⟩, by simp [intOf]; omega⟩
    · obtain rfl : k = n := by omega
      rw [← HM.out]
      by_cases hbig : 1048576 < M
      · obtain ⟨E1, E2⟩ := HBIG.out hbig
        have HE1 := Lib.hid E1
        have HE2 := Lib.hid E2
        clear E1 E2
        go_wp2
        go_ret2
        exact ⟨by rw [HE1.out, HE2.out]; rfl, hb⟩
      obtain ⟨E1, E2⟩ := HOKE.out hbig
      have HE1 := Lib.hid E1
      have HE2 := Lib.hid E2
      clear E1 E2
      have hdb : decide (1048576 < (M : Int)) = false := by simp; omega
      have hI0 := Lib.hid (heap_alloc_new wr (.cells #[.pointer none, .slice none 0 0] 56))
      have hbX := Lib.hid (hb.alloc hbs (.cells #[.pointer none, .slice none 0 0] 56))
      go_wp2_with (go_at_call 29; (with_reducible refine (Try.Builder_Grow_fresh wr.heap.size wr.heap.size M _ (Nat.le_refl _) hI0.out (by simp) (by omega)).mono ?_); rintro e w2 ⟨rfl, hB2, hb2⟩)
      have HI0 := Lib.hid (Lib.IsBuilderF.of (Or.inr hB2))
      have HBw := Lib.hid (hbX.out.trans (hb2.mono hbs))
      have hsz2 : wr.heap.size < w2.heap.size := Nat.lt_of_lt_of_le (by simp) hb2.size
      obtain ⟨b, hbq⟩ : ∃ b, Hid (wr.heap.size = b) := ⟨_, Lib.hid rfl⟩
      rw [hbq.out] at HI0 hsz2 hbs ⊢
      clear hB2 hb2 hI0 hbX hb
      go_loopw [11, 49] (fun t i wq => ∃ j : Nat, j ≤ k ∧ i = .int .i64 j ∧ t = .int .i64 (atk L j : Nat) ∧ Hid (Lib.IsBuilderF 56 5 b b (Lib.byteCells (pre src.data.toList L j)) wq) ∧ Hid (Below w.heap.size w wq) ∧ b < wq.heap.size) (fun _ i _ => k - (intOf i).toNat)
      case atStart => exact ⟨0, by omega, rfl, rfl, HI0, HBw, hsz2⟩
      case round =>
        obtain ⟨j, hj, rfl, rfl, HI, HB, hsz⟩ := hrel
        by_cases hlt : j < k
        · obtain ⟨g, o, d, rfl, hd, e0, e1, e2, hg⟩ := HCELL.out _ HB.out j hlt
          obtain ⟨hp1, hp2⟩ := pre_len HG.out HSh.out hd
          obtain ⟨F, T, hF, hT, q1, q2, q3⟩ := good_nat HG.out hd
          have hat := atk_succ hd
          have hpl := HPLe.out j (by omega)
          have hps := pre_succ (s := src.data.toList) hd
          obtain ⟨df, dt, dx⟩ := d
          simp only at hF hT hp1 hp2 e0 e1 e2 hat hps
          subst hF hT
          rw [Int.toNat_natCast] at hat hps
          rw [size_list] at q3
          have hj5 : j * 100000 ≤ 409600000 := by omega
          obtain ⟨A, hA⟩ : ∃ A, Hid (atk L j = A) := ⟨_, Lib.hid rfl⟩
          rw [hA.out] at q1 hps hpl ⊢
          have hpl2 : (Lib.byteCells (pre src.data.toList L j)).length + (src.extract A F).size ≤ 140737488355328 := by
            rw [Lib.byteCells_length, ByteArray.size_extract]; omega
          have hpl3 : (Lib.byteCells (pre src.data.toList L j) ++ Lib.strCells (src.extract A F)).length + dx.size ≤ 140737488355328 := by
            rw [List.length_append, Lib.byteCells_length]
            have : (Lib.strCells (src.extract A F)).length = (src.extract A F).size := Lib.strCells_length _
            rw [this, ByteArray.size_extract]; omega
          have HPL2 := Lib.hid hpl2
          have HPL3 := Lib.hid hpl3
          have HPS := Lib.hid hps
          have HAT := Lib.hid hat
          have HNW := Lib.hid (heap_alloc_new wr (.cells #[.int .i64 F, .int .i64 T, .string dx] 50))
          have hXb : some wr.heap.size ≠ some b := by intro h; injection h with h; omega
          have HXB := Lib.hid hXb
          have HBA := Lib.hid (HB.out.alloc (by omega) (.cells #[.int .i64 F, .int .i64 T, .string dx] 50))
          clear hp1 hat hps hd hpl hpl2 hpl3 hXb
          go_wp2_with fail
          refine (Try.Builder_WriteString_k b b _ (src.extract A F) _ (HI.out.alloc _) HPL2.out (by simp; omega)).mono ?_
          rintro e w4 ⟨rfl, hI4, hb4, hk4⟩
          have HX4 := Lib.hid (hk4 _ _ HNW.out HXB.out (by intro c fz h; simp at h))
          have HI4 := Lib.hid hI4
          have HB4 := Lib.hid (HBA.out.trans (hb4.mono hbs))
          have hsz4 : b < w4.heap.size := Nat.lt_of_lt_of_le (by simp; omega) hb4.size
          have x0 := heap_cell HX4.out 0
          have x1 := heap_cell HX4.out 1
          have x2 := heap_cell HX4.out 2
          simp at x0 x1 x2
          clear hI4 hb4 hk4
          go_wp2_with fail
          refine (Try.Builder_WriteString_k b b _ dx _ (.inr HI4.out) HPL3.out (by omega)).mono ?_
          rintro e w5 ⟨rfl, hI5, hb5, hk5⟩
          have HX5 := Lib.hid (hk5 _ _ HX4.out HXB.out (by intro c fz h; simp at h))
          have HI5 : Hid (Lib.IsBuilderF 56 5 b b (Lib.byteCells (pre src.data.toList L (j + 1))) w5) := Lib.hid (by
            have : Lib.byteCells (pre src.data.toList L (j + 1)) = Lib.byteCells (pre src.data.toList L j) ++ Lib.strCells (src.extract A F) ++ Lib.strCells dx := by
              rw [HPS.out, Lib.byteCells_append, Lib.byteCells_append, Lib.strCells_eq, Lib.strCells_eq, ext_list, List.append_assoc]
            rw [this]
            exact .inr hI5)
          have HB5 := Lib.hid (HB4.out.trans (hb5.mono hbs))
          have hsz5 : b < w5.heap.size := Nat.lt_of_lt_of_le hsz4 hb5.size
          have y1 := heap_cell HX5.out 1
          simp at y1
          clear hI5 hb5 hk5 x0 x1 x2
          go_wp2
          exact ⟨⟨j + 1, by omega, by go_num, by rw [HAT.out], HI5, HB5, hsz5⟩, by simp [intOf]; omega⟩
        · obtain rfl : j = k := by omega
          have hat := atk_le HG.out (k := j) (by rw [HN.out]; exact Nat.le_refl _)
          rw [size_list] at hat
          have hpl := HPLe.out j (Nat.le_refl _)
          have hj5 : j * 100000 ≤ 409600000 := by omega
          have HAPP : Hid (app src.data.toList L = pre src.data.toList L j ++ src.data.toList.drop (atk L j)) := Lib.hid (by unfold app; rw [HN.out])
          obtain ⟨A, hA⟩ : ∃ A, Hid (atk L j = A) := ⟨_, Lib.hid rfl⟩
          rw [hA.out] at hat hpl HAPP ⊢
          have HPL2 : Hid ((Lib.byteCells (pre src.data.toList L j)).length + (src.extract A src.size).size ≤ 140737488355328) := Lib.hid (by
            rw [Lib.byteCells_length, ByteArray.size_extract]; omega)
          have HFN : Hid (∀ t : ByteArray, t.data.toList = src.data.toList.drop A → Lib.byteCells (pre src.data.toList L j) ++ Lib.strCells t = Lib.byteCells (app src.data.toList L)) := Lib.hid (fun t ht => by
            rw [HAPP.out, Lib.byteCells_append, Lib.strCells_eq, ht])
          have HXD := Lib.hid (ext_drop src A)
          clear hpl
          go_wp2_with fail
          refine (Try.Builder_WriteString_k b b _ (src.extract A src.size) _ HI.out HPL2.out (by omega)).mono ?_
          rintro e w4 ⟨rfl, hI4, hb4, hk4⟩
          rw [HFN.out _ HXD.out] at hI4
          have HI4 := Lib.hid hI4
          have HB4 := Lib.hid (HB.out.trans (hb4.mono hbs))
          have hsz4 : b < w4.heap.size := Nat.lt_of_lt_of_le hsz hb4.size
          clear hI4 hb4 hk4
          go_wp2_with fail
          refine (Try.Builder_String_any_k b b _ _ (.inr HI4.out) (by omega)).mono ?_
          rintro e w5 ⟨rfl, _, hb5, _⟩
          have HB5 := Lib.hid (HB4.out.trans (hb5.mono hbs))
          clear hb5
          go_wp2
          go_ret2
          exact ⟨by rw [HE1.out, HE2.out]; rfl, HB5.out⟩
end Go.Proofs.Ytdgoblapmjpcaaa.Sp
