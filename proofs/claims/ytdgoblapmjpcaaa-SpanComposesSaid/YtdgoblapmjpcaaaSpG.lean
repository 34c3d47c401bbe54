/-
  Contracts of package span: runs of preserved bytes, walked.
-/
import Derived.Test.YtdgoblapmjpcaaaSpF
namespace Go.Proofs.Ytdgoblapmjpcaaa.Sp
open Go.RowKit
set_option linter.unusedVariables false
set_option linter.unusedSimpArgs false
open RO

def slen : Value → Nat
  | .slice _ n _ => n
  | _ => 0
def RunsPost (R : List Ru) (w : World) (e : Ending) (w' : World) : Prop := ∃ v, e = .returned v ∧ Below w.heap.size w w' ∧ Ow rc 3 66 w' w.heap.size v R
theorem ow_d {cs : Ru → List Value} {sz : Nat} {e : TypeId} {w : World} {base : Nat} {v : Value} {L : List Ru} (h : Ow cs sz e w base v L) (n : Nat) : Ow cs sz e (w.drewN n) base v L := h
theorem rd_via {α : Type} {cs : α → List Value} {sz : Nat} {w w1 w2 : World} {B : Nat} {v : Value} {L : List α} (h : Rd cs sz w1 B v L) (h1 : Below B w w1) (h2 : Below B w w2) : Rd cs sz w2 B v L := by
  rcases h with h | ⟨g, o, cap, hv, hg, hl, hm, hc⟩
  · exact .inl h
  · exact .inr ⟨g, o, cap, hv, hg, hl, hm, fun i x j u k1 k2 => by
      rw [h2.cell (p := ⟨g, o + i * sz + j, none⟩) hg, ← h1.cell (p := ⟨g, o + i * sz + j, none⟩) hg]; exact hc i x j u k1 k2⟩
theorem get_drop {L : List Ed} {i j : Nat} : (L.drop i)[j]? = L[i + j]? := by rw [List.getElem?_drop]
theorem sumx_le {L : List Ed} (h : Short L) (G : List Ed) (hG : ∀ d ∈ G, d ∈ L) : 0 ≤ sumx G ∧ sumx G ≤ 100000 * G.length := by
  induction G with
  | nil => simp [sumx]
  | cons d G ih =>
    have := ih (fun x hx => hG x (by simp [hx]))
    have hd := h d (hG d (by simp))
    rw [sumx_cons]
    simp only [List.length_cons]
    omega
theorem sumx_take {G : List Ed} {j : Nat} {d : Ed} (h : G[j]? = some d) : sumx (G.take (j + 1)) = sumx (G.take j) + d.x.size := by
  obtain ⟨hj, rfl⟩ := List.getElem?_eq_some_iff.1 h
  rw [List.take_succ_eq_append_getElem hj, sumx_app, sumx_cons]
  simp [sumx]
theorem sp_app {ops : Array Oper} {rest : List Oper} {o : Oper} {a : Act} {Q : Exit → Act → World → Prop} (hgd : o.guard = none) (s y : Operand) (ho : o.op = .call { callee := .builtin .append, args := #[s, y], argTypes := #[63, 63] })
    {W w : World} {base : Nat} {v : Value} {L : List Ru} (hs : a.eval s = v) (hB : Ow rc 3 66 w base v L) (hb : Below base W w) (hbs : base ≤ w.heap.size) (x : Ru) {C : Array Value} {c : Nat} (hx : a.eval y = .slice (some ⟨w.heap.size, 0, none⟩) 1 c) (hC : C = (rc x).toArray) (hlen : L.length + 1 ≤ 100000000)
    (h : ∀ v' w', Ow rc 3 66 w' base v' (L ++ [x]) → Below base W w' → base ≤ w'.heap.size → wpList Try.prog ops Q rest (a.put o.dst v') w') : wpList Try.prog ops Q (o :: rest) a (w.alloc (.cells C 66)) :=
  wpList_appo Try.underlying63 info_run rfl rc_len rc_one (by decide) (by decide) hgd s y ho hs hB hb hbs x hx hC hlen h
set_option maxRecDepth 100000 in
set_option maxHeartbeats 8000000 in
theorem runs_any (v : Value) (L : List Ed) (S : Nat) (w : World) (hv : Es w w.heap.size v L) (hL : ∀ d ∈ L, d.ok) (hG : Good L S) (hS : S ≤ 100000) (hSh : Short L) : Calls Try.prog 32 #[v, .int .i64 S] w (RunsPost (rg S true 0 0 L) w) := by
  obtain ⟨n, hn⟩ : ∃ n, L.length = n := ⟨_, rfl⟩
  have hn4 : n ≤ 4096 := by have := hG.1; omega
  have HV := Lib.hid hv
  have HN := Lib.hid hn
  have HOK := Lib.hid hL
  have HG := Lib.hid hG
  have HSh := Lib.hid hSh
  clear hv hn hL hG hSh
  go_enter Try.func32, Try.ntmps32
  go_wp2
  go_loopw [0, 5, 6, 7] (fun x kv f t wr => ∃ (i : Nat) (fr to : Int) (acc : List Ru), i ≤ n ∧ f = .int .i64 fr ∧ t = .int .i64 to ∧ 0 ≤ fr ∧ fr ≤ 100000 ∧ 0 ≤ to ∧ to ≤ 200000 * i ∧ acc.length ≤ i ∧ Hid (Es wr w.heap.size x (L.drop i)) ∧ Hid (Ow rc 3 66 wr w.heap.size kv acc) ∧ Below w.heap.size w wr ∧ w.heap.size ≤ wr.heap.size ∧ Hid (rg S true 0 0 L = acc ++ rg S true fr to (L.drop i)) ∧ Hid (∀ d, L[i]? = some d → fr ≤ d.f)) (fun x _ _ _ _ => slen x)
  case atStart => exact ⟨0, 0, 0, [], by omega, rfl, rfl, by omega, by omega, by omega, by omega, by simp, HV, Lib.hid (Ow.nil _ _), Below.refl _ _, Nat.le_refl _, Lib.hid rfl, Lib.hid fun d hd => (HG.out.2 0 d hd).1⟩
  case round =>
    obtain ⟨i, fr, to, acc, hi, rfl, rfl, f0, f1, t0, t1, ha, HE, HO, hb, hbs, HR, HF⟩ := hrel
    have hln := Rd.run_len Try.underlying22 HE.out (n := n - i) (by rw [List.length_drop, HN.out])
    by_cases hlt : i < n
    · obtain ⟨d, hd⟩ := get_in HN.out hlt
      have hne : L.drop i ≠ [] := by intro e; have := congrArg List.length e; rw [List.length_drop, HN.out] at this; simp at this; omega
      obtain ⟨m, hm⟩ : ∃ m, tch (L.drop i) = m := ⟨_, rfl⟩
      have hm1 := tch_pos hne
      have hm2 := tch_le (L.drop i)
      rw [hm] at hm1 hm2
      rw [List.length_drop, HN.out] at hm2
      have hd0 : (L.drop i)[0]? = some d := by rw [get_drop]; exact hd
      have hgr := rg_group S fr to hd0
      rw [hm] at hgr
      obtain ⟨q, hq⟩ := get_in HN.out (show i + (m - 1) < n by omega)
      have hq0 : (L.drop i).getD (m - 1) default = q := by rw [List.getD_eq_getElem?_getD, get_drop, hq]; rfl
      rw [hq0, List.drop_drop] at hgr
      obtain ⟨a', HE3, hs3⟩ := Rd.to3 Try.underlying22 Try.sizeOf50 HE.out (m := m) (by rw [List.length_drop, HN.out]; exact hm2)
      obtain ⟨x', HEF, hsF⟩ := Rd.from_ Try.underlying22 Try.sizeOf50 HE.out (m := m) (by rw [List.length_drop, HN.out]; exact hm2)
      rw [List.drop_drop] at HEF
      have hGl : ((L.drop i).take m).length = m := by rw [List.length_take, List.length_drop, HN.out]; omega
      obtain ⟨g, o, cap, hvv, hg, hcap, hcap9, hcell⟩ := Es.at_ HE3 hGl (by omega)
      injection hvv with h1 h2 h3
      subst h1 h3
      have TC := Lib.hid (fun (w' : World) (h : Es w' w'.heap.size u0 (L.drop i)) => touching_any u0 (L.drop i) w' h (fun x hx => HOK.out x (List.mem_of_mem_drop hx)) hne (by rw [List.length_drop, HN.out]; omega))
      rw [hm] at TC
      obtain ⟨d1, d2, d3, d4⟩ := HG.out.2 i d hd
      obtain ⟨q1, q2, q3, q4⟩ := HG.out.2 _ q hq
      have hfr := HF.out d hd
      obtain ⟨c0, _, _⟩ := hcell 0 d (by rw [List.getElem?_take_of_lt (by omega)]; exact hd0)
      obtain ⟨_, c1, _⟩ := hcell (m - 1) q (by rw [List.getElem?_take_of_lt (by omega), get_drop]; exact hq)
      rw [Nat.zero_mul, Nat.add_zero] at c0
      have hsum := sumx_le HSh.out ((L.drop i).take m) (fun x hx => List.mem_of_mem_drop (List.mem_of_mem_take hx))
      rw [hGl] at hsum
      have HSUM : Hid (∀ T : Int, rg S true 0 0 L = acc ++ [⟨fr, to, d.f - fr⟩] ++ rg S true q.t (to + (d.f - fr) + sumx ((L.drop i).take m)) (L.drop (i + m))) := Lib.hid fun _ => by
        rw [HR.out, hgr, List.append_assoc]; rfl
      have HC : Hid (∀ (w' : World), Below w.heap.size w w' → ∀ j dd, ((L.drop i).take m)[j]? = some dd → w'.cell? ⟨g, o + j * 3, none⟩ = some (.int .i64 dd.f) ∧ w'.cell? ⟨g, o + j * 3 + 1, none⟩ = some (.int .i64 dd.t) ∧ w'.cell? ⟨g, o + j * 3 + 2, none⟩ = some (.string dd.x)) := Lib.hid fun w' hw j dd hj => by
        obtain ⟨x0, x1, x2⟩ := hcell j dd hj
        have tr : ∀ k, w'.cell? ⟨g, k, none⟩ = wr.cell? ⟨g, k, none⟩ := fun k => (hw.cell (p := ⟨g, k, none⟩) hg).trans (hb.cell (p := ⟨g, k, none⟩) hg).symm
        exact ⟨(tr _).trans x0, (tr _).trans x1, (tr _).trans x2⟩
      have HQg : Hid (((L.drop i).take m)[m - 1]? = some q) := Lib.hid (by rw [List.getElem?_take_of_lt (by omega), get_drop]; exact hq)
      have HEF2 := Lib.hid HEF
      have HEm : Hid (Es wr wr.heap.size u0 (L.drop i)) := Lib.hid (Rd.mono HE.out hbs)
      have HGl := Lib.hid hGl
      have HD := Lib.hid hd
      have HQ := Lib.hid hq
      have HDL : Hid (∀ dd ∈ (L.drop i).take m, dd.ok ∧ dd.x.size ≤ 100000) := Lib.hid fun dd h => ⟨HOK.out _ (List.mem_of_mem_drop (List.mem_of_mem_take h)), HSh.out _ (List.mem_of_mem_drop (List.mem_of_mem_take h))⟩
      have HXC : Hid (∀ y : Int, y = d.f - fr → #[Value.int .i64 fr, Value.int .i64 to, Value.int .i64 y] = (rc ⟨fr, to, d.f - fr⟩).toArray) := Lib.hid fun y h => by rw [h]; rfl
      have hmn : m ≤ 4096 := by omega
      have hs1 : ((m : Int) - 1).toNat = m - 1 := by omega
      obtain ⟨df, dt, dx⟩ := d
      obtain ⟨qf, qt, qx⟩ := q
      simp only at d1 d2 d3 d4 q1 q2 q3 q4 c0 c1 hfr HSUM HXC
      clear hgr hcell hd hq hq0 hd0 hm hne hGl HEF h2 hsum
      go_wp2_with (first | (go_at_call 39; (with_reducible refine (TC.out _ HEm.out).mono ?_); rintro e w2 ⟨rfl, dn, rfl⟩) | (at_builtin; go_loud (refine sp_app (by rfl) (.tmp 30) (.tmp 37) (by rfl) (by rfl) (ow_d HO.out _) (below_N hb _) hbs ⟨fr, to, df - fr⟩ (by rfl) (by rfl) (by omega) ?_); intro v' w' hB' hb' hbs'; have HB' := Lib.hid hB'; obtain ⟨_, c1', _⟩ := HC.out _ hb' _ _ HQg.out; clear hB'))
      have HSJ := Lib.hid (fun (j : Nat) (hj : j ≤ m) => sumx_le HSh.out (((L.drop i).take m).take j) (fun x hx => List.mem_of_mem_drop (List.mem_of_mem_take (List.mem_of_mem_take hx))))
      have hto9 : to + (df - fr) ≤ 1000000000 := by omega
      have hto0 : 0 ≤ to + (df - fr) := by omega
      obtain ⟨T0, hT0⟩ : ∃ T0, to + (df - fr) = T0 := ⟨_, rfl⟩
      rw [hT0] at hto9 hto0 HSUM ⊢
      have HT0 := Lib.hid hT0
      clear hT0 hln hs3 hsF
      go_loopw [7, 53] (fun t jv wq => ∃ (j : Nat) (y : Int), j ≤ m ∧ jv = .int .i64 j ∧ t = .int .i64 (T0 + y) ∧ 0 ≤ y ∧ y ≤ 100000 * j ∧ Hid (y = sumx (((L.drop i).take m).take j)) ∧ Hid (Ow rc 3 66 wq w.heap.size v' (acc ++ [⟨fr, to, df - fr⟩])) ∧ Below w.heap.size w wq ∧ w.heap.size ≤ wq.heap.size) (fun _ jv _ => m - (intOf jv).toNat)
      case atStart => exact ⟨0, 0, by omega, rfl, by simp, by omega, by omega, Lib.hid (by simp [sumx]), HB', hb', hbs'⟩
      case round =>
        obtain ⟨j, y, hj, rfl, rfl, y0, y1, HY, HOq, hbq, hbsq⟩ := hrel
        by_cases hjm : j < m
        · obtain ⟨dd, hdd⟩ := get_in HGl.out hjm
          obtain ⟨x0, x1, x2⟩ := HC.out _ hbq j dd hdd
          obtain ⟨⟨_, _, z1⟩, z2⟩ := HDL.out dd (List.mem_of_getElem? hdd)
          have HY2 : Hid (y + dd.x.size = sumx (((L.drop i).take m).take (j + 1))) := Lib.hid (by rw [HY.out, sumx_take hdd])
          obtain ⟨ef, et, ex⟩ := dd
          simp only at x0 x1 x2 z1 z2 HY2
          clear hdd
          go_wp2
          exact ⟨⟨j + 1, y + ex.size, by omega, by go_num, congrArg (Value.int .i64) (by omega), by omega, by omega, HY2, Lib.hid (HOq.out.alloc _), hbq.alloc hbsq _, by simp; omega⟩, by simp [intOf]; omega⟩
        · obtain rfl : j = m := by omega
          have HYm : Hid (y = sumx ((L.drop i).take j)) := Lib.hid (by rw [HY.out, List.take_of_length_le (by rw [HGl.out]; exact Nat.le_refl _)])
          have hz1 := Rd.slice HEF2.out (n := n - (i + j)) (by rw [List.length_drop, HN.out])
          have hz2 := Rd.slice HE.out (n := n - i) (by rw [List.length_drop, HN.out])
          go_wp2
          refine ⟨⟨i + j, qt, T0 + y, acc ++ [⟨fr, to, df - fr⟩], by omega, rfl, rfl, by omega, by omega, by omega, ?_, by simp; omega, Lib.hid (rd_via HEF2.out hb hbq), HOq, hbq, hbsq, Lib.hid ?_, Lib.hid ?_⟩, ?_⟩
          · have := HT0.out
            have e : ((i + j : Nat) : Int) = i + j := by omega
            omega
          · rw [HSUM.out 0, HYm.out]
          · intro d' hd'
            have := (HG.out.2 _ d' hd').2.2.2
            rw [show i + j = i + (j - 1) + 1 by omega, atk_succ HQ.out] at this
            simp only at this
            omega
          · obtain ⟨_, _, e1, _⟩ := hz1
            obtain ⟨_, _, e2, _⟩ := hz2
            rw [e1, e2]
            show n - (i + j) < n - i
            omega
    · obtain rfl : i = n := by omega
      have HDN : Hid (L.drop i = []) := Lib.hid (List.drop_eq_nil_of_le (by rw [HN.out]; exact Nat.le_refl _))
      have HFIN : Hid (rg S true 0 0 L = acc ++ [⟨fr, to, S - fr⟩]) := Lib.hid (by rw [HR.out, HDN.out]; rfl)
      have hz0 : ((i - i : Nat) : Int) = 0 := by omega
      go_wp2_with (at_builtin; go_loud (refine sp_app (by rfl) (.tmp 63) (.tmp 70) (by rfl) (by rfl) HO.out hb hbs ⟨fr, to, S - fr⟩ (by rfl) (by rfl) (by omega) ?_); intro v' w' hB' hb' hbs'; have HB' := Lib.hid hB'; clear hB')
      go_ret
      exact ⟨v', rfl, hb', by rw [HFIN.out]; exact HB'.out⟩
end Go.Proofs.Ytdgoblapmjpcaaa.Sp
