/- Rows of nodes in the law's own words: their marks. -/
import Derived.Test.YtfogppnijdjakaaGreatDoorZG45
namespace Go.Proofs.YtfogppnijdjakaaGreatDoor
open Go.ChangeShapes Go.WideShapes Go.ChangeAt Go.RowKit
set_option linter.unusedVariables false
set_option linter.unusedSimpArgs false
set_option maxHeartbeats 4000000 in
set_option maxRecDepth 100000 in
theorem markNodes (v : Value) (n lo k0 : Nat) (hn : n ≤ 1048576) (L : List NdA) (HN : Hid (L.length = n)) (Qe : Int) (HQ : Hid (Qe = ((kAtN k0 L n : Nat) : Int))) (hk0 : Hid (0 < k0)) (hkm : Hid (kAtN k0 L n ≤ 30000000)) (w : World) (h : FOwn w lo (ndF v n L)) (hi : Nat) (hhi : ∀ r ∈ ndF v n L, ∀ j, r.v.ownBlock = some j → j < hi) :
  Calls Tryz.prog 28 #[v, .int .i64 (k0 : Int)] w fun e w' => e = .returned (.int .i64 Qe) ∧ FOwn w' lo (ndF v n (markNs k0 L)) ∧ Outs lo hi w w' := by
 rcases (show w.ownsRow lo 71 13 v n (L.flatMap cN) from h.head).2 with ⟨rfl, h0⟩ | ⟨g, cap, cur, rfl, hg0, _⟩
 ·have e0 : L = [] := List.length_eq_zero_iff.1 ((unhide HN).trans h0)
  subst e0
  obtain rfl : 0 = n := unhide HN
  have hq : Qe = (k0 : Int) := unhide HQ
  have HO : Hid (Outs lo hi w w) := Outs.of_below (Below.refl _ _)
  have HH := hide h
  clear h HQ hkm h0 hhi
  go_enter Tryz.func28, Tryz.ntmps28
  go_wp2_with fail
  go_loopw [1, 5] (fun kk i wr => kk = .int .i64 (k0 : Int) ∧ i = .int .i64 0 ∧ wr = w) (fun _ _ _ => 0)
  case atStart => exact ⟨rfl, rfl, rfl⟩
  case round =>
   obtain ⟨rfl, rfl, rfl⟩ := hrel
   go_wp2_with fail
   go_ret
   exact ⟨ret_int hq.symm, unhide HH, unhide HO⟩
 ·obtain ⟨xs, hxs⟩ : ∃ xs, xs = L.flatMap cN := ⟨_, rfl⟩
  obtain ⟨ys, hys⟩ : ∃ ys, ys = (markNs k0 L).flatMap cN := ⟨_, rfl⟩
  have HX : Hid (xs.length = n * 13) := by show _ = _; rw [hxs, flat_len (c := cN) (z := 13) (fun p => rfl), unhide HN]
  have HY : Hid (ys.length = n * 13) := by show _ = _; rw [hys, flat_len (c := cN) (z := 13) (fun p => rfl), markNs_len, unhide HN]
  have HXS := hide hxs
  have HYS := hide hys
  have F0 : Hid (FOwn w lo ((⟨71, 13, (.slice (some ⟨g, 0, none⟩) n cap), n, mix xs ys (0 * 13)⟩ : RD) :: (((markNs k0 L).take 0).flatMap nrows ++ (L.drop 0).flatMap nrows))) := by
   show FOwn _ _ _
   rw [Nat.zero_mul, mix_zero, hxs, List.take_zero, List.drop_zero, List.flatMap_nil, List.nil_append]
   exact h
  have GL : Hid (lo ≤ g ∧ g < hi) := ⟨(h.head.lt g rfl).1, hhi _ (List.mem_cons_self ..) g rfl⟩
  have HHI : Hid (∀ p ∈ L, ∀ r ∈ nrows p, ∀ j, r.v.ownBlock = some j → j < hi) := fun p hp r hr j hj => hhi r (List.mem_cons_of_mem _ (List.mem_flatMap.2 ⟨p, hp, hr⟩)) j hj
  clear h hxs hys hg0 hhi
  go_enter Tryz.func28, Tryz.ntmps28
  go_wp2_with fail
  go_loopw [1, 5] (fun kk ii wr => ∃ i q : Nat, i ≤ n ∧ Hid (q = kAtN k0 L i) ∧ ii = .int .i64 i ∧ kk = .int .i64 (q : Int) ∧ Hid (FOwn wr lo ((⟨71, 13, (.slice (some ⟨g, 0, none⟩) n cap), n, mix xs ys (i * 13)⟩ : RD) :: (((markNs k0 L).take i).flatMap nrows ++ (L.drop i).flatMap nrows))) ∧ Hid (Outs lo hi w wr)) (fun _ ii _ => n - (intOf ii).toNat)
  case atStart => exact ⟨0, k0, by omega, by show k0 = kAtN k0 L 0; cases L <;> rfl, rfl, rfl, F0, Outs.of_below (Below.refl _ _)⟩
  case round =>
   clear F0
   obtain ⟨i, q, hin, HQI, rfl, rfl, F0, HU0⟩ := hrel
   by_cases hlt : i < n
   ·have hil : i < L.length := by rw [unhide HN]; exact hlt
    have hq3 : kN q L[i] ≤ 30000000 := by have h1 := kAtN_succ k0 L i hil; have h2 := kAtN_le k0 L (i + 1) n (by omega) (by rw [unhide HN]; exact Nat.le_refl _); have := unhide hkm; rw [← unhide HQI] at h1; omega
    have hqp : 0 < q := by have := kAtN_pos k0 L i (by omega); have := unhide hk0; have := unhide HQI; omega
    have Y : Hid (∀ j u, (cN (mkNd q L[i]))[j]? = some u → ys[i * 13 + j]? = some u) := fun j u hj => by
     have hj9 : j < 13 := by
      rcases Nat.lt_or_ge j 13 with h | h
      ·exact h
      ·rw [List.getElem?_eq_none (by show 13 ≤ j; exact h)] at hj; cases hj
     rw [unhide HYS, flat_at (c := cN) (z := 13) (fun p => rfl) _ i (by rw [markNs_len]; exact hil) j hj9, markNs_at k0 L i hil, ← unhide HQI]; exact hj
    have X : Hid (∀ j u, (cN L[i])[j]? = some u → xs[i * 13 + j]? = some u) := fun j u hj => by
     have hj9 : j < 13 := by
      rcases Nat.lt_or_ge j 13 with h | h
      ·exact h
      ·rw [List.getElem?_eq_none (by show 13 ≤ j; exact h)] at hj; cases hj
     rw [unhide HXS, flat_at (c := cN) (z := 13) (fun p => rfl) _ i hil j hj9]; exact hj
    have hI := unhide HHI _ (List.getElem_mem hil)
    have HMT : Hid ((markNs k0 L).take (i + 1) = (markNs k0 L).take i ++ [mkNd q L[i]]) := by
     show _ = _
     rw [List.take_succ_eq_append_getElem (by rw [markNs_len]; exact hil), markNs_at k0 L i hil, ← unhide HQI]
    have hd := List.drop_eq_getElem_cons hil
    have HKS : Hid (kAtN k0 L (i + 1) = kN q L[i]) := by show _ = _; rw [kAtN_succ k0 L i hil, ← unhide HQI]
    obtain ⟨A', hA⟩ : ∃ A', A' = ((markNs k0 L).take i).flatMap nrows := ⟨_, rfl⟩
    obtain ⟨B', hB⟩ : ∃ B', B' = (L.drop (i + 1)).flatMap nrows := ⟨_, rfl⟩
    rw [hd, List.flatMap_cons, ← hA, ← hB] at F0
    have HA := hide hA
    have HB := hide hB
    clear hd hA hB
    generalize L[i] = p at hq3 X Y hI HMT HKS F0
    obtain ⟨⟨id, nd, tm, vt, ro, up, l, cm, el, wt, lv, lx, lg⟩, ea, ec, va, vc, xa, xc, ga, gc⟩ := p
    obtain ⟨n0, hnn0⟩ : ∃ n0, l.length = n0 := ⟨_, rfl⟩
    have HN0 : Hid (l.length = n0) := hnn0
    obtain ⟨nv, hnnv⟩ : ∃ nv, lv.length = nv := ⟨_, rfl⟩
    have HNv : Hid (lv.length = nv) := hnnv
    obtain ⟨nx, hnnx⟩ : ∃ nx, lx.length = nx := ⟨_, rfl⟩
    have HNx : Hid (lx.length = nx) := hnnx
    obtain ⟨ng, hnng⟩ : ∃ ng, lg.length = ng := ⟨_, rfl⟩
    have HNg : Hid (lg.length = ng) := hnng
    unfold kN at hq3
    simp only [hnn0, hnnv, hnnx, hnng] at hq3
    have F0' : Hid (FOwn wr lo ((⟨71, 13, (.slice (some ⟨g, 0, none⟩) n cap), n, mix xs ys (i * 13)⟩ : RD) :: (A' ++ ((⟨103, 2, .slice ea n0 ec, n0, cE l⟩ : RD) :: (⟨3, 1, .slice va nv vc, nv, cI lv⟩ : RD) :: (⟨3, 1, .slice xa nx xc, nx, cI lx⟩ : RD) :: (⟨3, 1, .slice ga ng gc, ng, cI lg⟩ : RD) :: B')))) := by
     show FOwn _ _ _
     have h := unhide F0
     simp only [nrows, hnn0, hnnv, hnnx, hnng, List.cons_append, List.nil_append] at h
     exact h
    simp only [nrows, hnn0, hnnv, hnnx, hnng, List.mem_cons, List.not_mem_nil, or_false, forall_eq_or_imp, forall_eq] at hI
    have HIe := hide hI.1
    have HIv := hide hI.2.1
    have HIx := hide hI.2.2.1
    have HIg := hide hI.2.2.2
    have i1 : (i : Int) < (n : Int) := by omega
    have i0 : (0 : Int) ≤ (i : Int) := by omega
    have b0 : (q : Int) ≤ 30000000 := by omega
    clear F0
    have F0 := F0'
    clear F0' hI
    obtain ⟨w0, hw0⟩ : ∃ w0, w0 = wr := ⟨_, rfl⟩
    rw [← hw0] at F0 HU0 ⊢
    clear hw0
    obtain ⟨q1, hq1⟩ : ∃ q9, q9 = q + 1 := ⟨_, rfl⟩
    have b1 : (q1 : Int) ≤ 30000000 := by omega
    have HQ1 := hide hq1
    obtain ⟨q2, hq2⟩ : ∃ q9, q9 = q + 2 := ⟨_, rfl⟩
    have b2 : (q2 : Int) ≤ 30000000 := by omega
    have HQ2 := hide hq2
    obtain ⟨q3, hq3⟩ : ∃ q9, q9 = q + 3 := ⟨_, rfl⟩
    have b3 : (q3 : Int) ≤ 30000000 := by omega
    have HQ3 := hide hq3
    obtain ⟨q4, hq4⟩ : ∃ q9, q9 = q + 4 := ⟨_, rfl⟩
    have b4 : (q4 : Int) ≤ 30000000 := by omega
    have HQ4 := hide hq4
    obtain ⟨q5, hq5⟩ : ∃ q9, q9 = q + 5 := ⟨_, rfl⟩
    have b5 : (q5 : Int) ≤ 30000000 := by omega
    have HQ5 := hide hq5
    obtain ⟨q6, hq6⟩ : ∃ q9, q9 = q + 6 := ⟨_, rfl⟩
    have b6 : (q6 : Int) ≤ 30000000 := by omega
    have HQ6 := hide hq6
    obtain ⟨q7, hq7⟩ : ∃ q9, q9 = q + 6 + n0 * 2 := ⟨_, rfl⟩
    have b7 : (q7 : Int) ≤ 30000000 := by omega
    have HQ7 := hide hq7
    obtain ⟨q8, hq8⟩ : ∃ q9, q9 = q + 6 + n0 * 2 + 1 := ⟨_, rfl⟩
    have b8 : (q8 : Int) ≤ 30000000 := by omega
    have HQ8 := hide hq8
    obtain ⟨q9, hq9⟩ : ∃ q9, q9 = q + 6 + n0 * 2 + 2 := ⟨_, rfl⟩
    have b9 : (q9 : Int) ≤ 30000000 := by omega
    have HQ9 := hide hq9
    obtain ⟨q10, hq10⟩ : ∃ q9, q9 = q + 6 + n0 * 2 + 3 := ⟨_, rfl⟩
    have b10 : (q10 : Int) ≤ 30000000 := by omega
    have HQ10 := hide hq10
    obtain ⟨q11, hq11⟩ : ∃ q9, q9 = q + 6 + n0 * 2 + 3 + nv := ⟨_, rfl⟩
    have b11 : (q11 : Int) ≤ 30000000 := by omega
    have HQ11 := hide hq11
    obtain ⟨q12, hq12⟩ : ∃ q9, q9 = q + 6 + n0 * 2 + 3 + nv + nx := ⟨_, rfl⟩
    have b12 : (q12 : Int) ≤ 30000000 := by omega
    have HQ12 := hide hq12
    obtain ⟨q13, hq13⟩ : ∃ q9, q9 = q + 6 + n0 * 2 + 3 + nv + nx + ng := ⟨_, rfl⟩
    have b13 : (q13 : Int) ≤ 30000000 := by omega
    have HQ13 := hide hq13
    have Y0 : Hid (ys[i * 13]? = some (.int .i64 (q : Int))) := by show _ = _; have h := unhide Y 0 _ rfl; exact h
    have Y1 : Hid (ys[i * 13 + 1]? = some (.int .i64 (q1 : Int))) := by show _ = _; have h := unhide Y 1 _ rfl; rw [hq1]; exact h
    have Y2 : Hid (ys[i * 13 + 2]? = some (.int .i64 (q2 : Int))) := by show _ = _; have h := unhide Y 2 _ rfl; rw [hq2]; exact h
    have Y3 : Hid (ys[i * 13 + 3]? = some (.int .i64 (q3 : Int))) := by show _ = _; have h := unhide Y 3 _ rfl; rw [hq3]; exact h
    have Y4 : Hid (ys[i * 13 + 4]? = some (.int .i64 (q4 : Int))) := by show _ = _; have h := unhide Y 4 _ rfl; rw [hq4]; exact h
    have Y5 : Hid (ys[i * 13 + 5]? = some (.bool ((q5 : Int) % 3 == 0))) := by show _ = _; have h := unhide Y 5 _ rfl; rw [hq5]; exact h
    have Y7 : Hid (ys[i * 13 + 7]? = some (.int .i64 (q7 : Int))) := by show _ = _; have h : ys[i * 13 + 7]? = some (.int .i64 ((q + 6 + l.length * 2 : Nat) : Int)) := unhide Y 7 _ rfl; rw [hnn0] at h; rw [hq7]; exact h
    have Y8 : Hid (ys[i * 13 + 8]? = some (.int .i64 (q8 : Int))) := by show _ = _; have h : ys[i * 13 + 8]? = some (.int .i64 ((q + 6 + l.length * 2 + 1 : Nat) : Int)) := unhide Y 8 _ rfl; rw [hnn0] at h; rw [hq8]; exact h
    have Y9 : Hid (ys[i * 13 + 9]? = some (.int .i64 (q9 : Int))) := by show _ = _; have h : ys[i * 13 + 9]? = some (.int .i64 ((q + 6 + l.length * 2 + 2 : Nat) : Int)) := unhide Y 9 _ rfl; rw [hnn0] at h; rw [hq9]; exact h
    have X6 : Hid (xs[i * 13 + 6]? = some (.slice ea n0 ec)) := by show _ = _; have h := unhide X 6 _ rfl; simp only [hnn0, hnnv, hnnx, hnng] at h; exact h
    have Z6 : Hid (ys[i * 13 + 6]? = some (.slice ea n0 ec)) := by show _ = _; have h : ys[i * 13 + 6]? = some (.slice ea (mkEs (q + 6) l.length).length ec) := unhide Y 6 _ rfl; rw [mkEs_len, hnn0] at h; exact h
    have X10 : Hid (xs[i * 13 + 10]? = some (.slice va nv vc)) := by show _ = _; have h := unhide X 10 _ rfl; simp only [hnn0, hnnv, hnnx, hnng] at h; exact h
    have Z10 : Hid (ys[i * 13 + 10]? = some (.slice va nv vc)) := by show _ = _; have h : ys[i * 13 + 10]? = some (.slice va (mkI (q + 6 + l.length * 2 + 3) lv.length).length vc) := unhide Y 10 _ rfl; rw [mkI_len, hnnv] at h; exact h
    have X11 : Hid (xs[i * 13 + 11]? = some (.slice xa nx xc)) := by show _ = _; have h := unhide X 11 _ rfl; simp only [hnn0, hnnv, hnnx, hnng] at h; exact h
    have Z11 : Hid (ys[i * 13 + 11]? = some (.slice xa nx xc)) := by show _ = _; have h : ys[i * 13 + 11]? = some (.slice xa (mkI (q + 6 + l.length * 2 + 3 + lv.length) lx.length).length xc) := unhide Y 11 _ rfl; rw [mkI_len, hnnx] at h; exact h
    have X12 : Hid (xs[i * 13 + 12]? = some (.slice ga ng gc)) := by show _ = _; have h := unhide X 12 _ rfl; simp only [hnn0, hnnv, hnnx, hnng] at h; exact h
    have Z12 : Hid (ys[i * 13 + 12]? = some (.slice ga ng gc)) := by show _ = _; have h : ys[i * 13 + 12]? = some (.slice ga (mkI (q + 6 + l.length * 2 + 3 + lv.length + lx.length) lg.length).length gc) := unhide Y 12 _ rfl; rw [mkI_len, hnng] at h; exact h
    clear X Y hq1 hq2 hq3 hq4 hq5 hq6 hq7 hq8 hq9 hq10 hq11 hq12 hq13
    clear hnn0 hnnv hnnx hnng
    obtain ⟨w1, hw1⟩ : ∃ w', w' = w0.setCell ⟨g, i * 13, none⟩ (.int .i64 (q : Int)) := ⟨_, rfl⟩
    have hst := (unhide F0).head.stored (i * 13) (.int .i64 (q : Int))
    have F1 : Hid (FOwn w1 lo ((⟨71, 13, (.slice (some ⟨g, 0, none⟩) n cap), n, mix xs ys (i * 13 + 1)⟩ : RD) :: (A' ++ ((⟨103, 2, .slice ea n0 ec, n0, cE l⟩ : RD) :: (⟨3, 1, .slice va nv vc, nv, cI lv⟩ : RD) :: (⟨3, 1, .slice xa nx xc, nx, cI lx⟩ : RD) :: (⟨3, 1, .slice ga ng gc, ng, cI lg⟩ : RD) :: B')))) := by
     have h := hst.1
     rw [mix_set xs ys (i * 13) (.int .i64 (q : Int)) (by rw [unhide HX]; omega) (unhide Y0)] at h
     rw [hw1]
     exact (unhide F0).turnAt (F := []) (G := (A' ++ ((⟨103, 2, .slice ea n0 ec, n0, cE l⟩ : RD) :: (⟨3, 1, .slice va nv vc, nv, cI lv⟩ : RD) :: (⟨3, 1, .slice xa nx xc, nx, cI lx⟩ : RD) :: (⟨3, 1, .slice ga ng gc, ng, cI lg⟩ : RD) :: B'))) rfl rfl hst.2 h rfl
    have HU1 : Hid (Outs lo hi w w1) := by rw [hw1]; exact (unhide HU0).trans (Outs.of_grown hst.2 (fun k hk => by have := unhide GL; injection hk with hk; omega))
    obtain ⟨u0, hu0⟩ := cell_of (xs := xs) (j := i * 13) (by rw [unhide HX]; omega)
    have c0 : w0.cell? ⟨g, i * 13, none⟩ = some u0 := by have h := (unhide F0).head.cellAt (i * 13) (by show _ < n * 13; omega); rw [mix_at _ _ _ (by rw [unhide HY]; omega), hu0] at h; exact h
    have f0 : w0.frozen? ⟨g, i * 13, none⟩ = false := (unhide F0).head.frozenAt (i * 13)
    have s0 : (q : Int) + 1 = (q1 : Int) := by have := unhide HQ1; omega
    have HW1 := hide hw1
    clear hst hu0 F0 HU0 hw1 Y0
    go_upto_region 6 with fail
    rw [← unhide HW1]
    clear c0 f0 s0 HW1
    obtain ⟨w2, hw2⟩ : ∃ w', w' = w1.setCell ⟨g, i * 13 + 1, none⟩ (.int .i64 (q1 : Int)) := ⟨_, rfl⟩
    have hst := (unhide F1).head.stored (i * 13 + 1) (.int .i64 (q1 : Int))
    have F2 : Hid (FOwn w2 lo ((⟨71, 13, (.slice (some ⟨g, 0, none⟩) n cap), n, mix xs ys (i * 13 + 2)⟩ : RD) :: (A' ++ ((⟨103, 2, .slice ea n0 ec, n0, cE l⟩ : RD) :: (⟨3, 1, .slice va nv vc, nv, cI lv⟩ : RD) :: (⟨3, 1, .slice xa nx xc, nx, cI lx⟩ : RD) :: (⟨3, 1, .slice ga ng gc, ng, cI lg⟩ : RD) :: B')))) := by
     have h := hst.1
     rw [mix_set xs ys (i * 13 + 1) (.int .i64 (q1 : Int)) (by rw [unhide HX]; omega) (unhide Y1)] at h
     rw [hw2]
     exact (unhide F1).turnAt (F := []) (G := (A' ++ ((⟨103, 2, .slice ea n0 ec, n0, cE l⟩ : RD) :: (⟨3, 1, .slice va nv vc, nv, cI lv⟩ : RD) :: (⟨3, 1, .slice xa nx xc, nx, cI lx⟩ : RD) :: (⟨3, 1, .slice ga ng gc, ng, cI lg⟩ : RD) :: B'))) rfl rfl hst.2 h rfl
    have HU2 : Hid (Outs lo hi w w2) := by rw [hw2]; exact (unhide HU1).trans (Outs.of_grown hst.2 (fun k hk => by have := unhide GL; injection hk with hk; omega))
    obtain ⟨u1, hu1⟩ := cell_of (xs := xs) (j := i * 13 + 1) (by rw [unhide HX]; omega)
    have c1 : w1.cell? ⟨g, i * 13 + 1, none⟩ = some u1 := by have h := (unhide F1).head.cellAt (i * 13 + 1) (by show _ < n * 13; omega); rw [mix_at _ _ _ (by rw [unhide HY]; omega), hu1] at h; exact h
    have f1 : w1.frozen? ⟨g, i * 13 + 1, none⟩ = false := (unhide F1).head.frozenAt (i * 13 + 1)
    have s1 : (q1 : Int) + 1 = (q2 : Int) := by have := unhide HQ2; have := unhide HQ1; omega
    have HW2 := hide hw2
    clear hst hu1 F1 HU1 hw2 Y1
    go_upto_region 8 with fail
    rw [← unhide HW2]
    clear c1 f1 s1 HW2
    obtain ⟨w3, hw3⟩ : ∃ w', w' = w2.setCell ⟨g, i * 13 + 2, none⟩ (.int .i64 (q2 : Int)) := ⟨_, rfl⟩
    have hst := (unhide F2).head.stored (i * 13 + 2) (.int .i64 (q2 : Int))
    have F3 : Hid (FOwn w3 lo ((⟨71, 13, (.slice (some ⟨g, 0, none⟩) n cap), n, mix xs ys (i * 13 + 3)⟩ : RD) :: (A' ++ ((⟨103, 2, .slice ea n0 ec, n0, cE l⟩ : RD) :: (⟨3, 1, .slice va nv vc, nv, cI lv⟩ : RD) :: (⟨3, 1, .slice xa nx xc, nx, cI lx⟩ : RD) :: (⟨3, 1, .slice ga ng gc, ng, cI lg⟩ : RD) :: B')))) := by
     have h := hst.1
     rw [mix_set xs ys (i * 13 + 2) (.int .i64 (q2 : Int)) (by rw [unhide HX]; omega) (unhide Y2)] at h
     rw [hw3]
     exact (unhide F2).turnAt (F := []) (G := (A' ++ ((⟨103, 2, .slice ea n0 ec, n0, cE l⟩ : RD) :: (⟨3, 1, .slice va nv vc, nv, cI lv⟩ : RD) :: (⟨3, 1, .slice xa nx xc, nx, cI lx⟩ : RD) :: (⟨3, 1, .slice ga ng gc, ng, cI lg⟩ : RD) :: B'))) rfl rfl hst.2 h rfl
    have HU3 : Hid (Outs lo hi w w3) := by rw [hw3]; exact (unhide HU2).trans (Outs.of_grown hst.2 (fun k hk => by have := unhide GL; injection hk with hk; omega))
    obtain ⟨u2, hu2⟩ := cell_of (xs := xs) (j := i * 13 + 2) (by rw [unhide HX]; omega)
    have c2 : w2.cell? ⟨g, i * 13 + 2, none⟩ = some u2 := by have h := (unhide F2).head.cellAt (i * 13 + 2) (by show _ < n * 13; omega); rw [mix_at _ _ _ (by rw [unhide HY]; omega), hu2] at h; exact h
    have f2 : w2.frozen? ⟨g, i * 13 + 2, none⟩ = false := (unhide F2).head.frozenAt (i * 13 + 2)
    have s2 : (q2 : Int) + 1 = (q3 : Int) := by have := unhide HQ3; have := unhide HQ2; omega
    have HW3 := hide hw3
    clear hst hu2 F2 HU2 hw3 Y2
    go_upto_region 10 with fail
    rw [← unhide HW3]
    clear c2 f2 s2 HW3
    obtain ⟨w4, hw4⟩ : ∃ w', w' = w3.setCell ⟨g, i * 13 + 3, none⟩ (.int .i64 (q3 : Int)) := ⟨_, rfl⟩
    have hst := (unhide F3).head.stored (i * 13 + 3) (.int .i64 (q3 : Int))
    have F4 : Hid (FOwn w4 lo ((⟨71, 13, (.slice (some ⟨g, 0, none⟩) n cap), n, mix xs ys (i * 13 + 4)⟩ : RD) :: (A' ++ ((⟨103, 2, .slice ea n0 ec, n0, cE l⟩ : RD) :: (⟨3, 1, .slice va nv vc, nv, cI lv⟩ : RD) :: (⟨3, 1, .slice xa nx xc, nx, cI lx⟩ : RD) :: (⟨3, 1, .slice ga ng gc, ng, cI lg⟩ : RD) :: B')))) := by
     have h := hst.1
     rw [mix_set xs ys (i * 13 + 3) (.int .i64 (q3 : Int)) (by rw [unhide HX]; omega) (unhide Y3)] at h
     rw [hw4]
     exact (unhide F3).turnAt (F := []) (G := (A' ++ ((⟨103, 2, .slice ea n0 ec, n0, cE l⟩ : RD) :: (⟨3, 1, .slice va nv vc, nv, cI lv⟩ : RD) :: (⟨3, 1, .slice xa nx xc, nx, cI lx⟩ : RD) :: (⟨3, 1, .slice ga ng gc, ng, cI lg⟩ : RD) :: B'))) rfl rfl hst.2 h rfl
    have HU4 : Hid (Outs lo hi w w4) := by rw [hw4]; exact (unhide HU3).trans (Outs.of_grown hst.2 (fun k hk => by have := unhide GL; injection hk with hk; omega))
    obtain ⟨u3, hu3⟩ := cell_of (xs := xs) (j := i * 13 + 3) (by rw [unhide HX]; omega)
    have c3 : w3.cell? ⟨g, i * 13 + 3, none⟩ = some u3 := by have h := (unhide F3).head.cellAt (i * 13 + 3) (by show _ < n * 13; omega); rw [mix_at _ _ _ (by rw [unhide HY]; omega), hu3] at h; exact h
    have f3 : w3.frozen? ⟨g, i * 13 + 3, none⟩ = false := (unhide F3).head.frozenAt (i * 13 + 3)
    have s3 : (q3 : Int) + 1 = (q4 : Int) := by have := unhide HQ4; have := unhide HQ3; omega
    have HW4 := hide hw4
    clear hst hu3 F3 HU3 hw4 Y3
    go_upto_region 12 with fail
    rw [← unhide HW4]
    clear c3 f3 s3 HW4
    obtain ⟨w5, hw5⟩ : ∃ w', w' = w4.setCell ⟨g, i * 13 + 4, none⟩ (.int .i64 (q4 : Int)) := ⟨_, rfl⟩
    have hst := (unhide F4).head.stored (i * 13 + 4) (.int .i64 (q4 : Int))
    have F5 : Hid (FOwn w5 lo ((⟨71, 13, (.slice (some ⟨g, 0, none⟩) n cap), n, mix xs ys (i * 13 + 5)⟩ : RD) :: (A' ++ ((⟨103, 2, .slice ea n0 ec, n0, cE l⟩ : RD) :: (⟨3, 1, .slice va nv vc, nv, cI lv⟩ : RD) :: (⟨3, 1, .slice xa nx xc, nx, cI lx⟩ : RD) :: (⟨3, 1, .slice ga ng gc, ng, cI lg⟩ : RD) :: B')))) := by
     have h := hst.1
     rw [mix_set xs ys (i * 13 + 4) (.int .i64 (q4 : Int)) (by rw [unhide HX]; omega) (unhide Y4)] at h
     rw [hw5]
     exact (unhide F4).turnAt (F := []) (G := (A' ++ ((⟨103, 2, .slice ea n0 ec, n0, cE l⟩ : RD) :: (⟨3, 1, .slice va nv vc, nv, cI lv⟩ : RD) :: (⟨3, 1, .slice xa nx xc, nx, cI lx⟩ : RD) :: (⟨3, 1, .slice ga ng gc, ng, cI lg⟩ : RD) :: B'))) rfl rfl hst.2 h rfl
    have HU5 : Hid (Outs lo hi w w5) := by rw [hw5]; exact (unhide HU4).trans (Outs.of_grown hst.2 (fun k hk => by have := unhide GL; injection hk with hk; omega))
    obtain ⟨u4, hu4⟩ := cell_of (xs := xs) (j := i * 13 + 4) (by rw [unhide HX]; omega)
    have c4 : w4.cell? ⟨g, i * 13 + 4, none⟩ = some u4 := by have h := (unhide F4).head.cellAt (i * 13 + 4) (by show _ < n * 13; omega); rw [mix_at _ _ _ (by rw [unhide HY]; omega), hu4] at h; exact h
    have f4 : w4.frozen? ⟨g, i * 13 + 4, none⟩ = false := (unhide F4).head.frozenAt (i * 13 + 4)
    have s4 : (q4 : Int) + 1 = (q5 : Int) := by have := unhide HQ5; have := unhide HQ4; omega
    have HW5 := hide hw5
    clear hst hu4 F4 HU4 hw5 Y4
    go_upto_region 14 with fail
    rw [← unhide HW5]
    clear c4 f4 s4 HW5
    obtain ⟨w6, hw6⟩ : ∃ w', w' = w5.setCell ⟨g, i * 13 + 5, none⟩ (.bool ((q5 : Int) % 3 == 0)) := ⟨_, rfl⟩
    have hst := (unhide F5).head.stored (i * 13 + 5) (.bool ((q5 : Int) % 3 == 0))
    have F6 : Hid (FOwn w6 lo ((⟨71, 13, (.slice (some ⟨g, 0, none⟩) n cap), n, mix xs ys (i * 13 + 6)⟩ : RD) :: (A' ++ ((⟨103, 2, .slice ea n0 ec, n0, cE l⟩ : RD) :: (⟨3, 1, .slice va nv vc, nv, cI lv⟩ : RD) :: (⟨3, 1, .slice xa nx xc, nx, cI lx⟩ : RD) :: (⟨3, 1, .slice ga ng gc, ng, cI lg⟩ : RD) :: B')))) := by
     have h := hst.1
     rw [mix_set xs ys (i * 13 + 5) (.bool ((q5 : Int) % 3 == 0)) (by rw [unhide HX]; omega) (unhide Y5)] at h
     rw [hw6]
     exact (unhide F5).turnAt (F := []) (G := (A' ++ ((⟨103, 2, .slice ea n0 ec, n0, cE l⟩ : RD) :: (⟨3, 1, .slice va nv vc, nv, cI lv⟩ : RD) :: (⟨3, 1, .slice xa nx xc, nx, cI lx⟩ : RD) :: (⟨3, 1, .slice ga ng gc, ng, cI lg⟩ : RD) :: B'))) rfl rfl hst.2 h rfl
    have HU6 : Hid (Outs lo hi w w6) := by rw [hw6]; exact (unhide HU5).trans (Outs.of_grown hst.2 (fun k hk => by have := unhide GL; injection hk with hk; omega))
    obtain ⟨u5, hu5⟩ := cell_of (xs := xs) (j := i * 13 + 5) (by rw [unhide HX]; omega)
    have c5 : w5.cell? ⟨g, i * 13 + 5, none⟩ = some u5 := by have h := (unhide F5).head.cellAt (i * 13 + 5) (by show _ < n * 13; omega); rw [mix_at _ _ _ (by rw [unhide HY]; omega), hu5] at h; exact h
    have f5 : w5.frozen? ⟨g, i * 13 + 5, none⟩ = false := (unhide F5).head.frozenAt (i * 13 + 5)
    have s5 : (q5 : Int) + 1 = (q6 : Int) := by have := unhide HQ6; have := unhide HQ5; omega
    have HW6 := hide hw6
    clear hst hu5 F5 HU5 hw6 Y5
    go_upto_region 16 with fail
    rw [← unhide HW6]
    clear c5 f5 s5 HW6
    have HOe : Hid (w6.ownsRow lo 103 2 (.slice ea n0 ec) n0 (cE l)) := (unhide F6).own (⟨103, 2, .slice ea n0 ec, n0, cE l⟩ : RD) (by simp)
    have cl : w6.cell? ⟨g, i * 13 + 6, none⟩ = some (.slice ea n0 ec) := by have h := (unhide F6).head.cellAt (i * 13 + 6) (by show _ < n * 13; omega); rw [mix_at _ _ _ (by rw [unhide HY]; omega), unhide X6] at h; exact h
    go_wp2_with fail
    clear cl
    refine (markEnt (.slice ea n0 ec) n0 lo w6.heap.size q6 _ (by have := unhide HQ6; omega) (by have := unhide HQ6; omega) _ (heldZ_of (unhide HOe))).mono ?_
    rintro e w7 ⟨rfl, hh, hg⟩
    have F7 : Hid (FOwn w7 lo ((⟨71, 13, (.slice (some ⟨g, 0, none⟩) n cap), n, mix xs ys (i * 13 + 7)⟩ : RD) :: (A' ++ ((⟨103, 2, .slice ea n0 ec, n0, cE (mkEs q6 n0)⟩ : RD) :: (⟨3, 1, .slice va nv vc, nv, cI lv⟩ : RD) :: (⟨3, 1, .slice xa nx xc, nx, cI lx⟩ : RD) :: (⟨3, 1, .slice ga ng gc, ng, cI lg⟩ : RD) :: B')))) := by
     have h1 := (unhide F6).turnAt (F := ((⟨71, 13, (.slice (some ⟨g, 0, none⟩) n cap), n, mix xs ys (i * 13 + 6)⟩ : RD) :: (A' ++ []))) (r := (⟨103, 2, .slice ea n0 ec, n0, cE l⟩ : RD)) (s := (⟨103, 2, .slice ea n0 ec, n0, cE (mkEs q6 n0)⟩ : RD)) (G := ((⟨3, 1, .slice va nv vc, nv, cI lv⟩ : RD) :: (⟨3, 1, .slice xa nx xc, nx, cI lx⟩ : RD) :: (⟨3, 1, .slice ga ng gc, ng, cI lg⟩ : RD) :: B')) (L2 := (⟨71, 13, (.slice (some ⟨g, 0, none⟩) n cap), n, mix xs ys (i * 13 + 6)⟩ : RD) :: (A' ++ ((⟨103, 2, .slice ea n0 ec, n0, cE (mkEs q6 n0)⟩ : RD) :: (⟨3, 1, .slice va nv vc, nv, cI lv⟩ : RD) :: (⟨3, 1, .slice xa nx xc, nx, cI lx⟩ : RD) :: (⟨3, 1, .slice ga ng gc, ng, cI lg⟩ : RD) :: B'))) (by simp) (by simp) hg (by show World.ownsRow _ _ _ _ _ _ _; rw [mkEs_ones]; exact hh.own) rfl
     rw [mix_same xs ys (i * 13 + 6) (by rw [unhide HX]; omega) (by rw [unhide X6, unhide Z6])] at h1
     exact h1
    have HU7 : Hid (Outs lo hi w w7) := (unhide HU6).trans (Outs.of_grown hg (fun k hk => ⟨((unhide HOe).lt k hk).1, unhide HIe k hk⟩))
    have e7 : q6 + n0 * 2 = q7 := by have := unhide HQ6; have := unhide HQ7; omega
    rw [e7]
    clear hh hg F6 HU6 HOe e7
    obtain ⟨w8, hw8⟩ : ∃ w', w' = w7.setCell ⟨g, i * 13 + 7, none⟩ (.int .i64 (q7 : Int)) := ⟨_, rfl⟩
    have hst := (unhide F7).head.stored (i * 13 + 7) (.int .i64 (q7 : Int))
    have F8 : Hid (FOwn w8 lo ((⟨71, 13, (.slice (some ⟨g, 0, none⟩) n cap), n, mix xs ys (i * 13 + 8)⟩ : RD) :: (A' ++ ((⟨103, 2, .slice ea n0 ec, n0, cE (mkEs q6 n0)⟩ : RD) :: (⟨3, 1, .slice va nv vc, nv, cI lv⟩ : RD) :: (⟨3, 1, .slice xa nx xc, nx, cI lx⟩ : RD) :: (⟨3, 1, .slice ga ng gc, ng, cI lg⟩ : RD) :: B')))) := by
     have h := hst.1
     rw [mix_set xs ys (i * 13 + 7) (.int .i64 (q7 : Int)) (by rw [unhide HX]; omega) (unhide Y7)] at h
     rw [hw8]
     exact (unhide F7).turnAt (F := []) (G := (A' ++ ((⟨103, 2, .slice ea n0 ec, n0, cE (mkEs q6 n0)⟩ : RD) :: (⟨3, 1, .slice va nv vc, nv, cI lv⟩ : RD) :: (⟨3, 1, .slice xa nx xc, nx, cI lx⟩ : RD) :: (⟨3, 1, .slice ga ng gc, ng, cI lg⟩ : RD) :: B'))) rfl rfl hst.2 h rfl
    have HU8 : Hid (Outs lo hi w w8) := by rw [hw8]; exact (unhide HU7).trans (Outs.of_grown hst.2 (fun k hk => by have := unhide GL; injection hk with hk; omega))
    obtain ⟨u7, hu7⟩ := cell_of (xs := xs) (j := i * 13 + 7) (by rw [unhide HX]; omega)
    have c7 : w7.cell? ⟨g, i * 13 + 7, none⟩ = some u7 := by have h := (unhide F7).head.cellAt (i * 13 + 7) (by show _ < n * 13; omega); rw [mix_at _ _ _ (by rw [unhide HY]; omega), hu7] at h; exact h
    have f7 : w7.frozen? ⟨g, i * 13 + 7, none⟩ = false := (unhide F7).head.frozenAt (i * 13 + 7)
    have s7 : (q7 : Int) + 1 = (q8 : Int) := by have := unhide HQ8; have := unhide HQ7; omega
    have HW8 := hide hw8
    clear hst hu7 F7 HU7 hw8 Y7
    go_upto_region 19 with fail
    rw [← unhide HW8]
    clear c7 f7 s7 HW8
    obtain ⟨w9, hw9⟩ : ∃ w', w' = w8.setCell ⟨g, i * 13 + 8, none⟩ (.int .i64 (q8 : Int)) := ⟨_, rfl⟩
    have hst := (unhide F8).head.stored (i * 13 + 8) (.int .i64 (q8 : Int))
    have F9 : Hid (FOwn w9 lo ((⟨71, 13, (.slice (some ⟨g, 0, none⟩) n cap), n, mix xs ys (i * 13 + 9)⟩ : RD) :: (A' ++ ((⟨103, 2, .slice ea n0 ec, n0, cE (mkEs q6 n0)⟩ : RD) :: (⟨3, 1, .slice va nv vc, nv, cI lv⟩ : RD) :: (⟨3, 1, .slice xa nx xc, nx, cI lx⟩ : RD) :: (⟨3, 1, .slice ga ng gc, ng, cI lg⟩ : RD) :: B')))) := by
     have h := hst.1
     rw [mix_set xs ys (i * 13 + 8) (.int .i64 (q8 : Int)) (by rw [unhide HX]; omega) (unhide Y8)] at h
     rw [hw9]
     exact (unhide F8).turnAt (F := []) (G := (A' ++ ((⟨103, 2, .slice ea n0 ec, n0, cE (mkEs q6 n0)⟩ : RD) :: (⟨3, 1, .slice va nv vc, nv, cI lv⟩ : RD) :: (⟨3, 1, .slice xa nx xc, nx, cI lx⟩ : RD) :: (⟨3, 1, .slice ga ng gc, ng, cI lg⟩ : RD) :: B'))) rfl rfl hst.2 h rfl
    have HU9 : Hid (Outs lo hi w w9) := by rw [hw9]; exact (unhide HU8).trans (Outs.of_grown hst.2 (fun k hk => by have := unhide GL; injection hk with hk; omega))
    obtain ⟨u8, hu8⟩ := cell_of (xs := xs) (j := i * 13 + 8) (by rw [unhide HX]; omega)
    have c8 : w8.cell? ⟨g, i * 13 + 8, none⟩ = some u8 := by have h := (unhide F8).head.cellAt (i * 13 + 8) (by show _ < n * 13; omega); rw [mix_at _ _ _ (by rw [unhide HY]; omega), hu8] at h; exact h
    have f8 : w8.frozen? ⟨g, i * 13 + 8, none⟩ = false := (unhide F8).head.frozenAt (i * 13 + 8)
    have s8 : (q8 : Int) + 1 = (q9 : Int) := by have := unhide HQ9; have := unhide HQ8; omega
    have HW9 := hide hw9
    clear hst hu8 F8 HU8 hw9 Y8
    go_upto_region 21 with fail
    rw [← unhide HW9]
    clear c8 f8 s8 HW9
    obtain ⟨w10, hw10⟩ : ∃ w', w' = w9.setCell ⟨g, i * 13 + 9, none⟩ (.int .i64 (q9 : Int)) := ⟨_, rfl⟩
    have hst := (unhide F9).head.stored (i * 13 + 9) (.int .i64 (q9 : Int))
    have F10 : Hid (FOwn w10 lo ((⟨71, 13, (.slice (some ⟨g, 0, none⟩) n cap), n, mix xs ys (i * 13 + 10)⟩ : RD) :: (A' ++ ((⟨103, 2, .slice ea n0 ec, n0, cE (mkEs q6 n0)⟩ : RD) :: (⟨3, 1, .slice va nv vc, nv, cI lv⟩ : RD) :: (⟨3, 1, .slice xa nx xc, nx, cI lx⟩ : RD) :: (⟨3, 1, .slice ga ng gc, ng, cI lg⟩ : RD) :: B')))) := by
     have h := hst.1
     rw [mix_set xs ys (i * 13 + 9) (.int .i64 (q9 : Int)) (by rw [unhide HX]; omega) (unhide Y9)] at h
     rw [hw10]
     exact (unhide F9).turnAt (F := []) (G := (A' ++ ((⟨103, 2, .slice ea n0 ec, n0, cE (mkEs q6 n0)⟩ : RD) :: (⟨3, 1, .slice va nv vc, nv, cI lv⟩ : RD) :: (⟨3, 1, .slice xa nx xc, nx, cI lx⟩ : RD) :: (⟨3, 1, .slice ga ng gc, ng, cI lg⟩ : RD) :: B'))) rfl rfl hst.2 h rfl
    have HU10 : Hid (Outs lo hi w w10) := by rw [hw10]; exact (unhide HU9).trans (Outs.of_grown hst.2 (fun k hk => by have := unhide GL; injection hk with hk; omega))
    obtain ⟨u9, hu9⟩ := cell_of (xs := xs) (j := i * 13 + 9) (by rw [unhide HX]; omega)
    have c9 : w9.cell? ⟨g, i * 13 + 9, none⟩ = some u9 := by have h := (unhide F9).head.cellAt (i * 13 + 9) (by show _ < n * 13; omega); rw [mix_at _ _ _ (by rw [unhide HY]; omega), hu9] at h; exact h
    have f9 : w9.frozen? ⟨g, i * 13 + 9, none⟩ = false := (unhide F9).head.frozenAt (i * 13 + 9)
    have s9 : (q9 : Int) + 1 = (q10 : Int) := by have := unhide HQ10; have := unhide HQ9; omega
    have HW10 := hide hw10
    clear hst hu9 F9 HU9 hw10 Y9
    go_upto_region 23 with fail
    rw [← unhide HW10]
    clear c9 f9 s9 HW10
    have HOv : Hid (w10.ownsRow lo 3 1 (.slice va nv vc) nv (cI lv)) := (unhide F10).own (⟨3, 1, .slice va nv vc, nv, cI lv⟩ : RD) (by simp)
    have cl : w10.cell? ⟨g, i * 13 + 10, none⟩ = some (.slice va nv vc) := by have h := (unhide F10).head.cellAt (i * 13 + 10) (by show _ < n * 13; omega); rw [mix_at _ _ _ (by rw [unhide HY]; omega), unhide X10] at h; exact h
    go_wp2_with fail
    clear cl
    refine (markIntK (.slice va nv vc) nv lo w10.heap.size q10 _ (by omega) (by have := unhide HQ10; omega) _ (held_of (unhide HOv))).mono ?_
    rintro e w11 ⟨rfl, hh, hg⟩
    have F11 : Hid (FOwn w11 lo ((⟨71, 13, (.slice (some ⟨g, 0, none⟩) n cap), n, mix xs ys (i * 13 + 11)⟩ : RD) :: (A' ++ ((⟨103, 2, .slice ea n0 ec, n0, cE (mkEs q6 n0)⟩ : RD) :: (⟨3, 1, .slice va nv vc, nv, cI (mkI q10 nv)⟩ : RD) :: (⟨3, 1, .slice xa nx xc, nx, cI lx⟩ : RD) :: (⟨3, 1, .slice ga ng gc, ng, cI lg⟩ : RD) :: B')))) := by
     have h1 := (unhide F10).turnAt (F := ((⟨71, 13, (.slice (some ⟨g, 0, none⟩) n cap), n, mix xs ys (i * 13 + 10)⟩ : RD) :: (A' ++ [(⟨103, 2, .slice ea n0 ec, n0, cE (mkEs q6 n0)⟩ : RD)]))) (r := (⟨3, 1, .slice va nv vc, nv, cI lv⟩ : RD)) (s := (⟨3, 1, .slice va nv vc, nv, cI (mkI q10 nv)⟩ : RD)) (G := ((⟨3, 1, .slice xa nx xc, nx, cI lx⟩ : RD) :: (⟨3, 1, .slice ga ng gc, ng, cI lg⟩ : RD) :: B')) (L2 := (⟨71, 13, (.slice (some ⟨g, 0, none⟩) n cap), n, mix xs ys (i * 13 + 10)⟩ : RD) :: (A' ++ ((⟨103, 2, .slice ea n0 ec, n0, cE (mkEs q6 n0)⟩ : RD) :: (⟨3, 1, .slice va nv vc, nv, cI (mkI q10 nv)⟩ : RD) :: (⟨3, 1, .slice xa nx xc, nx, cI lx⟩ : RD) :: (⟨3, 1, .slice ga ng gc, ng, cI lg⟩ : RD) :: B'))) (by simp) (by simp) hg (by show World.ownsRow _ _ _ _ _ _ _; rw [mkI_ones]; exact hh.own) rfl
     rw [mix_same xs ys (i * 13 + 10) (by rw [unhide HX]; omega) (by rw [unhide X10, unhide Z10])] at h1
     exact h1
    have HU11 : Hid (Outs lo hi w w11) := (unhide HU10).trans (Outs.of_grown hg (fun k hk => ⟨((unhide HOv).lt k hk).1, unhide HIv k hk⟩))
    have e11 : q10 + nv = q11 := by have := unhide HQ10; have := unhide HQ11; omega
    rw [e11]
    clear hh hg F10 HU10 HOv e11
    have HOx : Hid (w11.ownsRow lo 3 1 (.slice xa nx xc) nx (cI lx)) := (unhide F11).own (⟨3, 1, .slice xa nx xc, nx, cI lx⟩ : RD) (by simp)
    have cl : w11.cell? ⟨g, i * 13 + 11, none⟩ = some (.slice xa nx xc) := by have h := (unhide F11).head.cellAt (i * 13 + 11) (by show _ < n * 13; omega); rw [mix_at _ _ _ (by rw [unhide HY]; omega), unhide X11] at h; exact h
    go_wp2_with fail
    clear cl
    refine (markIntK (.slice xa nx xc) nx lo w11.heap.size q11 _ (by omega) (by have := unhide HQ11; omega) _ (held_of (unhide HOx))).mono ?_
    rintro e w12 ⟨rfl, hh, hg⟩
    have F12 : Hid (FOwn w12 lo ((⟨71, 13, (.slice (some ⟨g, 0, none⟩) n cap), n, mix xs ys (i * 13 + 12)⟩ : RD) :: (A' ++ ((⟨103, 2, .slice ea n0 ec, n0, cE (mkEs q6 n0)⟩ : RD) :: (⟨3, 1, .slice va nv vc, nv, cI (mkI q10 nv)⟩ : RD) :: (⟨3, 1, .slice xa nx xc, nx, cI (mkI q11 nx)⟩ : RD) :: (⟨3, 1, .slice ga ng gc, ng, cI lg⟩ : RD) :: B')))) := by
     have h1 := (unhide F11).turnAt (F := ((⟨71, 13, (.slice (some ⟨g, 0, none⟩) n cap), n, mix xs ys (i * 13 + 11)⟩ : RD) :: (A' ++ [(⟨103, 2, .slice ea n0 ec, n0, cE (mkEs q6 n0)⟩ : RD), (⟨3, 1, .slice va nv vc, nv, cI (mkI q10 nv)⟩ : RD)]))) (r := (⟨3, 1, .slice xa nx xc, nx, cI lx⟩ : RD)) (s := (⟨3, 1, .slice xa nx xc, nx, cI (mkI q11 nx)⟩ : RD)) (G := ((⟨3, 1, .slice ga ng gc, ng, cI lg⟩ : RD) :: B')) (L2 := (⟨71, 13, (.slice (some ⟨g, 0, none⟩) n cap), n, mix xs ys (i * 13 + 11)⟩ : RD) :: (A' ++ ((⟨103, 2, .slice ea n0 ec, n0, cE (mkEs q6 n0)⟩ : RD) :: (⟨3, 1, .slice va nv vc, nv, cI (mkI q10 nv)⟩ : RD) :: (⟨3, 1, .slice xa nx xc, nx, cI (mkI q11 nx)⟩ : RD) :: (⟨3, 1, .slice ga ng gc, ng, cI lg⟩ : RD) :: B'))) (by simp) (by simp) hg (by show World.ownsRow _ _ _ _ _ _ _; rw [mkI_ones]; exact hh.own) rfl
     rw [mix_same xs ys (i * 13 + 11) (by rw [unhide HX]; omega) (by rw [unhide X11, unhide Z11])] at h1
     exact h1
    have HU12 : Hid (Outs lo hi w w12) := (unhide HU11).trans (Outs.of_grown hg (fun k hk => ⟨((unhide HOx).lt k hk).1, unhide HIx k hk⟩))
    have e12 : q11 + nx = q12 := by have := unhide HQ11; have := unhide HQ12; omega
    rw [e12]
    clear hh hg F11 HU11 HOx e12
    have HOg : Hid (w12.ownsRow lo 3 1 (.slice ga ng gc) ng (cI lg)) := (unhide F12).own (⟨3, 1, .slice ga ng gc, ng, cI lg⟩ : RD) (by simp)
    have cl : w12.cell? ⟨g, i * 13 + 12, none⟩ = some (.slice ga ng gc) := by have h := (unhide F12).head.cellAt (i * 13 + 12) (by show _ < n * 13; omega); rw [mix_at _ _ _ (by rw [unhide HY]; omega), unhide X12] at h; exact h
    go_wp2_with fail
    clear cl
    refine (markIntK (.slice ga ng gc) ng lo w12.heap.size q12 _ (by omega) (by have := unhide HQ12; omega) _ (held_of (unhide HOg))).mono ?_
    rintro e w13 ⟨rfl, hh, hg⟩
    have F13 : Hid (FOwn w13 lo ((⟨71, 13, (.slice (some ⟨g, 0, none⟩) n cap), n, mix xs ys (i * 13 + 13)⟩ : RD) :: (A' ++ ((⟨103, 2, .slice ea n0 ec, n0, cE (mkEs q6 n0)⟩ : RD) :: (⟨3, 1, .slice va nv vc, nv, cI (mkI q10 nv)⟩ : RD) :: (⟨3, 1, .slice xa nx xc, nx, cI (mkI q11 nx)⟩ : RD) :: (⟨3, 1, .slice ga ng gc, ng, cI (mkI q12 ng)⟩ : RD) :: B')))) := by
     have h1 := (unhide F12).turnAt (F := ((⟨71, 13, (.slice (some ⟨g, 0, none⟩) n cap), n, mix xs ys (i * 13 + 12)⟩ : RD) :: (A' ++ [(⟨103, 2, .slice ea n0 ec, n0, cE (mkEs q6 n0)⟩ : RD), (⟨3, 1, .slice va nv vc, nv, cI (mkI q10 nv)⟩ : RD), (⟨3, 1, .slice xa nx xc, nx, cI (mkI q11 nx)⟩ : RD)]))) (r := (⟨3, 1, .slice ga ng gc, ng, cI lg⟩ : RD)) (s := (⟨3, 1, .slice ga ng gc, ng, cI (mkI q12 ng)⟩ : RD)) (G := (B')) (L2 := (⟨71, 13, (.slice (some ⟨g, 0, none⟩) n cap), n, mix xs ys (i * 13 + 12)⟩ : RD) :: (A' ++ ((⟨103, 2, .slice ea n0 ec, n0, cE (mkEs q6 n0)⟩ : RD) :: (⟨3, 1, .slice va nv vc, nv, cI (mkI q10 nv)⟩ : RD) :: (⟨3, 1, .slice xa nx xc, nx, cI (mkI q11 nx)⟩ : RD) :: (⟨3, 1, .slice ga ng gc, ng, cI (mkI q12 ng)⟩ : RD) :: B'))) (by simp) (by simp) hg (by show World.ownsRow _ _ _ _ _ _ _; rw [mkI_ones]; exact hh.own) rfl
     rw [mix_same xs ys (i * 13 + 12) (by rw [unhide HX]; omega) (by rw [unhide X12, unhide Z12])] at h1
     exact h1
    have HU13 : Hid (Outs lo hi w w13) := (unhide HU12).trans (Outs.of_grown hg (fun k hk => ⟨((unhide HOg).lt k hk).1, unhide HIg k hk⟩))
    have e13 : q12 + ng = q13 := by have := unhide HQ12; have := unhide HQ13; omega
    rw [e13]
    clear hh hg F12 HU12 HOg e13
    have FZ : Hid (FOwn w13 lo ((⟨71, 13, (.slice (some ⟨g, 0, none⟩) n cap), n, mix xs ys ((i + 1) * 13)⟩ : RD) :: (((markNs k0 L).take (i + 1)).flatMap nrows ++ (L.drop (i + 1)).flatMap nrows))) := by
     show FOwn _ _ _
     rw [unhide HMT, List.flatMap_append, List.flatMap_singleton, ← unhide HA, ← unhide HB, show (i + 1) * 13 = i * 13 + 13 from by omega]
     have h := unhide F13
     simp only [nrows, mkNd, mkEs_len, mkI_len, show l.length = n0 from unhide HN0, show lv.length = nv from unhide HNv, show lx.length = nx from unhide HNx, show lg.length = ng from unhide HNg, List.append_assoc, List.cons_append, List.nil_append]
     rw [unhide HQ6, unhide HQ10, unhide HQ11, unhide HQ12] at h
     exact h
    have HQZ : Hid (q13 = kAtN k0 L (i + 1)) := by
     show _ = _
     rw [unhide HKS, unhide HQ13]; unfold kN; simp only [show l.length = n0 from unhide HN0, show lv.length = nv from unhide HNv, show lx.length = nx from unhide HNx, show lg.length = ng from unhide HNg]
    clear F13
    go_wp2_with fail
    go_roundw
    case rel => exact ⟨i + 1, q13, by omega, HQZ, by go_num, rfl, FZ, HU13⟩
    case measure => simp [intOf]; omega
   ·obtain rfl : i = n := by omega
    have hq : Qe = (q : Int) := by rw [unhide HQ, unhide HQI]
    have FZ : Hid (FOwn wr lo (ndF (.slice (some ⟨g, 0, none⟩) i cap) i (markNs k0 L))) := by
     show FOwn _ _ _
     have h := unhide F0
     rw [mix_all xs ys (i * 13) (by rw [unhide HX]; exact Nat.le_refl _) (by rw [unhide HY]; exact Nat.le_refl _), List.take_of_length_le (by rw [markNs_len, unhide HN]; exact Nat.le_refl _), List.drop_of_length_le (by rw [unhide HN]; exact Nat.le_refl _), List.flatMap_nil, List.append_nil, unhide HYS] at h
     exact h
    go_wp2_with fail
    go_ret
    exact ⟨ret_int hq.symm, unhide FZ, unhide HU0⟩
end Go.Proofs.YtfogppnijdjakaaGreatDoor
