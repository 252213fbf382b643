/- Rows of nodes and of stores in the law's own words: the marks found again; stores marked. -/
import Derived.Test.YthbkcijkokaoeaaMknI
import Derived.Test.YthbkcijkokaoeaaMarkS
namespace Go.Proofs.Ythbkcijkokaoeaa
open Go.ChangeShapes Go.WideShapes Go.ChangeAt Go.RowKit
set_option linter.unusedVariables false
set_option linter.unusedSimpArgs false
set_option maxHeartbeats 4000000 in
set_option maxRecDepth 100000 in
theorem heldNodes (v : Value) (n lo k0 : Nat) (hn : n ≤ 1048576) (L : List NdA) (HN : Hid (L.length = n)) (Qe : Int) (HQ : Hid (Qe = ((kAtN k0 L n : Nat) : Int))) (hk0 : Hid (0 < k0)) (hkm : Hid (kAtN k0 L n ≤ 3000000)) (w : World) (h : FOwn w lo (ndF v n (markNs k0 L))) :
    Calls Try.prog 21 #[v, .int .i64 (k0 : Int)] w fun e w' => e = .returned (.int .i64 Qe) ∧ Below w.heap.size w w' := by
  obtain ⟨a, cap, rfl, hr⟩ := ownZ_rowV (show w.ownsRow lo 38 13 v n ((markNs k0 L).flatMap cN) from h.head)
  have HR := hide hr
  have HF := hide h
  clear hr h
  go_enter Try.func21, Try.ntmps21
  go_wp2_with fail
  go_loopw [1, 5] (fun kk ii wr => ∃ i q : Nat, i ≤ n ∧ Hid (q = kAtN k0 L i) ∧ ii = .int .i64 i ∧ kk = .int .i64 (q : Int) ∧ Hid (Below w.heap.size w wr)) (fun _ ii _ => n - (intOf ii).toNat)
  case atStart => exact ⟨0, k0, by omega, by show k0 = kAtN k0 L 0; cases L <;> rfl, rfl, rfl, Below.refl _ _⟩
  case round =>
    obtain ⟨i, q, hi, HQI, rfl, rfl, HB⟩ := hrel
    by_cases hlt : i < n
    · have hil : i < L.length := by rw [unhide HN]; exact hlt
      have him : i < (markNs k0 L).length := by rw [markNs_len]; exact hil
      have hq3 : kN q L[i] ≤ 3000000 := by have h1 := kAtN_succ k0 L i hil; have h2 := kAtN_le k0 L (i + 1) n (by omega) (by rw [unhide HN]; exact Nat.le_refl _); have := unhide hkm; rw [← unhide HQI] at h1; omega
      have hqp : 0 < q := by have := kAtN_pos k0 L i (by omega); have := unhide hk0; have := unhide HQI; omega
      have HKS : Hid (kAtN k0 L (i + 1) = kN q L[i]) := by show _ = _; rw [kAtN_succ k0 L i hil, ← unhide HQI]
      obtain ⟨b, off, rfl, hblt, hc⟩ := (unhide HR).at (by rw [flat_len (c := cN) (z := 13) (fun p => rfl), markNs_len, unhide HN]; omega)
      have hm := (row_N13 hc i him).below (unhide HB) hblt
      have LB := hide (Nat.lt_of_lt_of_le hblt (unhide HB).size)
      have hown := fun r hr => (unhide HF).own r (List.mem_cons_of_mem _ (List.mem_flatMap.2 ⟨_, List.getElem_mem him, hr⟩))
      rw [markNs_at k0 L i hil, ← unhide HQI] at hm hown
      clear hc hblt
      generalize L[i] = p at hm hown hq3 HKS
      obtain ⟨⟨id, nd, tm, vt, ro, up, l, cm, el, wt, lv, lx, lg⟩, ea, ec, va, vc, xa, xc, ga, gc⟩ := p
      obtain ⟨n0, hnn0⟩ : ∃ n0, l.length = n0 := ⟨_, rfl⟩
      have HN0 : Hid (l.length = n0) := hnn0
      obtain ⟨nv, hnnv⟩ : ∃ nv, lv.length = nv := ⟨_, rfl⟩
      have HNv : Hid (lv.length = nv) := hnnv
      obtain ⟨nx, hnnx⟩ : ∃ nx, lx.length = nx := ⟨_, rfl⟩
      have HNx : Hid (lx.length = nx) := hnnx
      obtain ⟨ng, hnng⟩ : ∃ ng, lg.length = ng := ⟨_, rfl⟩
      have HNg : Hid (lg.length = ng) := hnng
      unfold kN at hq3 HKS
      simp only [hnn0, hnnv, hnnx, hnng] at hq3 HKS
      obtain ⟨q1, hq1⟩ : ∃ q9, q9 = q + 1 := ⟨_, rfl⟩
      have b1 : (q1 : Int) ≤ 3000000 := by omega
      have HQ1 := hide hq1
      obtain ⟨q2, hq2⟩ : ∃ q9, q9 = q + 2 := ⟨_, rfl⟩
      have b2 : (q2 : Int) ≤ 3000000 := by omega
      have HQ2 := hide hq2
      obtain ⟨q3, hq3⟩ : ∃ q9, q9 = q + 3 := ⟨_, rfl⟩
      have b3 : (q3 : Int) ≤ 3000000 := by omega
      have HQ3 := hide hq3
      obtain ⟨q4, hq4⟩ : ∃ q9, q9 = q + 4 := ⟨_, rfl⟩
      have b4 : (q4 : Int) ≤ 3000000 := by omega
      have HQ4 := hide hq4
      obtain ⟨q5, hq5⟩ : ∃ q9, q9 = q + 5 := ⟨_, rfl⟩
      have b5 : (q5 : Int) ≤ 3000000 := by omega
      have HQ5 := hide hq5
      obtain ⟨q6, hq6⟩ : ∃ q9, q9 = q + 6 := ⟨_, rfl⟩
      have b6 : (q6 : Int) ≤ 3000000 := by omega
      have HQ6 := hide hq6
      obtain ⟨q7, hq7⟩ : ∃ q9, q9 = q + 6 + n0 * 2 := ⟨_, rfl⟩
      have b7 : (q7 : Int) ≤ 3000000 := by omega
      have HQ7 := hide hq7
      obtain ⟨q8, hq8⟩ : ∃ q9, q9 = q + 6 + n0 * 2 + 1 := ⟨_, rfl⟩
      have b8 : (q8 : Int) ≤ 3000000 := by omega
      have HQ8 := hide hq8
      obtain ⟨q9, hq9⟩ : ∃ q9, q9 = q + 6 + n0 * 2 + 2 := ⟨_, rfl⟩
      have b9 : (q9 : Int) ≤ 3000000 := by omega
      have HQ9 := hide hq9
      obtain ⟨q10, hq10⟩ : ∃ q9, q9 = q + 6 + n0 * 2 + 3 := ⟨_, rfl⟩
      have b10 : (q10 : Int) ≤ 3000000 := by omega
      have HQ10 := hide hq10
      obtain ⟨q11, hq11⟩ : ∃ q9, q9 = q + 6 + n0 * 2 + 3 + nv := ⟨_, rfl⟩
      have b11 : (q11 : Int) ≤ 3000000 := by omega
      have HQ11 := hide hq11
      obtain ⟨q12, hq12⟩ : ∃ q9, q9 = q + 6 + n0 * 2 + 3 + nv + nx := ⟨_, rfl⟩
      have b12 : (q12 : Int) ≤ 3000000 := by omega
      have HQ12 := hide hq12
      obtain ⟨q13, hq13⟩ : ∃ q9, q9 = q + 6 + n0 * 2 + 3 + nv + nx + ng := ⟨_, rfl⟩
      have b13 : (q13 : Int) ≤ 3000000 := by omega
      have HQ13 := hide hq13
      obtain ⟨m0, m1, m2, m3, m4, m5, m6, m7, m8, m9, m10, m11, m12⟩ := hm
      have c0 : wr.cell? ⟨b, off + i * 13, none⟩ = some (.int .i64 (q : Int)) := by have h := m0; simp only [mkNd] at h; exact h
      have c1 : wr.cell? ⟨b, off + i * 13 + 1, none⟩ = some (.int .i64 (q1 : Int)) := by have h := m1; simp only [mkNd] at h; rw [hq1]; exact h
      have c2 : wr.cell? ⟨b, off + i * 13 + 2, none⟩ = some (.int .i64 (q2 : Int)) := by have h := m2; simp only [mkNd] at h; rw [hq2]; exact h
      have c3 : wr.cell? ⟨b, off + i * 13 + 3, none⟩ = some (.int .i64 (q3 : Int)) := by have h := m3; simp only [mkNd] at h; rw [hq3]; exact h
      have c4 : wr.cell? ⟨b, off + i * 13 + 4, none⟩ = some (.int .i64 (q4 : Int)) := by have h := m4; simp only [mkNd] at h; rw [hq4]; exact h
      have c5 : wr.cell? ⟨b, off + i * 13 + 5, none⟩ = some (.bool ((q5 : Int) % 3 == 0)) := by have h := m5; simp only [mkNd, okM] at h; rw [hq5]; exact h
      have c7 : wr.cell? ⟨b, off + i * 13 + 7, none⟩ = some (.int .i64 (q7 : Int)) := by have h : wr.cell? ⟨b, off + i * 13 + 7, none⟩ = some (.int .i64 ((q + 6 + l.length * 2 : Nat) : Int)) := m7; rw [hnn0] at h; rw [hq7]; exact h
      have c8 : wr.cell? ⟨b, off + i * 13 + 8, none⟩ = some (.int .i64 (q8 : Int)) := by have h : wr.cell? ⟨b, off + i * 13 + 8, none⟩ = some (.int .i64 ((q + 6 + l.length * 2 + 1 : Nat) : Int)) := m8; rw [hnn0] at h; rw [hq8]; exact h
      have c9 : wr.cell? ⟨b, off + i * 13 + 9, none⟩ = some (.int .i64 (q9 : Int)) := by have h : wr.cell? ⟨b, off + i * 13 + 9, none⟩ = some (.int .i64 ((q + 6 + l.length * 2 + 2 : Nat) : Int)) := m9; rw [hnn0] at h; rw [hq9]; exact h
      have c6 : wr.cell? ⟨b, off + i * 13 + 6, none⟩ = some (.slice ea n0 ec) := by have h : wr.cell? ⟨b, off + i * 13 + 6, none⟩ = some (.slice ea (mkEs (q + 6) l.length).length ec) := m6; rw [mkEs_len, hnn0] at h; exact h
      have c10 : wr.cell? ⟨b, off + i * 13 + 10, none⟩ = some (.slice va nv vc) := by have h : wr.cell? ⟨b, off + i * 13 + 10, none⟩ = some (.slice va (mkI (q + 6 + l.length * 2 + 3) lv.length).length vc) := m10; rw [mkI_len, hnnv] at h; exact h
      have c11 : wr.cell? ⟨b, off + i * 13 + 11, none⟩ = some (.slice xa nx xc) := by have h : wr.cell? ⟨b, off + i * 13 + 11, none⟩ = some (.slice xa (mkI (q + 6 + l.length * 2 + 3 + lv.length) lx.length).length xc) := m11; rw [mkI_len, hnnx] at h; exact h
      have c12 : wr.cell? ⟨b, off + i * 13 + 12, none⟩ = some (.slice ga ng gc) := by have h : wr.cell? ⟨b, off + i * 13 + 12, none⟩ = some (.slice ga (mkI (q + 6 + l.length * 2 + 3 + lv.length + lx.length) lg.length).length gc) := m12; rw [mkI_len, hnng] at h; exact h
      have ke : w.ownsRow lo 67 2 (.slice ea n0 ec) n0 (onesEnt q6 n0) := by
        have h := hown ⟨67, 2, .slice ea (mkEs (q + 6) l.length).length ec, (mkEs (q + 6) l.length).length, cE (mkEs (q + 6) l.length)⟩ (by simp [nrows, mkNd])
        have h2 : w.ownsRow lo 67 2 (.slice ea (mkEs (q + 6) l.length).length ec) (mkEs (q + 6) l.length).length (cE (mkEs (q + 6) l.length)) := h
        rw [mkEs_len, mkEs_ones, hnn0] at h2
        rw [hq6]; exact h2
      have kv : w.ownsRow lo 3 1 (.slice va nv vc) nv ((List.range nv).map fun j => .int .i64 (((q10 + j : Nat) : Int))) := by
        have h := hown ⟨3, 1, .slice va (mkI (q + 6 + l.length * 2 + 3) lv.length).length vc, (mkI (q + 6 + l.length * 2 + 3) lv.length).length, cI (mkI (q + 6 + l.length * 2 + 3) lv.length)⟩ (by simp [nrows, mkNd])
        have h2 : w.ownsRow lo 3 1 (.slice va (mkI (q + 6 + l.length * 2 + 3) lv.length).length vc) (mkI (q + 6 + l.length * 2 + 3) lv.length).length (cI (mkI (q + 6 + l.length * 2 + 3) lv.length)) := h
        simp only [mkI_len, mkI_ones, hnn0, hnnv, hnnx, hnng] at h2
        rw [hq10]; exact h2
      have kx : w.ownsRow lo 3 1 (.slice xa nx xc) nx ((List.range nx).map fun j => .int .i64 (((q11 + j : Nat) : Int))) := by
        have h := hown ⟨3, 1, .slice xa (mkI (q + 6 + l.length * 2 + 3 + lv.length) lx.length).length xc, (mkI (q + 6 + l.length * 2 + 3 + lv.length) lx.length).length, cI (mkI (q + 6 + l.length * 2 + 3 + lv.length) lx.length)⟩ (by simp [nrows, mkNd])
        have h2 : w.ownsRow lo 3 1 (.slice xa (mkI (q + 6 + l.length * 2 + 3 + lv.length) lx.length).length xc) (mkI (q + 6 + l.length * 2 + 3 + lv.length) lx.length).length (cI (mkI (q + 6 + l.length * 2 + 3 + lv.length) lx.length)) := h
        simp only [mkI_len, mkI_ones, hnn0, hnnv, hnnx, hnng] at h2
        rw [hq11]; exact h2
      have kg : w.ownsRow lo 3 1 (.slice ga ng gc) ng ((List.range ng).map fun j => .int .i64 (((q12 + j : Nat) : Int))) := by
        have h := hown ⟨3, 1, .slice ga (mkI (q + 6 + l.length * 2 + 3 + lv.length + lx.length) lg.length).length gc, (mkI (q + 6 + l.length * 2 + 3 + lv.length + lx.length) lg.length).length, cI (mkI (q + 6 + l.length * 2 + 3 + lv.length + lx.length) lg.length)⟩ (by simp [nrows, mkNd])
        have h2 : w.ownsRow lo 3 1 (.slice ga (mkI (q + 6 + l.length * 2 + 3 + lv.length + lx.length) lg.length).length gc) (mkI (q + 6 + l.length * 2 + 3 + lv.length + lx.length) lg.length).length (cI (mkI (q + 6 + l.length * 2 + 3 + lv.length + lx.length) lg.length)) := h
        simp only [mkI_len, mkI_ones, hnn0, hnnv, hnnx, hnng] at h2
        rw [hq12]; exact h2
      have Hre := hide ((heldZ_of ke).below (unhide HB) (Nat.le_refl _)).own
      have Hrv := hide ((heldZ_of kv).below (unhide HB) (Nat.le_refl _)).own
      have Hrx := hide ((heldZ_of kx).below (unhide HB) (Nat.le_refl _)).own
      have Hrg := hide ((heldZ_of kg).below (unhide HB) (Nat.le_refl _)).own
      have i1 : (i : Int) < (n : Int) := by omega
      have i0 : (0 : Int) ≤ (i : Int) := by omega
      have b0 : (q : Int) ≤ 3000000 := by omega
      have x0 : ((q : Int) != (q : Int)) = false := by simp
      have x1 : ((q1 : Int) != (q1 : Int)) = false := by simp
      have x2 : ((q2 : Int) != (q2 : Int)) = false := by simp
      have x3 : ((q3 : Int) != (q3 : Int)) = false := by simp
      have x4 : ((q4 : Int) != (q4 : Int)) = false := by simp
      have x7 : ((q7 : Int) != (q7 : Int)) = false := by simp
      have x8 : ((q8 : Int) != (q8 : Int)) = false := by simp
      have x9 : ((q9 : Int) != (q9 : Int)) = false := by simp
      have x5 : (((q5 : Int) % 3 == 0) != ((q5 : Int) % 3 == 0)) = false := by simp
      have s0 : (q : Int) + 1 = (q1 : Int) := by omega
      have s1 : (q1 : Int) + 1 = (q2 : Int) := by omega
      have s2 : (q2 : Int) + 1 = (q3 : Int) := by omega
      have s3 : (q3 : Int) + 1 = (q4 : Int) := by omega
      have s4 : (q4 : Int) + 1 = (q5 : Int) := by omega
      have s5 : (q5 : Int) + 1 = (q6 : Int) := by omega
      have s7 : (q7 : Int) + 1 = (q8 : Int) := by omega
      have s8 : (q8 : Int) + 1 = (q9 : Int) := by omega
      have s9 : (q9 : Int) + 1 = (q10 : Int) := by omega
      have hqz : q13 = kAtN k0 L (i + 1) := by rw [unhide HKS, hq13]
      have HQZ := hide hqz
      clear hqz hown ke kv kx kg m0 m1 m2 m3 m4 m5 m6 m7 m8 m9 m10 m11 m12 hq1 hq2 hq3 hq4 hq5 hq6 hq7 hq8 hq9 hq10 hq11 hq12 hq13 hnn0 hnnv hnnx hnng HKS hil him
      go_wp2_with fail
      refine (heldEnt (.slice ea n0 ec) n0 lo wr.heap.size q6 (by have := unhide HQ6; omega) (by have := unhide HQ6; omega) _ (heldZ_of (unhide Hre))).mono ?_
      rintro e y1 ⟨rfl, hb⟩
      have B1 := hide ((unhide HB).trans (hb.mono (unhide HB).size))
      have Hnv := hide ((heldZ_of (unhide Hrv)).below hb (Nat.le_refl _)).own
      have Hnx := hide ((heldZ_of (unhide Hrx)).below hb (Nat.le_refl _)).own
      have Hng := hide ((heldZ_of (unhide Hrg)).below hb (Nat.le_refl _)).own
      have HM1 : Hid (∀ o u, wr.cell? ⟨b, o, none⟩ = some u → y1.cell? ⟨b, o, none⟩ = some u) := fun o u hu => (hb.cell (p := ⟨b, o, none⟩) (unhide LB)).trans hu
      have d7 := unhide HM1 _ _ c7
      have d8 := unhide HM1 _ _ c8
      have d9 := unhide HM1 _ _ c9
      have d10 := unhide HM1 _ _ c10
      have d11 := unhide HM1 _ _ c11
      have d12 := unhide HM1 _ _ c12
      have LB2 := hide (Nat.lt_of_lt_of_le (unhide LB) hb.size)
      have e7 : q6 + n0 * 2 = q7 := by have := unhide HQ6; have := unhide HQ7; omega
      rw [e7]
      have z7 : ¬ (q7 : Int) < 0 := by omega
      clear hb HB Hre LB e7 HM1 c0 c1 c2 c3 c4 c5 c6 x0 s0 x1 s1 x2 s2 x3 s3 x4 s4 x5 s5 c7 c8 c9 c10 c11 c12 Hrv Hrx Hrg
      have LB := LB2
      clear LB2
      have Hrv := Hnv
      clear Hnv
      have Hrx := Hnx
      clear Hnx
      have Hrg := Hng
      clear Hng
      have c7 := d7
      clear d7
      have c8 := d8
      clear d8
      have c9 := d9
      clear d9
      have c10 := d10
      clear d10
      have c11 := d11
      clear d11
      have c12 := d12
      clear d12
      go_wp2_with fail
      refine (heldIntK (.slice va nv vc) nv lo y1.heap.size q10 (by omega) (by have := unhide HQ10; omega) _ (held_of (unhide Hrv))).mono ?_
      rintro e y2 ⟨rfl, hb⟩
      have B2 := hide ((unhide B1).trans (hb.mono (unhide B1).size))
      have Hnx := hide ((heldZ_of (unhide Hrx)).below hb (Nat.le_refl _)).own
      have Hng := hide ((heldZ_of (unhide Hrg)).below hb (Nat.le_refl _)).own
      have HM2 : Hid (∀ o u, y1.cell? ⟨b, o, none⟩ = some u → y2.cell? ⟨b, o, none⟩ = some u) := fun o u hu => (hb.cell (p := ⟨b, o, none⟩) (unhide LB)).trans hu
      have d11 := unhide HM2 _ _ c11
      have d12 := unhide HM2 _ _ c12
      have LB2 := hide (Nat.lt_of_lt_of_le (unhide LB) hb.size)
      have e11 : q10 + nv = q11 := by have := unhide HQ10; have := unhide HQ11; omega
      rw [e11]
      have z11 : ¬ (q11 : Int) < 0 := by omega
      clear hb B1 Hrv LB e11 HM2 c7 c8 c9 c10 x7 s7 x8 s8 x9 s9 c11 c12 Hrx Hrg z7
      have LB := LB2
      clear LB2
      have Hrx := Hnx
      clear Hnx
      have Hrg := Hng
      clear Hng
      have c11 := d11
      clear d11
      have c12 := d12
      clear d12
      go_wp2_with fail
      refine (heldIntK (.slice xa nx xc) nx lo y2.heap.size q11 (by omega) (by have := unhide HQ11; omega) _ (held_of (unhide Hrx))).mono ?_
      rintro e y3 ⟨rfl, hb⟩
      have B3 := hide ((unhide B2).trans (hb.mono (unhide B2).size))
      have Hng := hide ((heldZ_of (unhide Hrg)).below hb (Nat.le_refl _)).own
      have HM3 : Hid (∀ o u, y2.cell? ⟨b, o, none⟩ = some u → y3.cell? ⟨b, o, none⟩ = some u) := fun o u hu => (hb.cell (p := ⟨b, o, none⟩) (unhide LB)).trans hu
      have d12 := unhide HM3 _ _ c12
      have LB2 := hide (Nat.lt_of_lt_of_le (unhide LB) hb.size)
      have e12 : q11 + nx = q12 := by have := unhide HQ11; have := unhide HQ12; omega
      rw [e12]
      have z12 : ¬ (q12 : Int) < 0 := by omega
      clear hb B2 Hrx LB e12 HM3 c11  c12 Hrg z11
      have LB := LB2
      clear LB2
      have Hrg := Hng
      clear Hng
      have c12 := d12
      clear d12
      go_wp2_with fail
      refine (heldIntK (.slice ga ng gc) ng lo y3.heap.size q12 (by omega) (by have := unhide HQ12; omega) _ (held_of (unhide Hrg))).mono ?_
      rintro e y4 ⟨rfl, hb⟩
      have B4 := hide ((unhide B3).trans (hb.mono (unhide B3).size))
      have HM4 : Hid (∀ o u, y3.cell? ⟨b, o, none⟩ = some u → y4.cell? ⟨b, o, none⟩ = some u) := fun o u hu => (hb.cell (p := ⟨b, o, none⟩) (unhide LB)).trans hu
      have LB2 := hide (Nat.lt_of_lt_of_le (unhide LB) hb.size)
      have e13 : q12 + ng = q13 := by have := unhide HQ12; have := unhide HQ13; omega
      rw [e13]
      have z13 : ¬ (q13 : Int) < 0 := by omega
      clear hb B3 Hrg LB e13 HM4 c12    z12
      have LB := LB2
      clear LB2
      go_wp2_with fail
      go_roundw
      case rel => exact ⟨i + 1, q13, by omega, HQZ, by go_num, rfl, B4⟩
      case measure => simp [intOf]; omega
    · obtain rfl : i = n := by omega
      have hq : (q : Int) = Qe := by rw [unhide HQ, unhide HQI]
      go_wp2_with fail
      go_ret
      exact ⟨ret_int hq, unhide HB⟩
end Go.Proofs.Ythbkcijkokaoeaa
