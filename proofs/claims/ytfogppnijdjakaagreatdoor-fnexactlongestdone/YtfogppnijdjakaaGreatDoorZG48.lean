/- Texts put together: MsL MkcI HeldS LgAll. -/
import Derived.Test.YtfogppnijdjakaaGreatDoorZG47
import Derived.Test.YtfogppnijdjakaaGreatDoorZG5
import Derived.Test.YtfogppnijdjakaaGreatDoorZG7
import Derived.Deep.Cut
import Derived.Test.YtfogppnijdjakaaGreatDoorZG44
import Derived.Test.YtfogppnijdjakaaGreatDoorZMknI
import Derived.Test.YtfogppnijdjakaaGreatDoorZG30
import Derived.Test.YtfogppnijdjakaaGreatDoorZG43
/- Rows of messages in the law's own words: two that are alike, their marks, these found again. -/
namespace Go.Proofs.YtfogppnijdjakaaGreatDoor
open Go.ChangeShapes Go.WideShapes Go.ChangeAt Go.RowKit
set_option linter.unusedVariables false
set_option maxHeartbeats 4000000 in
set_option maxRecDepth 100000 in
theorem markMsgs (v : Value) (n lo k0 : Nat) (hn : n ≤ 1048576) (L : List MgA) (HN : Hid (L.length = n)) (Q : Int) (HQ : Hid (Q = ((kAt k0 L n : Nat) : Int))) (hk0 : Hid (0 < k0)) (hkm : Hid (kAt k0 L n ≤ 30000000)) (w : World) (h : MOwn w lo v L) (hi : Nat) (hhv : ∀ j, v.ownBlock = some j → j < hi) (hhe : ∀ p ∈ L, ∀ j, (sl p).ownBlock = some j → j < hi) :
  Calls Tryz.prog 30 #[v, .int .i64 (k0 : Int)] w fun e w' => e = .returned (.int .i64 Q) ∧ MOwn w' lo v (markL k0 L) ∧ Outs lo hi w w' := by
 rcases h.row.2 with ⟨rfl, h0⟩ | ⟨g, cap, cur, rfl, hg0, _⟩
 ·have e0 : L = [] := List.length_eq_zero_iff.1 h0
  subst e0
  obtain rfl : 0 = n := unhide HN
  have hq : Q = (k0 : Int) := unhide HQ
  have HO : Hid (Outs lo hi w w) := Outs.of_below (Below.refl _ _)
  have HH := hide h
  clear h HQ hkm h0 hhv hhe
  go_enter Tryz.func30, Tryz.ntmps30
  go_wp2_with fail
  go_loopw [1, 5] (fun kk i wr => kk = .int .i64 (k0 : Int) ∧ i = .int .i64 0 ∧ wr = w) (fun _ _ _ => 0)
  case atStart => exact ⟨rfl, rfl, rfl⟩
  case round =>
   obtain ⟨rfl, rfl, rfl⟩ := hrel
   go_wp2_with fail
   go_ret
   exact ⟨ret_int hq.symm, unhide HH, unhide HO⟩
 ·obtain ⟨xs, hxs⟩ : ∃ xs, xs = cMs L := ⟨_, rfl⟩
  obtain ⟨ys, hys⟩ : ∃ ys, ys = cMs (markL k0 L) := ⟨_, rfl⟩
  have HX : Hid (xs.length = n * 9) := by show _ = _; rw [hxs, cMs_len, unhide HN]
  have HY : Hid (ys.length = n * 9) := by show _ = _; rw [hys, cMs_len, markL_len, unhide HN]
  have HXS := hide hxs
  have HYS := hide hys
  have OR : Hid (w.ownsRow lo 82 9 (.slice (some ⟨g, 0, none⟩) n cap) n xs) := by show World.ownsRow _ _ _ _ _ _ _; rw [hxs, ← unhide HN]; exact h.row
  have OE : Hid (∀ t (ht : t < L.length), w.ownsRow lo 103 2 (sl L[t]) L[t].1.es.length (if t < 0 then onesEnt (kAt k0 L t + 8) L[t].1.es.length else cE L[t].1.es)) := fun t ht => by rw [if_neg (by omega)]; exact h.ent _ (List.getElem_mem ht)
  have AP := hide h.apart
  have OF := hide h.off
  have LT : Hid (∀ t (ht : t < L.length), ∀ j, (sl L[t]).ownBlock = some j → lo ≤ j ∧ j < hi) := fun t ht j hj => ⟨((h.ent _ (List.getElem_mem ht)).lt j hj).1, hhe _ (List.getElem_mem ht) j hj⟩
  have GL : Hid (lo ≤ g ∧ g < hi) := ⟨(h.row.lt g rfl).1, hhv g rfl⟩
  rw [unhide HN]
  clear h hxs hys hg0 hhv hhe
  go_enter Tryz.func30, Tryz.ntmps30
  go_wp2_with fail
  go_loopw [1, 5] (fun kk ii wr => ∃ i q : Nat, i ≤ n ∧ Hid (q = kAt k0 L i) ∧ ii = .int .i64 i ∧ kk = .int .i64 (q : Int) ∧ Hid (wr.ownsRow lo 82 9 (.slice (some ⟨g, 0, none⟩) n cap) n (mix xs ys (i * 9))) ∧ Hid (∀ t (ht : t < L.length), wr.ownsRow lo 103 2 (sl L[t]) L[t].1.es.length (if t < i then onesEnt (kAt k0 L t + 8) L[t].1.es.length else cE L[t].1.es)) ∧ Hid (Outs lo hi w wr)) (fun _ i _ => n - (intOf i).toNat)
  case atStart => exact ⟨0, k0, by omega, by show k0 = kAt k0 L 0; cases L <;> rfl, rfl, rfl, by rw [Nat.zero_mul, mix_zero]; exact OR, OE, Outs.of_below (Below.refl _ _)⟩
  case round =>
   clear OR OE
   obtain ⟨i, q, hin, HQI, rfl, rfl, O0, OE, HU⟩ := hrel
   by_cases hlt : i < n
   ·have hil : i < L.length := by rw [unhide HN]; exact hlt
    have hq3 : q + 8 + L[i].1.es.length * 2 ≤ 30000000 := by have h1 := kAt_succ k0 L i hil; have h2 := kAt_le k0 L (i + 1) n (by omega) (by rw [unhide HN]; exact Nat.le_refl _); have := unhide hkm; have := unhide HQI; omega
    have Y : Hid (∀ j u, (cM (mkMg q L[i]))[j]? = some u → ys[i * 9 + j]? = some u) := fun j u hj => by
     have hj9 : j < 9 := by
      rcases Nat.lt_or_ge j 9 with h | h
      ·exact h
      ·rw [List.getElem?_eq_none (by show 9 ≤ j; exact h)] at hj; cases hj
     rw [unhide HYS, cMs_at _ i (by rw [markL_len]; exact hil) j hj9, markL_at k0 L i hil, ← unhide HQI]; exact hj
    have hsl : xs[i * 9 + 8]? = some (sl L[i]) := by rw [unhide HXS, cMs_at L i hil 8 (by decide)]; rfl
    have hsy : ys[i * 9 + 8]? = some (sl L[i]) := unhide Y 8 _ (by show some (sl (mkMg q L[i])) = _; unfold sl mkMg; simp only [mkEs_len])
    obtain ⟨ae, ce, hes⟩ : ∃ ae ce, sl L[i] = .slice ae L[i].1.es.length ce := ⟨_, _, rfl⟩
    obtain ⟨ne, hne⟩ : ∃ ne, L[i].1.es.length = ne := ⟨_, rfl⟩
    rw [hne] at hes hq3
    have OEi : Hid (wr.ownsRow lo 103 2 (.slice ae ne ce) ne (cE L[i].1.es)) := by have h := unhide OE i hil; rw [if_neg (Nat.lt_irrefl _), hes, hne] at h; exact h
    have OFi : Hid (∀ j, (Value.slice ae ne ce).ownBlock = some j → j ≠ g) := fun j hj e => unhide OF _ (List.getElem_mem hil) j (by rw [hes]; exact hj) (by rw [e]; rfl)
    have HSL := hide hsl
    have HSY := hide hsy
    have HES := hide hes
    have HNE := hide hne
    have i1 : (i : Int) < (n : Int) := by omega
    have i0 : (0 : Int) ≤ (i : Int) := by omega
    have b0 : (q : Int) ≤ 30000000 := by omega
    have s1 : (q : Int) + 1 = ((q + 1 : Nat) : Int) := by omega
    have s2 : ((q + 1 : Nat) : Int) + 1 = ((q + 2 : Nat) : Int) := by omega
    obtain ⟨w0, hw0⟩ : ∃ w0, w0 = wr := ⟨_, rfl⟩
    have G0 : Hid (w0.grownBy w0 (some g)) := grownBy_refl _ _
    rw [← hw0] at O0 OE HU OEi ⊢
    clear hsl hsy hes hne hw0 s1 s2
    obtain ⟨q1, hq1⟩ : ∃ q9, q9 = q + 1 := ⟨_, rfl⟩
    have b1 : (q1 : Int) ≤ 30000000 := by omega
    have HQ1 := hide hq1
    obtain ⟨q2, hq2⟩ : ∃ q9, q9 = q + 2 := ⟨_, rfl⟩
    have b2 : (q2 : Int) ≤ 30000000 := by omega
    have HQ2 := hide hq2
    obtain ⟨q3, hq3⟩ : ∃ q9, q9 = q + 3 := ⟨_, rfl⟩
    have b3 : (q3 : Int) ≤ 30000000 := by omega
    have HQ3 := hide hq3
    obtain ⟨q4, hq4⟩ : ∃ q9, q9 = q + 4 := ⟨_, rfl⟩
    have b4 : (q4 : Int) ≤ 30000000 := by omega
    have HQ4 := hide hq4
    obtain ⟨q5, hq5⟩ : ∃ q9, q9 = q + 5 := ⟨_, rfl⟩
    have b5 : (q5 : Int) ≤ 30000000 := by omega
    have HQ5 := hide hq5
    obtain ⟨q6, hq6⟩ : ∃ q9, q9 = q + 6 := ⟨_, rfl⟩
    have b6 : (q6 : Int) ≤ 30000000 := by omega
    have HQ6 := hide hq6
    obtain ⟨q7, hq7⟩ : ∃ q9, q9 = q + 7 := ⟨_, rfl⟩
    have b7 : (q7 : Int) ≤ 30000000 := by omega
    have HQ7 := hide hq7
    obtain ⟨q8, hq8⟩ : ∃ q9, q9 = q + 8 := ⟨_, rfl⟩
    have b8 : (q8 : Int) ≤ 30000000 := by omega
    have HQ8 := hide hq8
    have Y0 : Hid (ys[i * 9]? = some (.int .i64 (q : Int))) := by show _ = _; have h := unhide Y 0 _ rfl; exact h
    have Y1 : Hid (ys[i * 9 + 1]? = some (.int .i64 (q1 : Int))) := by show _ = _; have h := unhide Y 1 _ rfl; rw [hq1]; exact h
    have Y2 : Hid (ys[i * 9 + 2]? = some (.int .i64 (q2 : Int))) := by show _ = _; have h := unhide Y 2 _ rfl; rw [hq2]; exact h
    have Y3 : Hid (ys[i * 9 + 3]? = some (.int .i64 (q3 : Int))) := by show _ = _; have h := unhide Y 3 _ rfl; rw [hq3]; exact h
    have Y4 : Hid (ys[i * 9 + 4]? = some (.int .i64 (q4 : Int))) := by show _ = _; have h := unhide Y 4 _ rfl; rw [hq4]; exact h
    have Y5 : Hid (ys[i * 9 + 5]? = some (.int .i64 (q5 : Int))) := by show _ = _; have h := unhide Y 5 _ rfl; rw [hq5]; exact h
    have Y6 : Hid (ys[i * 9 + 6]? = some (.int .i64 (q6 : Int))) := by show _ = _; have h := unhide Y 6 _ rfl; rw [hq6]; exact h
    have Y7 : Hid (ys[i * 9 + 7]? = some (.bool ((q7 : Int) % 3 == 0))) := by show _ = _; have h := unhide Y 7 _ rfl; rw [hq7]; exact h
    clear Y hq1 hq2 hq3 hq4 hq5 hq6 hq7 hq8
    obtain ⟨w1, hw1⟩ : ∃ w9, w9 = w0.setCell ⟨g, i * 9, none⟩ (.int .i64 (q : Int)) := ⟨_, rfl⟩
    have O1 : Hid (w1.ownsRow lo 82 9 (.slice (some ⟨g, 0, none⟩) n cap) n (mix xs ys (i * 9 + 1))) := by
     have h := ((unhide O0).stored (i * 9) (.int .i64 (q : Int))).1
     rw [mix_set xs ys (i * 9) (.int .i64 (q : Int)) (by rw [unhide HX]; omega) (unhide Y0)] at h
     rw [hw1]; exact h
    have G1 : Hid (w0.grownBy w1 (some g)) := by rw [hw1]; exact World.grownBy.trans' (unhide G0) (stored_grown (g := g) (j := i * 9) (u := .int .i64 (q : Int)))
    obtain ⟨u0, hu0⟩ := cell_of (xs := xs) (j := i * 9) (by rw [unhide HX]; omega)
    have c0 : w0.cell? ⟨g, i * 9, none⟩ = some u0 := by have h := (unhide O0).cellAt (i * 9) (by omega); rw [mix_at _ _ _ (by rw [unhide HY]; omega), hu0] at h; exact h
    have f0 : w0.frozen? ⟨g, i * 9, none⟩ = false := (unhide O0).frozenAt (i * 9)
    have s0 : (q : Int) + 1 = (q1 : Int) := by have := unhide HQ1; omega
    have HW1 := hide hw1
    clear hu0 O0 G0 hw1 Y0
    go_upto_region 6 with fail
    rw [← unhide HW1]
    clear c0 f0 s0 HW1
    obtain ⟨w2, hw2⟩ : ∃ w9, w9 = w1.setCell ⟨g, i * 9 + 1, none⟩ (.int .i64 (q1 : Int)) := ⟨_, rfl⟩
    have O2 : Hid (w2.ownsRow lo 82 9 (.slice (some ⟨g, 0, none⟩) n cap) n (mix xs ys (i * 9 + 2))) := by
     have h := ((unhide O1).stored (i * 9 + 1) (.int .i64 (q1 : Int))).1
     rw [mix_set xs ys (i * 9 + 1) (.int .i64 (q1 : Int)) (by rw [unhide HX]; omega) (unhide Y1)] at h
     rw [hw2]; exact h
    have G2 : Hid (w0.grownBy w2 (some g)) := by rw [hw2]; exact World.grownBy.trans' (unhide G1) (stored_grown (g := g) (j := i * 9 + 1) (u := .int .i64 (q1 : Int)))
    obtain ⟨u1, hu1⟩ := cell_of (xs := xs) (j := i * 9 + 1) (by rw [unhide HX]; omega)
    have c1 : w1.cell? ⟨g, i * 9 + 1, none⟩ = some u1 := by have h := (unhide O1).cellAt (i * 9 + 1) (by omega); rw [mix_at _ _ _ (by rw [unhide HY]; omega), hu1] at h; exact h
    have f1 : w1.frozen? ⟨g, i * 9 + 1, none⟩ = false := (unhide O1).frozenAt (i * 9 + 1)
    have s1 : (q1 : Int) + 1 = (q2 : Int) := by have := unhide HQ2; have := unhide HQ1; omega
    have HW2 := hide hw2
    clear hu1 O1 G1 hw2 Y1
    go_upto_region 8 with fail
    rw [← unhide HW2]
    clear c1 f1 s1 HW2
    obtain ⟨w3, hw3⟩ : ∃ w9, w9 = w2.setCell ⟨g, i * 9 + 2, none⟩ (.int .i64 (q2 : Int)) := ⟨_, rfl⟩
    have O3 : Hid (w3.ownsRow lo 82 9 (.slice (some ⟨g, 0, none⟩) n cap) n (mix xs ys (i * 9 + 3))) := by
     have h := ((unhide O2).stored (i * 9 + 2) (.int .i64 (q2 : Int))).1
     rw [mix_set xs ys (i * 9 + 2) (.int .i64 (q2 : Int)) (by rw [unhide HX]; omega) (unhide Y2)] at h
     rw [hw3]; exact h
    have G3 : Hid (w0.grownBy w3 (some g)) := by rw [hw3]; exact World.grownBy.trans' (unhide G2) (stored_grown (g := g) (j := i * 9 + 2) (u := .int .i64 (q2 : Int)))
    obtain ⟨u2, hu2⟩ := cell_of (xs := xs) (j := i * 9 + 2) (by rw [unhide HX]; omega)
    have c2 : w2.cell? ⟨g, i * 9 + 2, none⟩ = some u2 := by have h := (unhide O2).cellAt (i * 9 + 2) (by omega); rw [mix_at _ _ _ (by rw [unhide HY]; omega), hu2] at h; exact h
    have f2 : w2.frozen? ⟨g, i * 9 + 2, none⟩ = false := (unhide O2).frozenAt (i * 9 + 2)
    have s2 : (q2 : Int) + 1 = (q3 : Int) := by have := unhide HQ3; have := unhide HQ2; omega
    have HW3 := hide hw3
    clear hu2 O2 G2 hw3 Y2
    go_upto_region 10 with fail
    rw [← unhide HW3]
    clear c2 f2 s2 HW3
    obtain ⟨w4, hw4⟩ : ∃ w9, w9 = w3.setCell ⟨g, i * 9 + 3, none⟩ (.int .i64 (q3 : Int)) := ⟨_, rfl⟩
    have O4 : Hid (w4.ownsRow lo 82 9 (.slice (some ⟨g, 0, none⟩) n cap) n (mix xs ys (i * 9 + 4))) := by
     have h := ((unhide O3).stored (i * 9 + 3) (.int .i64 (q3 : Int))).1
     rw [mix_set xs ys (i * 9 + 3) (.int .i64 (q3 : Int)) (by rw [unhide HX]; omega) (unhide Y3)] at h
     rw [hw4]; exact h
    have G4 : Hid (w0.grownBy w4 (some g)) := by rw [hw4]; exact World.grownBy.trans' (unhide G3) (stored_grown (g := g) (j := i * 9 + 3) (u := .int .i64 (q3 : Int)))
    obtain ⟨u3, hu3⟩ := cell_of (xs := xs) (j := i * 9 + 3) (by rw [unhide HX]; omega)
    have c3 : w3.cell? ⟨g, i * 9 + 3, none⟩ = some u3 := by have h := (unhide O3).cellAt (i * 9 + 3) (by omega); rw [mix_at _ _ _ (by rw [unhide HY]; omega), hu3] at h; exact h
    have f3 : w3.frozen? ⟨g, i * 9 + 3, none⟩ = false := (unhide O3).frozenAt (i * 9 + 3)
    have s3 : (q3 : Int) + 1 = (q4 : Int) := by have := unhide HQ4; have := unhide HQ3; omega
    have HW4 := hide hw4
    clear hu3 O3 G3 hw4 Y3
    go_upto_region 12 with fail
    rw [← unhide HW4]
    clear c3 f3 s3 HW4
    obtain ⟨w5, hw5⟩ : ∃ w9, w9 = w4.setCell ⟨g, i * 9 + 4, none⟩ (.int .i64 (q4 : Int)) := ⟨_, rfl⟩
    have O5 : Hid (w5.ownsRow lo 82 9 (.slice (some ⟨g, 0, none⟩) n cap) n (mix xs ys (i * 9 + 5))) := by
     have h := ((unhide O4).stored (i * 9 + 4) (.int .i64 (q4 : Int))).1
     rw [mix_set xs ys (i * 9 + 4) (.int .i64 (q4 : Int)) (by rw [unhide HX]; omega) (unhide Y4)] at h
     rw [hw5]; exact h
    have G5 : Hid (w0.grownBy w5 (some g)) := by rw [hw5]; exact World.grownBy.trans' (unhide G4) (stored_grown (g := g) (j := i * 9 + 4) (u := .int .i64 (q4 : Int)))
    obtain ⟨u4, hu4⟩ := cell_of (xs := xs) (j := i * 9 + 4) (by rw [unhide HX]; omega)
    have c4 : w4.cell? ⟨g, i * 9 + 4, none⟩ = some u4 := by have h := (unhide O4).cellAt (i * 9 + 4) (by omega); rw [mix_at _ _ _ (by rw [unhide HY]; omega), hu4] at h; exact h
    have f4 : w4.frozen? ⟨g, i * 9 + 4, none⟩ = false := (unhide O4).frozenAt (i * 9 + 4)
    have s4 : (q4 : Int) + 1 = (q5 : Int) := by have := unhide HQ5; have := unhide HQ4; omega
    have HW5 := hide hw5
    clear hu4 O4 G4 hw5 Y4
    go_upto_region 14 with fail
    rw [← unhide HW5]
    clear c4 f4 s4 HW5
    obtain ⟨w6, hw6⟩ : ∃ w9, w9 = w5.setCell ⟨g, i * 9 + 5, none⟩ (.int .i64 (q5 : Int)) := ⟨_, rfl⟩
    have O6 : Hid (w6.ownsRow lo 82 9 (.slice (some ⟨g, 0, none⟩) n cap) n (mix xs ys (i * 9 + 6))) := by
     have h := ((unhide O5).stored (i * 9 + 5) (.int .i64 (q5 : Int))).1
     rw [mix_set xs ys (i * 9 + 5) (.int .i64 (q5 : Int)) (by rw [unhide HX]; omega) (unhide Y5)] at h
     rw [hw6]; exact h
    have G6 : Hid (w0.grownBy w6 (some g)) := by rw [hw6]; exact World.grownBy.trans' (unhide G5) (stored_grown (g := g) (j := i * 9 + 5) (u := .int .i64 (q5 : Int)))
    obtain ⟨u5, hu5⟩ := cell_of (xs := xs) (j := i * 9 + 5) (by rw [unhide HX]; omega)
    have c5 : w5.cell? ⟨g, i * 9 + 5, none⟩ = some u5 := by have h := (unhide O5).cellAt (i * 9 + 5) (by omega); rw [mix_at _ _ _ (by rw [unhide HY]; omega), hu5] at h; exact h
    have f5 : w5.frozen? ⟨g, i * 9 + 5, none⟩ = false := (unhide O5).frozenAt (i * 9 + 5)
    have s5 : (q5 : Int) + 1 = (q6 : Int) := by have := unhide HQ6; have := unhide HQ5; omega
    have HW6 := hide hw6
    clear hu5 O5 G5 hw6 Y5
    go_upto_region 16 with fail
    rw [← unhide HW6]
    clear c5 f5 s5 HW6
    obtain ⟨w7, hw7⟩ : ∃ w9, w9 = w6.setCell ⟨g, i * 9 + 6, none⟩ (.int .i64 (q6 : Int)) := ⟨_, rfl⟩
    have O7 : Hid (w7.ownsRow lo 82 9 (.slice (some ⟨g, 0, none⟩) n cap) n (mix xs ys (i * 9 + 7))) := by
     have h := ((unhide O6).stored (i * 9 + 6) (.int .i64 (q6 : Int))).1
     rw [mix_set xs ys (i * 9 + 6) (.int .i64 (q6 : Int)) (by rw [unhide HX]; omega) (unhide Y6)] at h
     rw [hw7]; exact h
    have G7 : Hid (w0.grownBy w7 (some g)) := by rw [hw7]; exact World.grownBy.trans' (unhide G6) (stored_grown (g := g) (j := i * 9 + 6) (u := .int .i64 (q6 : Int)))
    obtain ⟨u6, hu6⟩ := cell_of (xs := xs) (j := i * 9 + 6) (by rw [unhide HX]; omega)
    have c6 : w6.cell? ⟨g, i * 9 + 6, none⟩ = some u6 := by have h := (unhide O6).cellAt (i * 9 + 6) (by omega); rw [mix_at _ _ _ (by rw [unhide HY]; omega), hu6] at h; exact h
    have f6 : w6.frozen? ⟨g, i * 9 + 6, none⟩ = false := (unhide O6).frozenAt (i * 9 + 6)
    have s6 : (q6 : Int) + 1 = (q7 : Int) := by have := unhide HQ7; have := unhide HQ6; omega
    have HW7 := hide hw7
    clear hu6 O6 G6 hw7 Y6
    go_upto_region 18 with fail
    rw [← unhide HW7]
    clear c6 f6 s6 HW7
    obtain ⟨w8, hw8⟩ : ∃ w9, w9 = w7.setCell ⟨g, i * 9 + 7, none⟩ (.bool ((q7 : Int) % 3 == 0)) := ⟨_, rfl⟩
    have O8 : Hid (w8.ownsRow lo 82 9 (.slice (some ⟨g, 0, none⟩) n cap) n (mix xs ys (i * 9 + 8))) := by
     have h := ((unhide O7).stored (i * 9 + 7) (.bool ((q7 : Int) % 3 == 0))).1
     rw [mix_set xs ys (i * 9 + 7) (.bool ((q7 : Int) % 3 == 0)) (by rw [unhide HX]; omega) (unhide Y7)] at h
     rw [hw8]; exact h
    have G8 : Hid (w0.grownBy w8 (some g)) := by rw [hw8]; exact World.grownBy.trans' (unhide G7) (stored_grown (g := g) (j := i * 9 + 7) (u := .bool ((q7 : Int) % 3 == 0)))
    obtain ⟨u7, hu7⟩ := cell_of (xs := xs) (j := i * 9 + 7) (by rw [unhide HX]; omega)
    have c7 : w7.cell? ⟨g, i * 9 + 7, none⟩ = some u7 := by have h := (unhide O7).cellAt (i * 9 + 7) (by omega); rw [mix_at _ _ _ (by rw [unhide HY]; omega), hu7] at h; exact h
    have f7 : w7.frozen? ⟨g, i * 9 + 7, none⟩ = false := (unhide O7).frozenAt (i * 9 + 7)
    have s7 : (q7 : Int) + 1 = (q8 : Int) := by have := unhide HQ8; have := unhide HQ7; omega
    have HW8 := hide hw8
    clear hu7 O7 G7 hw8 Y7
    go_upto_region 20 with fail
    rw [← unhide HW8]
    clear c7 f7 s7 HW8
    have hcl : w8.cell? ⟨g, i * 9 + 8, none⟩ = some (.slice ae ne ce) := by have h := (unhide O8).cellAt (i * 9 + 8) (by omega); rw [mix_at _ _ _ (by rw [unhide HY]; omega), unhide HSL, unhide HES] at h; exact h
    have OE8 := hide (own_grown (unhide OEi) (unhide G8) (fun j hj e => unhide OFi j hj (Option.some.inj e).symm))
    go_wp2_with fail
    refine (markEnt (.slice ae ne ce) ne lo w8.heap.size q8 _ (by have := unhide HQ8; omega) (by have := unhide HQ8; omega) _ (heldZ_of (unhide OE8))).mono ?_
    rintro e w9 ⟨rfl, hh9, hg9⟩
    have O9 : Hid (w9.ownsRow lo 82 9 (.slice (some ⟨g, 0, none⟩) n cap) n (mix xs ys ((i + 1) * 9))) := by
     have h := own_grown (unhide O8) hg9 (fun j hj e => unhide OFi j e (Option.some.inj hj).symm)
     rw [mix_same xs ys (i * 9 + 8) (by rw [unhide HX]; omega) (by rw [unhide HSL, unhide HSY]), show i * 9 + 8 + 1 = (i + 1) * 9 from by omega] at h
     exact h
    have OE9 : Hid (∀ t (ht : t < L.length), w9.ownsRow lo 103 2 (sl L[t]) L[t].1.es.length (if t < i + 1 then onesEnt (kAt k0 L t + 8) L[t].1.es.length else cE L[t].1.es)) := fun t ht => by
     by_cases hti : t = i
     ·subst hti
      rw [if_pos (by omega), unhide HES, unhide HNE, show kAt k0 L t + 8 = q8 from by have := unhide HQ8; have := unhide HQI; omega]
      exact hh9.own
     ·have hne : ∀ j, (sl L[t]).ownBlock = some j → (sl L[i]).ownBlock ≠ some j := fun j hj e => by
       have hp := List.pairwise_iff_getElem.1 (unhide AP)
       rcases Nat.lt_or_gt_of_ne hti with h | h
       ·exact hp t i ht hil h j hj e
       ·exact hp i t hil ht h j e hj
      have h1 := own_grown (unhide OE t ht) (unhide G8) (fun j hj e => unhide OF _ (List.getElem_mem ht) j hj e)
      have h2 := own_grown h1 hg9 (fun j hj e => hne j hj (by rw [unhide HES]; exact e))
      by_cases h3 : t < i
      ·rw [if_pos h3] at h2; rw [if_pos (by omega)]; exact h2
      ·rw [if_neg h3] at h2; rw [if_neg (by omega)]; exact h2
    have U9 : Hid (Outs lo hi w w9) := ((unhide HU).trans (Outs.of_grown (unhide G8) (fun k hk => by have := unhide GL; injection hk with hk; omega))).trans (Outs.of_grown hg9 (fun k hk => unhide LT i hil k (by rw [unhide HES]; exact hk)))
    have hq9 : q8 + ne * 2 = kAt k0 L (i + 1) := by rw [kAt_succ k0 L i hil, unhide HNE, ← unhide HQI, unhide HQ8]
    have HQ9 := hide hq9
    clear hh9 hg9 O8 OE8 G8 HU OE OEi hcl hq9
    go_wp2_with fail
    go_roundw
    case rel => exact ⟨i + 1, q8 + ne * 2, by omega, HQ9, by go_num, by go_num, O9, OE9, U9⟩
    case measure => simp [intOf]; omega
   ·obtain rfl : i = n := by omega
    have hq : (q : Int) = Q := by rw [unhide HQ, unhide HQI]
    have FIN : Hid (MOwn wr lo (.slice (some ⟨g, 0, none⟩) i cap) (markL k0 L)) := by
     have hel : ∀ p ∈ markL k0 L, ∃ t, ∃ ht : t < L.length, p = mkMg (kAt k0 L t) L[t] := fun p hp => by
      obtain ⟨t, ht, e⟩ := List.getElem_of_mem hp
      have ht2 : t < L.length := by rw [markL_len] at ht; exact ht
      exact ⟨t, ht2, e.symm.trans (markL_at k0 L t ht2)⟩
     refine ⟨?_, ?_, ?_, ?_⟩
     ·have h := unhide O0
      rw [mix_all _ _ _ (by rw [unhide HX]; exact Nat.le_refl _) (by rw [unhide HY]; exact Nat.le_refl _)] at h
      rw [markL_len, unhide HN, ← unhide HYS]; exact h
     ·intro p hp
      obtain ⟨t, ht, rfl⟩ := hel p hp
      have h := unhide OE t ht
      rw [if_pos (by rw [← unhide HN]; exact ht)] at h
      rw [sl_mk]
      show World.ownsRow _ _ _ _ _ (mkEs _ _).length (cE (mkEs _ _))
      rw [mkEs_len, mkEs_ones]; exact h
     ·refine List.pairwise_iff_getElem.2 (fun a b ha hb hab j => ?_)
      have ha2 : a < L.length := by rw [markL_len] at ha; exact ha
      have hb2 : b < L.length := by rw [markL_len] at hb; exact hb
      rw [markL_at k0 L a ha2, markL_at k0 L b hb2, sl_mk, sl_mk]
      exact List.pairwise_iff_getElem.1 (unhide AP) a b ha2 hb2 hab j
     ·intro p hp j hj
      obtain ⟨t, ht, rfl⟩ := hel p hp
      rw [sl_mk] at hj
      have h := unhide OF _ (List.getElem_mem ht) j hj
      exact h
    clear O0 OE
    go_wp2_with fail
    go_ret
    exact ⟨ret_int hq, unhide FIN, unhide HU⟩
end Go.Proofs.YtfogppnijdjakaaGreatDoor

/- A copied cluster marked. -/
namespace Go.Proofs.YtfogppnijdjakaaGreatDoor
open Go.ChangeShapes Go.WideShapes Go.ChangeAt Go.RowKit
set_option linter.unusedVariables false
theorem own_raise {w : World} {lo m : Nat} {e : TypeId} {z : Nat} {v : Value} {n : Nat} {xs : List Value} (h : w.ownsRow lo e z v n xs) (hm : ∀ j, v.ownBlock = some j → m ≤ j) : w.ownsRow m e z v n xs := by
 obtain ⟨hl, h2⟩ := h
 refine ⟨hl, ?_⟩
 rcases h2 with h2 | ⟨g, cap, cur, e, hbg, hrest⟩
 ·exact .inl h2
 ·exact .inr ⟨g, cap, cur, e, hm g (by rw [e]; rfl), hrest⟩
theorem FOwn.raise {w : World} {lo m : Nat} {F : List RD} (h : FOwn w lo F) (hm : ∀ r ∈ F, ∀ j, r.v.ownBlock = some j → m ≤ j) : FOwn w m F := ⟨fun r hr => own_raise (h.own r hr) (hm r hr), h.apart⟩
theorem MOwn.of_f {w : World} {lo : Nat} {v : Value} {L : List MgA} (h : FOwn w lo ([⟨82, 9, v, L.length, L.flatMap cM⟩] ++ L.flatMap mrows)) : MOwn w lo v L := by
 have hr := h.right
 have hp := List.pairwise_append.1 h.apart
 have key : ∀ (L : List MgA), (L.flatMap mrows).Pairwise (fun r s => ∀ j, r.v.ownBlock = some j → s.v.ownBlock ≠ some j) → L.Pairwise (fun p q => ∀ j, (sl p).ownBlock = some j → (sl q).ownBlock ≠ some j) := by
  intro L hL
  induction L with
  | nil => exact List.Pairwise.nil
  | cons p L ih =>
   rw [List.flatMap_cons] at hL
   have h2 := List.pairwise_append.1 hL
   refine List.pairwise_cons.2 ⟨fun q hq j hj => ?_, ih h2.2.1⟩
   exact h2.2.2 _ (List.mem_singleton.2 rfl) ⟨103, 2, sl q, q.1.es.length, cE q.1.es⟩ (List.mem_flatMap.2 ⟨q, hq, List.mem_singleton.2 rfl⟩) j hj
 refine ⟨h.left.own _ (List.mem_singleton.2 rfl), fun p hp' => hr.own ⟨103, 2, sl p, p.1.es.length, cE p.1.es⟩ (List.mem_flatMap.2 ⟨p, hp', List.mem_singleton.2 rfl⟩), key L hr.apart, fun p hp' j hj e => ?_⟩
 exact hp.2.2 _ (List.mem_singleton.2 rfl) ⟨103, 2, sl p, p.1.es.length, cE p.1.es⟩ (List.mem_flatMap.2 ⟨p, hp', List.mem_singleton.2 rfl⟩) j e hj
theorem kAtN_bulk (L : List NdA) : ∀ k, kAtN k L L.length ≤ k + 9 * L.length + 2 * (L.map ndW).sum := by
 induction L with
 | nil => intro k; simp [kAtN]
 | cons p L ih =>
  intro k
  have h := ih (kN k p)
  simp only [List.length_cons, kAtN, List.map_cons, List.sum_cons]
  have h2 : kN k p ≤ k + 9 + 2 * ndW p := by unfold kN ndW; omega
  omega
theorem kAt_bulk (L : List MgA) : ∀ k, kAt k L L.length ≤ k + 8 * L.length + 2 * (L.map mgW).sum := by
 induction L with
 | nil => intro k; simp [kAt]
 | cons p L ih =>
  intro k
  have h := ih (k + 8 + p.1.es.length * 2)
  simp only [List.length_cons, kAt, List.map_cons, List.sum_cons]
  have h2 : mgW p = p.1.es.length := rfl
  omega
theorem bulk_same {c d : Clu} (h : c.same d) : c.bulk = d.bulk := by
 obtain ⟨h1, h2, h3, h4⟩ := h
 have l1 : c.nds.length = d.nds.length := by have e := congrArg List.length h1; simpa using e
 have l3 : c.wire.length = d.wire.length := by have e := congrArg List.length h3; simpa using e
 have s1 : c.nds.map ndW = d.nds.map ndW := by
  have e := congrArg (List.map fun f : Nf => f.l.length + f.lv.length + f.lx.length + f.lg.length) h1
  rw [List.map_map, List.map_map] at e
  exact e
 have s3 : c.wire.map mgW = d.wire.map mgW := by
  have e := congrArg (List.map fun f : Mg => f.es.length) h3
  rw [List.map_map, List.map_map] at e
  exact e
 unfold Clu.bulk
 rw [h2, h4, l1, l3, s1, s3]
theorem Outs.wide {lo hi lo' hi' : Nat} {w w' : World} (h : Outs lo hi w w') (hl : lo' ≤ lo) (hh : hi ≤ hi') : Outs lo' hi' w w' := ⟨h.os, h.tape, h.output, h.size, fun k hk hd => h.block k hk (by omega)⟩
set_option maxHeartbeats 4000000 in
set_option maxRecDepth 100000 in
theorem markClu (nv sv wv dv : Value) (c : Clu) (HB : Hid (c.bulk ≤ 1048576)) (lo m1 m2 m3 hi : Nat) (HS : Hid (c.sep nv sv wv dv m1 m2 m3)) (HM : Hid (lo ≤ m1 ∧ m1 ≤ m2 ∧ m2 ≤ m3 ∧ m3 ≤ hi)) (w : World) (h : FOwn w lo (c.rows nv sv wv dv)) (hhi : ∀ r ∈ c.rows nv sv wv dv, ∀ j, r.v.ownBlock = some j → j < hi) (hiw : hi ≤ w.heap.size) :
  Calls Tryz.prog 10 #[.agg #[nv, sv, wv, dv], .int .i64 1] w fun e w' => ∃ k : Nat, e = .returned (.int .i64 (k : Int)) ∧ Outs lo hi w w' := by
 obtain ⟨ad, kd, rfl, -⟩ := (CluR.of_own h).d
 have hN1 := kAtN_bulk c.nds 1
 obtain ⟨k1, hk1⟩ : ∃ k, k = kAtN 1 c.nds c.nds.length := ⟨_, rfl⟩
 obtain ⟨k2, hk2⟩ : ∃ k, k = k1 + c.sts.length * 2 := ⟨_, rfl⟩
 obtain ⟨k3, hk3⟩ : ∃ k, k = kAt k2 c.wire c.wire.length := ⟨_, rfl⟩
 obtain ⟨k4, hk4⟩ : ∃ k, k = k3 + c.done.length := ⟨_, rfl⟩
 have hN2 := kAt_bulk c.wire k2
 have hbk := unhide HB
 unfold Clu.bulk at hbk
 have hp1 : 1 ≤ k1 := by rw [hk1]; exact kAtN_pos 1 c.nds c.nds.length (Nat.le_refl _)
 have hp3 : k2 ≤ k3 := by
  rw [hk3]
  have := kAt_le k2 c.wire 0 c.wire.length (Nat.zero_le _) (Nat.le_refl _)
  have h0 : kAt k2 c.wire 0 = k2 := by cases c.wire <;> rfl
  rw [h0] at this; exact this
 rw [← hk1] at hN1
 rw [← hk3] at hN2
 have b1 : k1 ≤ 12000000 := by omega
 have b3 : k3 ≤ 12000000 := by omega
 have n1 : c.nds.length ≤ 1048576 := by omega
 have n3 : c.wire.length ≤ 1048576 := by omega
 have b2 : k1 + c.sts.length * 2 ≤ 30000000 := by omega
 have n4 : c.done.length ≤ 20000000 := by omega
 have E1 : Hid ((k1 : Int) = ((kAtN 1 c.nds c.nds.length : Nat) : Int)) := by show _ = _; rw [hk1]
 have E3 : Hid ((k3 : Int) = ((kAt k2 c.wire c.wire.length : Nat) : Int)) := by show _ = _; rw [hk3]
 have T1 : Hid (kAtN 1 c.nds c.nds.length ≤ 30000000) := by show _ ≤ _; rw [← hk1]; omega
 have T3 : Hid (kAt k2 c.wire c.wire.length ≤ 30000000) := by show _ ≤ _; rw [← hk3]; omega
 have K2 := hide hk2
 have P2 : Hid (0 < k2) := by show _ < _; omega
 have P3 : 0 < k3 := by omega
 have K4 := hide hk4
 clear hN1 hN2 hbk hk1 hk2 hk3 hk4 hp3
 have v0 := Go.Joins.below_alloc1 w (.cells #[nv, sv, wv, .slice ad c.done.length kd] 35)
 have C0 := hide (BF.new w #[nv, sv, wv, .slice ad c.done.length kd] 35)
 have V0 := hide (Outs.of_below (lo := lo) (hi := hi) v0)
 have HH := hide hhi
 have hf := h.below v0
 unfold Clu.rows at hf hhi
 obtain ⟨s1, s2, s3, s4⟩ := unhide HS
 obtain ⟨q0, q1, q2, q3⟩ := unhide HM
 have hz0 := v0.size
 have F1 := hide hf.left.left.left
 have F2 := hide (own_raise (hf.left.left.right.own _ (List.mem_singleton.2 rfl)) (fun j hj => (s2 _ (List.mem_singleton.2 rfl) j hj).1))
 have F3 := hide (hf.left.right.raise (fun r hr j hj => (s3 r hr j hj).1))
 have F4 := hide (own_raise (hf.right.own _ (List.mem_singleton.2 rfl)) (fun j hj => s4 _ (List.mem_singleton.2 rfl) j hj))
 have D4 := hide (fun j hj => hhi _ (List.mem_append_right _ (List.mem_singleton.2 rfl)) j hj)
 have S2 : Hid (HeldZ 2 (w.alloc (.cells #[nv, sv, wv, .slice ad c.done.length kd] 35)) m1 m2 74 sv c.sts.length (c.sts.flatMap cSt)) := ⟨unhide F2, fun j hj => (s2 _ (List.mem_singleton.2 rfl) j hj).2, by omega⟩
 have S4 : Hid (Held (w.alloc (.cells #[nv, sv, wv, .slice ad c.done.length kd] 35)) m3 hi 9 (.slice ad c.done.length kd) c.done.length (cS c.done)) := ⟨unhide F4, unhide D4, by omega⟩
 have R1 := hide s1
 have R2 := hide (fun j hj => (s2 _ (List.mem_singleton.2 rfl) j hj))
 have R3 := hide s3
 clear hf hhi s1 s2 s3 s4 F2 F4 v0 hz0 h HH HS
 have cc := (unhide C0).S
 go_enter Tryz.func10, Tryz.ntmps10
 go_wp2_with fail
 refine (markNodes nv c.nds.length lo 1 n1 c.nds (hide rfl) (k1 : Int) E1 (hide (by decide)) T1 _ (unhide F1) m1 (unhide R1)).mono ?_
 rintro e w1 ⟨rfl, -, ho⟩
 have C1 := hide ((unhide C0).outs ho (.inr (by omega)))
 have V1 := hide ((unhide V0).trans (ho.wide (Nat.le_refl _) (by omega)))
 have S21 := hide ((unhide S2).outs ho (.inr (Nat.le_refl _)))
 have F31 := hide ((unhide F3).outs ho (.inl q1))
 have S41 := hide ((unhide S4).outs ho (.inr (by omega)))
 clear ho cc C0 V0 S2 F3 S4 F1
 have cc := (unhide C1).S
 go_wp2_with fail
 refine (markSto sv c.sts.length m1 m2 k1 _ (by omega) b2 _ (unhide S21)).mono ?_
 rintro e w2 ⟨rfl, -, hg⟩
 have ho : Outs m1 m2 w1 w2 := Outs.of_grown hg (unhide R2)
 have C2 := hide ((unhide C1).outs ho (.inr (by omega)))
 have V2 := hide ((unhide V1).trans (ho.wide q0 (by omega)))
 have F32 := hide ((unhide F31).outs ho (.inl (Nat.le_refl _)))
 have S42 := hide ((unhide S41).outs ho (.inr q2))
 rw [← unhide K2]
 clear ho hg cc C1 V1 S21 F31 S41
 have cc := (unhide C2).S
 go_wp2_with fail
 refine (markMsgs wv c.wire.length m2 k2 n3 c.wire (hide rfl) (k3 : Int) E3 P2 T3 _ (MOwn.of_f (unhide F32)) m3 (fun j hj => ((unhide R3) _ (List.mem_append_left _ (List.mem_singleton.2 rfl)) j hj).2) (fun p hp j hj => ((unhide R3) ⟨103, 2, sl p, p.1.es.length, cE p.1.es⟩ (List.mem_append_right _ (List.mem_flatMap.2 ⟨p, hp, List.mem_singleton.2 rfl⟩)) j hj).2)).mono ?_
 rintro e w3 ⟨rfl, -, ho⟩
 have C3 := hide ((unhide C2).outs ho (.inr (by omega)))
 have V3 := hide ((unhide V2).trans (ho.wide (by omega) q3))
 have S43 := hide ((unhide S42).outs ho (.inr (Nat.le_refl _)))
 clear ho cc C2 V2 F32 S42
 have cc := (unhide C3).S
 go_wp2_with fail
 refine (markStrN (.slice ad c.done.length kd) c.done.length m3 hi k3 k4 K4 _ n4 P3 (by omega) _ (unhide S43)).mono ?_
 rintro e w4 ⟨rfl, -, hg⟩
 have ho : Outs m3 hi w3 w4 := Outs.of_grown hg (fun j hj => (unhide S43).blk j hj)
 have V4 := hide ((unhide V3).trans (ho.wide (by omega) (Nat.le_refl _)))
 clear ho hg cc C3 V3 S43
 go_wp2_with fail
 go_ret
 exact ⟨k4, rfl, unhide V4⟩
end Go.Proofs.YtfogppnijdjakaaGreatDoor

/- Rows of texts: what the laws' own helper tells of a marked row. -/
namespace Go.Proofs.YtfogppnijdjakaaGreatDoor
open Go.ChangeShapes Go.WideShapes Go.ChangeAt Go.RowKit
set_option maxHeartbeats 400000 in
set_option maxRecDepth 100000 in
theorem heldString (v : Value) (n lo hi k0 : Nat) (hn : n ≤ 20000000) (h1 : 0 < k0) (hk0 : k0 ≤ 20000000) (w : World) (h : Held w lo hi 9 v n ((List.range n).map fun j => .string (mtS (k0 + j)))) :
  Calls Tryz.prog 12 #[v, .int .i64 (k0 : Int)] w fun e w' => e = .returned (.int .i64 ((k0 + n : Nat) : Int)) ∧ Below w.heap.size w w' := by
 obtain ⟨a, cap, rfl, hr⟩ := h.row
 have HR := hide hr
 clear hr h
 go_enter Tryz.func12, Tryz.ntmps12
 go_wp2_with fail
 go_loopw [1, 5] (fun kk i wr => ∃ j q : Nat, j ≤ n ∧ Hid (q = k0 + j) ∧ i = .int .i64 j ∧ kk = .int .i64 (q : Int) ∧ Hid (Below w.heap.size w wr)) (fun _ i _ => n - (intOf i).toNat)
 case atStart => exact ⟨0, k0, by omega, rfl, rfl, rfl, Below.refl _ _⟩
 case round =>
  obtain ⟨j, q, hj, HQ, rfl, rfl, HB⟩ := hrel
  have hq := unhide HQ
  have hq2 : q ≤ 40000000 := by omega
  by_cases hlt : j < n
  ·obtain ⟨b, off, ha, hblt, hc⟩ := (unhide HR).at (by simp; omega)
   subst ha
   have hc1 : wr.cell? ⟨b, off + j, none⟩ = some (.string (mtS q)) := by rw [hq]; exact ((unhide HB).cell (p := ⟨b, off + j, none⟩) hblt).trans (hc j _ (by rw [List.getElem?_map, List.getElem?_range hlt]; rfl))
   have hlt' : (j : Int) < (n : Int) := by omega
   have hlt0 : (0 : Int) ≤ (j : Int) := by omega
   have hq1 : 0 < q := by omega
   have hbw : b < wr.heap.size := Nat.lt_of_lt_of_le hblt (unhide HB).size
   obtain ⟨x, hx⟩ : ∃ x, x = mtS q := ⟨_, rfl⟩
   rw [← hx] at hc1
   have HX := hide hx
   have hne : (x.toList != x.toList) = false := by simp
   clear hq hc HR hx
   go_wp2_with fail
   go_region_held3 (fun w' => w'.cell? ⟨b, off + j, none⟩ = some (.string x)) (first | exact hc1 | exact hc2) (first | (go_at_call 31; refine (markText27 q hq1 hq2 _).mono ?_; rintro e w2 ⟨rfl, hb2⟩; rw [← unhide HX]; have hc2 : w2.cell? ⟨b, off + j, none⟩ = some (.string x) := ((below_undrew hb2).cell (p := ⟨b, off + j, none⟩) hbw).trans hc1; have HB2 := hide ((unhide HB).trans ((below_undrew hb2).mono (unhide HB).size)); clear hb2))
   all_goals
    go_wp2_with fail
    go_roundw
    case rel => exact ⟨j + 1, q + 1, by omega, by show q + 1 = k0 + (j + 1); have := unhide HQ; omega, by go_num, by go_num, HB2⟩
    case measure => simp [intOf]; omega
  ·go_wp2_with fail
   go_ret
   exact ⟨ret_int (by omega), unhide HB⟩
theorem heldString1 (v : Value) (n lo hi : Nat) (q : Int) (hq : q = ((1 + n : Nat) : Int)) (hn : n ≤ 20000000) (w : World) (h : Held w lo hi 9 v n (onesString n)) :
  Calls Tryz.prog 12 #[v, .int .i64 1] w fun e w' => e = .returned (.int .i64 q) ∧ Below w.heap.size w w' := by
 subst hq; exact heldString v n lo hi 1 hn (by decide) (by decide) w h
end Go.Proofs.YtfogppnijdjakaaGreatDoor

/- All that the walk of FnExactLongestDone names. -/
