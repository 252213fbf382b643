/- Rows of messages in the law's own words: two that are alike, their marks, these found again. -/
import Derived.Test.YtjlajpnhcphngaaZG15
import Derived.Test.YtjlajpnhcphngaaZMsgL
import Derived.Deep.Cut
namespace Go.Proofs.Ytjlajpnhcphngaa
open Go.ChangeShapes Go.WideShapes Go.ChangeAt Go.RowKit
set_option linter.unusedVariables false
set_option maxHeartbeats 4000000 in
set_option maxRecDepth 100000 in
theorem eqMsgs (v1 v2 : Value) (n : Nat) (hn : n ≤ 1048576) (L1 L2 : List MgA) (HN1 : Hid (L1.length = n)) (HN2 : Hid (L2.length = n)) (HE : Hid (L1.map (·.1) = L2.map (·.1))) (HLE : Hid (∀ p ∈ L1, p.1.es.length ≤ 1048576)) (w : World) (h1 : MRow w v1 L1) (h2 : MRow w v2 L2) :
    Calls Try.prog 9 #[v1, v2] w fun e w' => e = .returned (.bool true) ∧ Below w.heap.size w w' := by
  obtain ⟨⟨a, cap, rfl, hr1⟩, he1⟩ := h1
  obtain ⟨⟨c, cap2, rfl, hr2⟩, he2⟩ := h2
  have HR1 := hide hr1
  have HR2 := hide hr2
  have HE1 := hide he1
  have HE2 := hide he2
  rw [unhide HN1, unhide HN2]
  have nn : ((n : Int) != (n : Int)) = false := by simp
  clear hr1 hr2 he1 he2
  go_enter Try.func9, Try.ntmps9
  go_wp2_with fail
  go_loopw [5] (fun i wr => ∃ k : Nat, k ≤ n ∧ i = .int .i64 k ∧ Hid (Below w.heap.size w wr)) (fun i _ => n - (intOf i).toNat)
  case atStart => exact ⟨0, by omega, rfl, Below.refl _ _⟩
  case round =>
    obtain ⟨k, hk, rfl, HB⟩ := hrel
    by_cases hlt : k < n
    · have hk1 : k < L1.length := by rw [unhide HN1]; exact hlt
      have hk2 : k < L2.length := by rw [unhide HN2]; exact hlt
      have he : L1[k].1 = L2[k].1 := by
        have e := congrArg (fun l => l[k]?) (unhide HE)
        simp only [List.getElem?_map, List.getElem?_eq_getElem hk1, List.getElem?_eq_getElem hk2] at e
        exact Option.some.inj e
      obtain ⟨b, off, rfl, hblt, hc1⟩ := (unhide HR1).at (by rw [cMs_len]; omega)
      obtain ⟨d, og, rfl, hdlt, hc2⟩ := (unhide HR2).at (by rw [cMs_len]; omega)
      have m1 := (row_msg hc1 k hk1).below (unhide HB) hblt
      have m2 := (row_msg hc2 k hk2).below (unhide HB) hdlt
      have r1 := (unhide HE1 _ (List.getElem_mem hk1)).below (unhide HB)
      have r2 := (unhide HE2 _ (List.getElem_mem hk2)).below (unhide HB)
      have hne := unhide HLE _ (List.getElem_mem hk1)
      generalize L1[k] = p1 at he m1 r1 hne
      generalize L2[k] = p2 at he m2 r2
      obtain ⟨⟨kd, fr, dst, tm, ix, lt, cm, ok, es⟩, a1, c1⟩ := p1
      obtain ⟨g2, a2, c2⟩ := p2
      simp only at he
      subst he
      obtain ⟨ne, hnn⟩ : ∃ ne, es.length = ne := ⟨_, rfl⟩
      unfold M9 at m1 m2
      simp only [hnn] at m1 m2 hne
      have HNE := hide hnn
      have E1 := hide r1
      have E2 := hide r2
      have hblt := Nat.lt_of_lt_of_le hblt (unhide HB).size
      have hdlt := Nat.lt_of_lt_of_le hdlt (unhide HB).size
      have i1 : (k : Int) < (n : Int) := by omega
      have i0 : (0 : Int) ≤ (k : Int) := by omega
      have K0 := And.intro m1 m2
      have TD : Hid (Below wr.heap.size wr wr.drew) := (Below.refl _ _).drew
      have KD : Hid (M9 wr b (off + k * 9) (⟨kd, fr, dst, tm, ix, lt, cm, ok, es⟩, a1, c1) ∧ M9 wr d (og + k * 9) (⟨kd, fr, dst, tm, ix, lt, cm, ok, es⟩, a2, c2)) := by
        show _ ∧ _; unfold M9; simp only [hnn]; exact ⟨m1, m2⟩
      clear hc1 hc2 hk1 hk2 hnn r1 r2 m1 m2
      go_wp2_with fail
      refine wp_region_held_drew (S := fun w' => (w'.cell? ⟨b, off + k * 9, none⟩ = some (.int .i64 kd) ∧ w'.cell? ⟨b, off + k * 9 + 1, none⟩ = some (.int .i64 fr) ∧ w'.cell? ⟨b, off + k * 9 + 2, none⟩ = some (.int .i64 dst) ∧ w'.cell? ⟨b, off + k * 9 + 3, none⟩ = some (.int .i64 tm) ∧ w'.cell? ⟨b, off + k * 9 + 4, none⟩ = some (.int .i64 ix) ∧ w'.cell? ⟨b, off + k * 9 + 5, none⟩ = some (.int .i64 lt) ∧ w'.cell? ⟨b, off + k * 9 + 6, none⟩ = some (.int .i64 cm) ∧ w'.cell? ⟨b, off + k * 9 + 7, none⟩ = some (.bool ok) ∧ w'.cell? ⟨b, off + k * 9 + 8, none⟩ = some (.slice a1 ne c1)) ∧ (w'.cell? ⟨d, og + k * 9, none⟩ = some (.int .i64 kd) ∧ w'.cell? ⟨d, og + k * 9 + 1, none⟩ = some (.int .i64 fr) ∧ w'.cell? ⟨d, og + k * 9 + 2, none⟩ = some (.int .i64 dst) ∧ w'.cell? ⟨d, og + k * 9 + 3, none⟩ = some (.int .i64 tm) ∧ w'.cell? ⟨d, og + k * 9 + 4, none⟩ = some (.int .i64 ix) ∧ w'.cell? ⟨d, og + k * 9 + 5, none⟩ = some (.int .i64 lt) ∧ w'.cell? ⟨d, og + k * 9 + 6, none⟩ = some (.int .i64 cm) ∧ w'.cell? ⟨d, og + k * 9 + 7, none⟩ = some (.bool ok) ∧ w'.cell? ⟨d, og + k * 9 + 8, none⟩ = some (.slice a2 ne c2))) (by kernel_rfl) K0 (fun hHeld => ?_)
      generalize wr.drew = wd at TD KD hHeld ⊢
      refine wtk (i := 0) (oi := { dst := some 17, op := .move (.tmp 0), type := 30, pos := "exact.go:1902", after := #[], guard := none }) (v := ?_) rfl (Or.inl ⟨by rfl, ?_⟩) (by assumption) ?_
      rotate_left 1
      · (intro w' hSw; (try dsimp only at hSw); go_simp; try with_reducible rfl)
      try simp only [Act.put, qqA, qqB, qqC]
      refine wtk (i := 1) (oi := { dst := some 18, op := .move (.tmp 5), type := 3, pos := "exact.go:1902", after := #[], guard := none }) (v := ?_) rfl (Or.inl ⟨by rfl, ?_⟩) (by assumption) ?_
      rotate_left 1
      · (intro w' hSw; (try dsimp only at hSw); go_simp; try with_reducible rfl)
      try simp only [Act.put, qqA, qqB, qqC]
      refine wtk (i := 2) (oi := { dst := some 19, op := .indexAddr 30 (.tmp 17) (.tmp 18), type := 0, pos := "exact.go:1902", after := #[{ on := 0, ground := .data }, { on := 1, ground := .data }], guard := none }) (v := ?_) rfl (Or.inl ⟨by rfl, ?_⟩) (by assumption) ?_
      rotate_left 1
      · (intro w' hSw; (try dsimp only at hSw); go_simp; try with_reducible rfl)
      try simp only [Act.put, qqA, qqB, qqC]
      refine wtk (i := 3) (oi := { dst := some 20, op := .load 54 (.tmp 19), type := 54, pos := "exact.go:1902", after := #[{ on := 2, ground := .data }], guard := none }) (v := ?_) rfl (Or.inl ⟨by rfl, ?_⟩) (by assumption) ?_
      rotate_left 1
      · (intro w' hSw; (try dsimp only at hSw); go_simp; try with_reducible rfl)
      try simp only [Act.put, qqA, qqB, qqC]
      refine wtk (i := 4) (oi := { dst := some 21, op := .move (.tmp 1), type := 30, pos := "exact.go:1902", after := #[], guard := none }) (v := ?_) rfl (Or.inl ⟨by rfl, ?_⟩) (by assumption) ?_
      rotate_left 1
      · (intro w' hSw; (try dsimp only at hSw); go_simp; try with_reducible rfl)
      try simp only [Act.put, qqA, qqB, qqC]
      refine wtk (i := 5) (oi := { dst := some 22, op := .move (.tmp 5), type := 3, pos := "exact.go:1902", after := #[], guard := none }) (v := ?_) rfl (Or.inl ⟨by rfl, ?_⟩) (by assumption) ?_
      rotate_left 1
      · (intro w' hSw; (try dsimp only at hSw); go_simp; try with_reducible rfl)
      try simp only [Act.put, qqA, qqB, qqC]
      refine wtk (i := 6) (oi := { dst := some 23, op := .indexAddr 30 (.tmp 21) (.tmp 22), type := 0, pos := "exact.go:1902", after := #[{ on := 4, ground := .data }, { on := 5, ground := .data }], guard := none }) (v := ?_) rfl (Or.inl ⟨by rfl, ?_⟩) (by assumption) ?_
      rotate_left 1
      · (intro w' hSw; (try dsimp only at hSw); go_simp; try with_reducible rfl)
      try simp only [Act.put, qqA, qqB, qqC]
      refine wtk (i := 7) (oi := { dst := some 24, op := .load 54 (.tmp 23), type := 54, pos := "exact.go:1902", after := #[{ on := 6, ground := .data }], guard := none }) (v := ?_) rfl (Or.inl ⟨by rfl, ?_⟩) (by assumption) ?_
      rotate_left 1
      · (intro w' hSw; (try dsimp only at hSw); go_simp; try with_reducible rfl)
      try simp only [Act.put, qqA, qqB, qqC]
      refine wpAnyH_ready (rs := [8]) (by kernel_rfl) (by simp) ?_
      refine AllReadyH.cons (o := { dst := some 25, op := .call { callee := .value (.func 28), args := #[.tmp 20, .tmp 24], argTypes := #[54, 54] }, type := 4, pos := "exact.go:1902", after := #[{ on := 3, ground := .data }, { on := 7, ground := .data }], guard := none }) rfl (fun K hK => ?_) AllReadyH.nil
      go_simp
      refine (eqMsg kd fr dst tm ix lt cm ok a1 a2 c1 c2 ne es HNE hne _ ((unhide E1).below (unhide TD)) ((unhide E2).below (unhide TD))).mono ?_
      rintro e w2 ⟨rfl, hb2⟩
      have T2 := hide ((unhide TD).trans (hb2.mono (unhide TD).size))
      have K2q := And.intro ((unhide KD).1.below (unhide T2) hblt) ((unhide KD).2.below (unhide T2) hdlt)
      unfold M9 at K2q
      simp only [show es.length = ne from unhide HNE] at K2q
      have K2 := hide K2q
      clear K2q
      clear hb2
      go_wp2_with fail
      refine hK.out _ _ ?_ (fun hHeld8 => ?_)
      · exact unhide K2
      clear hK K
      try simp only [Act.put, qqA, qqB, qqC]
      refine wtk (i := 9) (oi := { dst := some 26, op := .unOp .not 4 (.tmp 25), type := 4, pos := "exact.go:1902", after := #[{ on := 8, ground := .data }], guard := none }) (v := ?_) rfl (Or.inl ⟨by rfl, ?_⟩) (by assumption) ?_
      rotate_left 1
      · (intro w' hSw; (try dsimp only at hSw); go_simp; try with_reducible rfl)
      try simp only [Act.put, qqA, qqB, qqC]
      refine wpAnyH_done (by kernel_rfl) ?_ _
      have B2 := hide ((unhide HB).trans ((unhide T2).mono (unhide HB).size))
      clear K0 TD KD K2 T2 HB hHeld hHeld8
      go_wp2_with fail
      go_roundw
      case rel => exact ⟨k + 1, by omega, by go_num, B2⟩
      case measure => simp [intOf]; omega
    · obtain rfl : k = n := by omega
      go_wp2_with fail
      go_ret
      exact ⟨rfl, unhide HB⟩
set_option maxHeartbeats 4000000 in
set_option maxRecDepth 100000 in
theorem markMsgs (v : Value) (n lo k0 : Nat) (hn : n ≤ 1048576) (L : List MgA) (HN : Hid (L.length = n)) (Q : Int) (HQ : Hid (Q = ((kAt k0 L n : Nat) : Int))) (hk0 : Hid (0 < k0)) (hkm : Hid (kAt k0 L n ≤ 3000000)) (w : World) (h : MOwn w lo v L) (hi : Nat) (hhv : ∀ j, v.ownBlock = some j → j < hi) (hhe : ∀ p ∈ L, ∀ j, (sl p).ownBlock = some j → j < hi) :
    Calls Try.prog 11 #[v, .int .i64 (k0 : Int)] w fun e w' => e = .returned (.int .i64 Q) ∧ MOwn w' lo v (markL k0 L) ∧ Outs lo hi w w' := by
  rcases h.row.2 with ⟨rfl, h0⟩ | ⟨g, cap, cur, rfl, hg0, _⟩
  · have e0 : L = [] := List.length_eq_zero_iff.1 h0
    subst e0
    obtain rfl : 0 = n := unhide HN
    have hq : Q = (k0 : Int) := unhide HQ
    have HO : Hid (Outs lo hi w w) := Outs.of_below (Below.refl _ _)
    have HH := hide h
    clear h HQ hkm h0 hhv hhe
    go_enter Try.func11, Try.ntmps11
    go_wp2_with fail
    go_loopw [1, 5] (fun kk i wr => kk = .int .i64 (k0 : Int) ∧ i = .int .i64 0 ∧ wr = w) (fun _ _ _ => 0)
    case atStart => exact ⟨rfl, rfl, rfl⟩
    case round =>
      obtain ⟨rfl, rfl, rfl⟩ := hrel
      go_wp2_with fail
      go_ret
      exact ⟨ret_int hq.symm, unhide HH, unhide HO⟩
  · obtain ⟨xs, hxs⟩ : ∃ xs, xs = cMs L := ⟨_, rfl⟩
    obtain ⟨ys, hys⟩ : ∃ ys, ys = cMs (markL k0 L) := ⟨_, rfl⟩
    have HX : Hid (xs.length = n * 9) := by show _ = _; rw [hxs, cMs_len, unhide HN]
    have HY : Hid (ys.length = n * 9) := by show _ = _; rw [hys, cMs_len, markL_len, unhide HN]
    have HXS := hide hxs
    have HYS := hide hys
    have OR : Hid (w.ownsRow lo 54 9 (.slice (some ⟨g, 0, none⟩) n cap) n xs) := by show World.ownsRow _ _ _ _ _ _ _; rw [hxs, ← unhide HN]; exact h.row
    have OE : Hid (∀ t (ht : t < L.length), w.ownsRow lo 68 2 (sl L[t]) L[t].1.es.length (if t < 0 then onesEnt (kAt k0 L t + 8) L[t].1.es.length else cE L[t].1.es)) := fun t ht => by rw [if_neg (by omega)]; exact h.ent _ (List.getElem_mem ht)
    have AP := hide h.apart
    have OF := hide h.off
    have LT : Hid (∀ t (ht : t < L.length), ∀ j, (sl L[t]).ownBlock = some j → lo ≤ j ∧ j < hi) := fun t ht j hj => ⟨((h.ent _ (List.getElem_mem ht)).lt j hj).1, hhe _ (List.getElem_mem ht) j hj⟩
    have GL : Hid (lo ≤ g ∧ g < hi) := ⟨(h.row.lt g rfl).1, hhv g rfl⟩
    rw [unhide HN]
    clear h hxs hys hg0 hhv hhe
    go_enter Try.func11, Try.ntmps11
    go_wp2_with fail
    go_loopw [1, 5] (fun kk ii wr => ∃ i q : Nat, i ≤ n ∧ Hid (q = kAt k0 L i) ∧ ii = .int .i64 i ∧ kk = .int .i64 (q : Int) ∧ Hid (wr.ownsRow lo 54 9 (.slice (some ⟨g, 0, none⟩) n cap) n (mix xs ys (i * 9))) ∧ Hid (∀ t (ht : t < L.length), wr.ownsRow lo 68 2 (sl L[t]) L[t].1.es.length (if t < i then onesEnt (kAt k0 L t + 8) L[t].1.es.length else cE L[t].1.es)) ∧ Hid (Outs lo hi w wr)) (fun _ i _ => n - (intOf i).toNat)
    case atStart => exact ⟨0, k0, by omega, by show k0 = kAt k0 L 0; cases L <;> rfl, rfl, rfl, by rw [Nat.zero_mul, mix_zero]; exact OR, OE, Outs.of_below (Below.refl _ _)⟩
    case round =>
      clear OR OE
      obtain ⟨i, q, hin, HQI, rfl, rfl, O0, OE, HU⟩ := hrel
      by_cases hlt : i < n
      · have hil : i < L.length := by rw [unhide HN]; exact hlt
        have hq3 : q + 8 + L[i].1.es.length * 2 ≤ 3000000 := by have h1 := kAt_succ k0 L i hil; have h2 := kAt_le k0 L (i + 1) n (by omega) (by rw [unhide HN]; exact Nat.le_refl _); have := unhide hkm; have := unhide HQI; omega
        have Y : Hid (∀ j u, (cM (mkMg q L[i]))[j]? = some u → ys[i * 9 + j]? = some u) := fun j u hj => by
          have hj9 : j < 9 := by
            rcases Nat.lt_or_ge j 9 with h | h
            · exact h
            · rw [List.getElem?_eq_none (by show 9 ≤ j; exact h)] at hj; cases hj
          rw [unhide HYS, cMs_at _ i (by rw [markL_len]; exact hil) j hj9, markL_at k0 L i hil, ← unhide HQI]; exact hj
        have hsl : xs[i * 9 + 8]? = some (sl L[i]) := by rw [unhide HXS, cMs_at L i hil 8 (by decide)]; rfl
        have hsy : ys[i * 9 + 8]? = some (sl L[i]) := unhide Y 8 _ (by show some (sl (mkMg q L[i])) = _; unfold sl mkMg; simp only [mkEs_len])
        obtain ⟨ae, ce, hes⟩ : ∃ ae ce, sl L[i] = .slice ae L[i].1.es.length ce := ⟨_, _, rfl⟩
        obtain ⟨ne, hne⟩ : ∃ ne, L[i].1.es.length = ne := ⟨_, rfl⟩
        rw [hne] at hes hq3
        have OEi : Hid (wr.ownsRow lo 68 2 (.slice ae ne ce) ne (cE L[i].1.es)) := by have h := unhide OE i hil; rw [if_neg (Nat.lt_irrefl _), hes, hne] at h; exact h
        have OFi : Hid (∀ j, (Value.slice ae ne ce).ownBlock = some j → j ≠ g) := fun j hj e => unhide OF _ (List.getElem_mem hil) j (by rw [hes]; exact hj) (by rw [e]; rfl)
        have HSL := hide hsl
        have HSY := hide hsy
        have HES := hide hes
        have HNE := hide hne
        have i1 : (i : Int) < (n : Int) := by omega
        have i0 : (0 : Int) ≤ (i : Int) := by omega
        have b0 : (q : Int) ≤ 3000000 := by omega
        have s1 : (q : Int) + 1 = ((q + 1 : Nat) : Int) := by omega
        have s2 : ((q + 1 : Nat) : Int) + 1 = ((q + 2 : Nat) : Int) := by omega
        obtain ⟨w0, hw0⟩ : ∃ w0, w0 = wr := ⟨_, rfl⟩
        have G0 : Hid (w0.grownBy w0 (some g)) := grownBy_refl _ _
        rw [← hw0] at O0 OE HU OEi ⊢
        clear hsl hsy hes hne hw0 s1 s2
        obtain ⟨q1, hq1⟩ : ∃ q9, q9 = q + 1 := ⟨_, rfl⟩
        have b1 : (q1 : Int) ≤ 3000000 := by omega
        have HQ1 := hide hq1
        obtain ⟨q2, hq2⟩ : ∃ q9, q9 = q + 2 := ⟨_, rfl⟩
        have b2 : (q2 : Int) ≤ 3000000 := by omega
        have HQ2 := hide hq2
        obtain ⟨q3, hq3⟩ : ∃ q9, q9 = q + 3 := ⟨_, rfl⟩
        have b3 : (q3 : Int) ≤ 3000000 := by omega
        have HQ3 := hide hq3
        obtain ⟨q4, hq4⟩ : ∃ q9, q9 = q + 4 := ⟨_, rfl⟩
        have b4 : (q4 : Int) ≤ 3000000 := by omega
        have HQ4 := hide hq4
        obtain ⟨q5, hq5⟩ : ∃ q9, q9 = q + 5 := ⟨_, rfl⟩
        have b5 : (q5 : Int) ≤ 3000000 := by omega
        have HQ5 := hide hq5
        obtain ⟨q6, hq6⟩ : ∃ q9, q9 = q + 6 := ⟨_, rfl⟩
        have b6 : (q6 : Int) ≤ 3000000 := by omega
        have HQ6 := hide hq6
        obtain ⟨q7, hq7⟩ : ∃ q9, q9 = q + 7 := ⟨_, rfl⟩
        have b7 : (q7 : Int) ≤ 3000000 := by omega
        have HQ7 := hide hq7
        obtain ⟨q8, hq8⟩ : ∃ q9, q9 = q + 8 := ⟨_, rfl⟩
        have b8 : (q8 : Int) ≤ 3000000 := by omega
        have HQ8 := hide hq8
        have Y0 : Hid (ys[i * 9]? = some (.int .i64 (q : Int))) := by show _ = _; have h := unhide Y 0 _ rfl; exact h
        have Y1 : Hid (ys[i * 9 + 1]? = some (.int .i64 (q1 : Int))) := by show _ = _; have h := unhide Y 1 _ rfl; rw [hq1]; exact h
        have Y2 : Hid (ys[i * 9 + 2]? = some (.int .i64 (q2 : Int))) := by show _ = _; have h := unhide Y 2 _ rfl; rw [hq2]; exact h
        have Y3 : Hid (ys[i * 9 + 3]? = some (.int .i64 (q3 : Int))) := by show _ = _; have h := unhide Y 3 _ rfl; rw [hq3]; exact h
        have Y4 : Hid (ys[i * 9 + 4]? = some (.int .i64 (q4 : Int))) := by show _ = _; have h := unhide Y 4 _ rfl; rw [hq4]; exact h
        have Y5 : Hid (ys[i * 9 + 5]? = some (.int .i64 (q5 : Int))) := by show _ = _; have h := unhide Y 5 _ rfl; rw [hq5]; exact h
        have Y6 : Hid (ys[i * 9 + 6]? = some (.int .i64 (q6 : Int))) := by show _ = _; have h := unhide Y 6 _ rfl; rw [hq6]; exact h
        have Y7 : Hid (ys[i * 9 + 7]? = some (.bool ((q7 : Int) % 3 == 0))) := by show _ = _; have h := unhide Y 7 _ rfl; rw [hq7]; exact h
        clear Y hq1 hq2 hq3 hq4 hq5 hq6 hq7 hq8
        obtain ⟨w1, hw1⟩ : ∃ w9, w9 = w0.setCell ⟨g, i * 9, none⟩ (.int .i64 (q : Int)) := ⟨_, rfl⟩
        have O1 : Hid (w1.ownsRow lo 54 9 (.slice (some ⟨g, 0, none⟩) n cap) n (mix xs ys (i * 9 + 1))) := by
          have h := ((unhide O0).stored (i * 9) (.int .i64 (q : Int))).1
          rw [mix_set xs ys (i * 9) (.int .i64 (q : Int)) (by rw [unhide HX]; omega) (unhide Y0)] at h
          rw [hw1]; exact h
        have G1 : Hid (w0.grownBy w1 (some g)) := by rw [hw1]; exact World.grownBy.trans' (unhide G0) (stored_grown (g := g) (j := i * 9) (u := .int .i64 (q : Int)))
        obtain ⟨u0, hu0⟩ := cell_of (xs := xs) (j := i * 9) (by rw [unhide HX]; omega)
        have c0 : w0.cell? ⟨g, i * 9, none⟩ = some u0 := by have h := (unhide O0).cellAt (i * 9) (by omega); rw [mix_at _ _ _ (by rw [unhide HY]; omega), hu0] at h; exact h
        have f0 : w0.frozen? ⟨g, i * 9, none⟩ = false := (unhide O0).frozenAt (i * 9)
        have s0 : (q : Int) + 1 = (q1 : Int) := by have := unhide HQ1; omega
        have HW1 := hide hw1
        clear hu0 O0 G0 hw1 Y0
        go_upto_region 6 with fail
        rw [← unhide HW1]
        clear c0 f0 s0 HW1
        obtain ⟨w2, hw2⟩ : ∃ w9, w9 = w1.setCell ⟨g, i * 9 + 1, none⟩ (.int .i64 (q1 : Int)) := ⟨_, rfl⟩
        have O2 : Hid (w2.ownsRow lo 54 9 (.slice (some ⟨g, 0, none⟩) n cap) n (mix xs ys (i * 9 + 2))) := by
          have h := ((unhide O1).stored (i * 9 + 1) (.int .i64 (q1 : Int))).1
          rw [mix_set xs ys (i * 9 + 1) (.int .i64 (q1 : Int)) (by rw [unhide HX]; omega) (unhide Y1)] at h
          rw [hw2]; exact h
        have G2 : Hid (w0.grownBy w2 (some g)) := by rw [hw2]; exact World.grownBy.trans' (unhide G1) (stored_grown (g := g) (j := i * 9 + 1) (u := .int .i64 (q1 : Int)))
        obtain ⟨u1, hu1⟩ := cell_of (xs := xs) (j := i * 9 + 1) (by rw [unhide HX]; omega)
        have c1 : w1.cell? ⟨g, i * 9 + 1, none⟩ = some u1 := by have h := (unhide O1).cellAt (i * 9 + 1) (by omega); rw [mix_at _ _ _ (by rw [unhide HY]; omega), hu1] at h; exact h
        have f1 : w1.frozen? ⟨g, i * 9 + 1, none⟩ = false := (unhide O1).frozenAt (i * 9 + 1)
        have s1 : (q1 : Int) + 1 = (q2 : Int) := by have := unhide HQ2; have := unhide HQ1; omega
        have HW2 := hide hw2
        clear hu1 O1 G1 hw2 Y1
        go_upto_region 8 with fail
        rw [← unhide HW2]
        clear c1 f1 s1 HW2
        obtain ⟨w3, hw3⟩ : ∃ w9, w9 = w2.setCell ⟨g, i * 9 + 2, none⟩ (.int .i64 (q2 : Int)) := ⟨_, rfl⟩
        have O3 : Hid (w3.ownsRow lo 54 9 (.slice (some ⟨g, 0, none⟩) n cap) n (mix xs ys (i * 9 + 3))) := by
          have h := ((unhide O2).stored (i * 9 + 2) (.int .i64 (q2 : Int))).1
          rw [mix_set xs ys (i * 9 + 2) (.int .i64 (q2 : Int)) (by rw [unhide HX]; omega) (unhide Y2)] at h
          rw [hw3]; exact h
        have G3 : Hid (w0.grownBy w3 (some g)) := by rw [hw3]; exact World.grownBy.trans' (unhide G2) (stored_grown (g := g) (j := i * 9 + 2) (u := .int .i64 (q2 : Int)))
        obtain ⟨u2, hu2⟩ := cell_of (xs := xs) (j := i * 9 + 2) (by rw [unhide HX]; omega)
        have c2 : w2.cell? ⟨g, i * 9 + 2, none⟩ = some u2 := by have h := (unhide O2).cellAt (i * 9 + 2) (by omega); rw [mix_at _ _ _ (by rw [unhide HY]; omega), hu2] at h; exact h
        have f2 : w2.frozen? ⟨g, i * 9 + 2, none⟩ = false := (unhide O2).frozenAt (i * 9 + 2)
        have s2 : (q2 : Int) + 1 = (q3 : Int) := by have := unhide HQ3; have := unhide HQ2; omega
        have HW3 := hide hw3
        clear hu2 O2 G2 hw3 Y2
        go_upto_region 10 with fail
        rw [← unhide HW3]
        clear c2 f2 s2 HW3
        obtain ⟨w4, hw4⟩ : ∃ w9, w9 = w3.setCell ⟨g, i * 9 + 3, none⟩ (.int .i64 (q3 : Int)) := ⟨_, rfl⟩
        have O4 : Hid (w4.ownsRow lo 54 9 (.slice (some ⟨g, 0, none⟩) n cap) n (mix xs ys (i * 9 + 4))) := by
          have h := ((unhide O3).stored (i * 9 + 3) (.int .i64 (q3 : Int))).1
          rw [mix_set xs ys (i * 9 + 3) (.int .i64 (q3 : Int)) (by rw [unhide HX]; omega) (unhide Y3)] at h
          rw [hw4]; exact h
        have G4 : Hid (w0.grownBy w4 (some g)) := by rw [hw4]; exact World.grownBy.trans' (unhide G3) (stored_grown (g := g) (j := i * 9 + 3) (u := .int .i64 (q3 : Int)))
        obtain ⟨u3, hu3⟩ := cell_of (xs := xs) (j := i * 9 + 3) (by rw [unhide HX]; omega)
        have c3 : w3.cell? ⟨g, i * 9 + 3, none⟩ = some u3 := by have h := (unhide O3).cellAt (i * 9 + 3) (by omega); rw [mix_at _ _ _ (by rw [unhide HY]; omega), hu3] at h; exact h
        have f3 : w3.frozen? ⟨g, i * 9 + 3, none⟩ = false := (unhide O3).frozenAt (i * 9 + 3)
        have s3 : (q3 : Int) + 1 = (q4 : Int) := by have := unhide HQ4; have := unhide HQ3; omega
        have HW4 := hide hw4
        clear hu3 O3 G3 hw4 Y3
        go_upto_region 12 with fail
        rw [← unhide HW4]
        clear c3 f3 s3 HW4
        obtain ⟨w5, hw5⟩ : ∃ w9, w9 = w4.setCell ⟨g, i * 9 + 4, none⟩ (.int .i64 (q4 : Int)) := ⟨_, rfl⟩
        have O5 : Hid (w5.ownsRow lo 54 9 (.slice (some ⟨g, 0, none⟩) n cap) n (mix xs ys (i * 9 + 5))) := by
          have h := ((unhide O4).stored (i * 9 + 4) (.int .i64 (q4 : Int))).1
          rw [mix_set xs ys (i * 9 + 4) (.int .i64 (q4 : Int)) (by rw [unhide HX]; omega) (unhide Y4)] at h
          rw [hw5]; exact h
        have G5 : Hid (w0.grownBy w5 (some g)) := by rw [hw5]; exact World.grownBy.trans' (unhide G4) (stored_grown (g := g) (j := i * 9 + 4) (u := .int .i64 (q4 : Int)))
        obtain ⟨u4, hu4⟩ := cell_of (xs := xs) (j := i * 9 + 4) (by rw [unhide HX]; omega)
        have c4 : w4.cell? ⟨g, i * 9 + 4, none⟩ = some u4 := by have h := (unhide O4).cellAt (i * 9 + 4) (by omega); rw [mix_at _ _ _ (by rw [unhide HY]; omega), hu4] at h; exact h
        have f4 : w4.frozen? ⟨g, i * 9 + 4, none⟩ = false := (unhide O4).frozenAt (i * 9 + 4)
        have s4 : (q4 : Int) + 1 = (q5 : Int) := by have := unhide HQ5; have := unhide HQ4; omega
        have HW5 := hide hw5
        clear hu4 O4 G4 hw5 Y4
        go_upto_region 14 with fail
        rw [← unhide HW5]
        clear c4 f4 s4 HW5
        obtain ⟨w6, hw6⟩ : ∃ w9, w9 = w5.setCell ⟨g, i * 9 + 5, none⟩ (.int .i64 (q5 : Int)) := ⟨_, rfl⟩
        have O6 : Hid (w6.ownsRow lo 54 9 (.slice (some ⟨g, 0, none⟩) n cap) n (mix xs ys (i * 9 + 6))) := by
          have h := ((unhide O5).stored (i * 9 + 5) (.int .i64 (q5 : Int))).1
          rw [mix_set xs ys (i * 9 + 5) (.int .i64 (q5 : Int)) (by rw [unhide HX]; omega) (unhide Y5)] at h
          rw [hw6]; exact h
        have G6 : Hid (w0.grownBy w6 (some g)) := by rw [hw6]; exact World.grownBy.trans' (unhide G5) (stored_grown (g := g) (j := i * 9 + 5) (u := .int .i64 (q5 : Int)))
        obtain ⟨u5, hu5⟩ := cell_of (xs := xs) (j := i * 9 + 5) (by rw [unhide HX]; omega)
        have c5 : w5.cell? ⟨g, i * 9 + 5, none⟩ = some u5 := by have h := (unhide O5).cellAt (i * 9 + 5) (by omega); rw [mix_at _ _ _ (by rw [unhide HY]; omega), hu5] at h; exact h
        have f5 : w5.frozen? ⟨g, i * 9 + 5, none⟩ = false := (unhide O5).frozenAt (i * 9 + 5)
        have s5 : (q5 : Int) + 1 = (q6 : Int) := by have := unhide HQ6; have := unhide HQ5; omega
        have HW6 := hide hw6
        clear hu5 O5 G5 hw6 Y5
        go_upto_region 16 with fail
        rw [← unhide HW6]
        clear c5 f5 s5 HW6
        obtain ⟨w7, hw7⟩ : ∃ w9, w9 = w6.setCell ⟨g, i * 9 + 6, none⟩ (.int .i64 (q6 : Int)) := ⟨_, rfl⟩
        have O7 : Hid (w7.ownsRow lo 54 9 (.slice (some ⟨g, 0, none⟩) n cap) n (mix xs ys (i * 9 + 7))) := by
          have h := ((unhide O6).stored (i * 9 + 6) (.int .i64 (q6 : Int))).1
          rw [mix_set xs ys (i * 9 + 6) (.int .i64 (q6 : Int)) (by rw [unhide HX]; omega) (unhide Y6)] at h
          rw [hw7]; exact h
        have G7 : Hid (w0.grownBy w7 (some g)) := by rw [hw7]; exact World.grownBy.trans' (unhide G6) (stored_grown (g := g) (j := i * 9 + 6) (u := .int .i64 (q6 : Int)))
        obtain ⟨u6, hu6⟩ := cell_of (xs := xs) (j := i * 9 + 6) (by rw [unhide HX]; omega)
        have c6 : w6.cell? ⟨g, i * 9 + 6, none⟩ = some u6 := by have h := (unhide O6).cellAt (i * 9 + 6) (by omega); rw [mix_at _ _ _ (by rw [unhide HY]; omega), hu6] at h; exact h
        have f6 : w6.frozen? ⟨g, i * 9 + 6, none⟩ = false := (unhide O6).frozenAt (i * 9 + 6)
        have s6 : (q6 : Int) + 1 = (q7 : Int) := by have := unhide HQ7; have := unhide HQ6; omega
        have HW7 := hide hw7
        clear hu6 O6 G6 hw7 Y6
        go_upto_region 18 with fail
        rw [← unhide HW7]
        clear c6 f6 s6 HW7
        obtain ⟨w8, hw8⟩ : ∃ w9, w9 = w7.setCell ⟨g, i * 9 + 7, none⟩ (.bool ((q7 : Int) % 3 == 0)) := ⟨_, rfl⟩
        have O8 : Hid (w8.ownsRow lo 54 9 (.slice (some ⟨g, 0, none⟩) n cap) n (mix xs ys (i * 9 + 8))) := by
          have h := ((unhide O7).stored (i * 9 + 7) (.bool ((q7 : Int) % 3 == 0))).1
          rw [mix_set xs ys (i * 9 + 7) (.bool ((q7 : Int) % 3 == 0)) (by rw [unhide HX]; omega) (unhide Y7)] at h
          rw [hw8]; exact h
        have G8 : Hid (w0.grownBy w8 (some g)) := by rw [hw8]; exact World.grownBy.trans' (unhide G7) (stored_grown (g := g) (j := i * 9 + 7) (u := .bool ((q7 : Int) % 3 == 0)))
        obtain ⟨u7, hu7⟩ := cell_of (xs := xs) (j := i * 9 + 7) (by rw [unhide HX]; omega)
        have c7 : w7.cell? ⟨g, i * 9 + 7, none⟩ = some u7 := by have h := (unhide O7).cellAt (i * 9 + 7) (by omega); rw [mix_at _ _ _ (by rw [unhide HY]; omega), hu7] at h; exact h
        have f7 : w7.frozen? ⟨g, i * 9 + 7, none⟩ = false := (unhide O7).frozenAt (i * 9 + 7)
        have s7 : (q7 : Int) + 1 = (q8 : Int) := by have := unhide HQ8; have := unhide HQ7; omega
        have HW8 := hide hw8
        clear hu7 O7 G7 hw8 Y7
        go_upto_region 20 with fail
        rw [← unhide HW8]
        clear c7 f7 s7 HW8
        have hcl : w8.cell? ⟨g, i * 9 + 8, none⟩ = some (.slice ae ne ce) := by have h := (unhide O8).cellAt (i * 9 + 8) (by omega); rw [mix_at _ _ _ (by rw [unhide HY]; omega), unhide HSL, unhide HES] at h; exact h
        have OE8 := hide (own_grown (unhide OEi) (unhide G8) (fun j hj e => unhide OFi j hj (Option.some.inj e).symm))
        go_wp2_with fail
        refine (markEnt (.slice ae ne ce) ne lo w8.heap.size q8 _ (by have := unhide HQ8; omega) (by have := unhide HQ8; omega) _ (heldZ_of (unhide OE8))).mono ?_
        rintro e w9 ⟨rfl, hh9, hg9⟩
        have O9 : Hid (w9.ownsRow lo 54 9 (.slice (some ⟨g, 0, none⟩) n cap) n (mix xs ys ((i + 1) * 9))) := by
          have h := own_grown (unhide O8) hg9 (fun j hj e => unhide OFi j e (Option.some.inj hj).symm)
          rw [mix_same xs ys (i * 9 + 8) (by rw [unhide HX]; omega) (by rw [unhide HSL, unhide HSY]), show i * 9 + 8 + 1 = (i + 1) * 9 from by omega] at h
          exact h
        have OE9 : Hid (∀ t (ht : t < L.length), w9.ownsRow lo 68 2 (sl L[t]) L[t].1.es.length (if t < i + 1 then onesEnt (kAt k0 L t + 8) L[t].1.es.length else cE L[t].1.es)) := fun t ht => by
          by_cases hti : t = i
          · subst hti
            rw [if_pos (by omega), unhide HES, unhide HNE, show kAt k0 L t + 8 = q8 from by have := unhide HQ8; have := unhide HQI; omega]
            exact hh9.own
          · have hne : ∀ j, (sl L[t]).ownBlock = some j → (sl L[i]).ownBlock ≠ some j := fun j hj e => by
              have hp := List.pairwise_iff_getElem.1 (unhide AP)
              rcases Nat.lt_or_gt_of_ne hti with h | h
              · exact hp t i ht hil h j hj e
              · exact hp i t hil ht h j e hj
            have h1 := own_grown (unhide OE t ht) (unhide G8) (fun j hj e => unhide OF _ (List.getElem_mem ht) j hj e)
            have h2 := own_grown h1 hg9 (fun j hj e => hne j hj (by rw [unhide HES]; exact e))
            by_cases h3 : t < i
            · rw [if_pos h3] at h2; rw [if_pos (by omega)]; exact h2
            · rw [if_neg h3] at h2; rw [if_neg (by omega)]; exact h2
        have U9 : Hid (Outs lo hi w w9) := ((unhide HU).trans (Outs.of_grown (unhide G8) (fun k hk => by have := unhide GL; injection hk with hk; omega))).trans (Outs.of_grown hg9 (fun k hk => unhide LT i hil k (by rw [unhide HES]; exact hk)))
        have hq9 : q8 + ne * 2 = kAt k0 L (i + 1) := by rw [kAt_succ k0 L i hil, unhide HNE, ← unhide HQI, unhide HQ8]
        have HQ9 := hide hq9
        clear hh9 hg9 O8 OE8 G8 HU OE OEi hcl hq9
        go_wp2_with fail
        go_roundw
        case rel => exact ⟨i + 1, q8 + ne * 2, by omega, HQ9, by go_num, by go_num, O9, OE9, U9⟩
        case measure => simp [intOf]; omega
      · obtain rfl : i = n := by omega
        have hq : (q : Int) = Q := by rw [unhide HQ, unhide HQI]
        have FIN : Hid (MOwn wr lo (.slice (some ⟨g, 0, none⟩) i cap) (markL k0 L)) := by
          have hel : ∀ p ∈ markL k0 L, ∃ t, ∃ ht : t < L.length, p = mkMg (kAt k0 L t) L[t] := fun p hp => by
            obtain ⟨t, ht, e⟩ := List.getElem_of_mem hp
            have ht2 : t < L.length := by rw [markL_len] at ht; exact ht
            exact ⟨t, ht2, e.symm.trans (markL_at k0 L t ht2)⟩
          refine ⟨?_, ?_, ?_, ?_⟩
          · have h := unhide O0
            rw [mix_all _ _ _ (by rw [unhide HX]; exact Nat.le_refl _) (by rw [unhide HY]; exact Nat.le_refl _)] at h
            rw [markL_len, unhide HN, ← unhide HYS]; exact h
          · intro p hp
            obtain ⟨t, ht, rfl⟩ := hel p hp
            have h := unhide OE t ht
            rw [if_pos (by rw [← unhide HN]; exact ht)] at h
            rw [sl_mk]
            show World.ownsRow _ _ _ _ _ (mkEs _ _).length (cE (mkEs _ _))
            rw [mkEs_len, mkEs_ones]; exact h
          · refine List.pairwise_iff_getElem.2 (fun a b ha hb hab j => ?_)
            have ha2 : a < L.length := by rw [markL_len] at ha; exact ha
            have hb2 : b < L.length := by rw [markL_len] at hb; exact hb
            rw [markL_at k0 L a ha2, markL_at k0 L b hb2, sl_mk, sl_mk]
            exact List.pairwise_iff_getElem.1 (unhide AP) a b ha2 hb2 hab j
          · intro p hp j hj
            obtain ⟨t, ht, rfl⟩ := hel p hp
            rw [sl_mk] at hj
            have h := unhide OF _ (List.getElem_mem ht) j hj
            exact h
        clear O0 OE
        go_wp2_with fail
        go_ret
        exact ⟨ret_int hq, unhide FIN, unhide HU⟩
set_option maxHeartbeats 4000000 in
set_option maxRecDepth 100000 in
theorem heldMsgs (v : Value) (n lo k0 : Nat) (hn : n ≤ 1048576) (L : List MgA) (HN : Hid (L.length = n)) (Q : Int) (HQ : Hid (Q = ((kAt k0 L n : Nat) : Int))) (hk0 : Hid (0 < k0)) (hkm : Hid (kAt k0 L n ≤ 3000000)) (w : World) (h : MOwn w lo v (markL k0 L)) :
    Calls Try.prog 13 #[v, .int .i64 (k0 : Int)] w fun e w' => e = .returned (.int .i64 Q) ∧ Below w.heap.size w w' := by
  obtain ⟨⟨a, cap, rfl, hr⟩, he⟩ := h.read
  have HR := hide hr
  have HE : Hid (∀ t (ht : t < L.length), w.ownsRow lo 68 2 (sl L[t]) L[t].1.es.length (onesEnt (kAt k0 L t + 8) L[t].1.es.length)) := fun t ht => by
    have h1 := h.ent ((markL k0 L)[t]'(by rw [markL_len]; exact ht)) (List.getElem_mem _)
    rw [markL_at k0 L t ht, sl_mk] at h1
    have h2 : w.ownsRow lo 68 2 (sl L[t]) (mkEs (kAt k0 L t + 8) L[t].1.es.length).length (cE (mkEs (kAt k0 L t + 8) L[t].1.es.length)) := h1
    rw [mkEs_len, mkEs_ones] at h2
    exact h2
  rw [markL_len, unhide HN]
  clear hr he h
  go_enter Try.func13, Try.ntmps13
  go_wp2_with fail
  go_loopw [1, 5] (fun kk ii wr => ∃ i q : Nat, i ≤ n ∧ Hid (q = kAt k0 L i) ∧ ii = .int .i64 i ∧ kk = .int .i64 (q : Int) ∧ Hid (Below w.heap.size w wr)) (fun _ i _ => n - (intOf i).toNat)
  case atStart => exact ⟨0, k0, by omega, by show k0 = kAt k0 L 0; cases L <;> rfl, rfl, rfl, Below.refl _ _⟩
  case round =>
    obtain ⟨i, q, hi, HQI, rfl, rfl, HB⟩ := hrel
    by_cases hlt : i < n
    · have hil : i < L.length := by rw [unhide HN]; exact hlt
      have hq3 : q + 8 + L[i].1.es.length * 2 ≤ 3000000 := by have h1 := kAt_succ k0 L i hil; have h2 := kAt_le k0 L (i + 1) n (by omega) (by rw [unhide HN]; exact Nat.le_refl _); have := unhide hkm; have := unhide HQI; omega
      obtain ⟨b, off, rfl, hblt, hc⟩ := (unhide HR).at (by rw [cMs_len, markL_len]; omega)
      have hm := (row_msg hc i (by rw [markL_len]; exact hil)).below (unhide HB) hblt
      rw [markL_at k0 L i hil, ← unhide HQI] at hm
      obtain ⟨ae, ce, hes⟩ : ∃ ae ce, sl L[i] = .slice ae L[i].1.es.length ce := ⟨_, _, rfl⟩
      obtain ⟨ne, hne⟩ : ∃ ne, L[i].1.es.length = ne := ⟨_, rfl⟩
      rw [hne] at hes hq3
      have HEi : Hid (wr.ownsRow lo 68 2 (.slice ae ne ce) ne (onesEnt (q + 8) ne)) := by have h := unhide HE i hil; rw [hes, hne, ← unhide HQI] at h; exact ((heldZ_of h).below (unhide HB) (Nat.le_refl _)).own
      obtain ⟨m0, m1, m2, m3, m4, m5, m6, m7, m8⟩ := hm
      have i1 : (i : Int) < (n : Int) := by omega
      have i0 : (0 : Int) ≤ (i : Int) := by omega
      have b0 : (q : Int) ≤ 3000000 := by omega
      obtain ⟨q1, hq1⟩ : ∃ q9, q9 = q + 1 := ⟨_, rfl⟩
      have b1 : (q1 : Int) ≤ 3000000 := by omega
      have HQ1 := hide hq1
      obtain ⟨q2, hq2⟩ : ∃ q9, q9 = q + 2 := ⟨_, rfl⟩
      have b2 : (q2 : Int) ≤ 3000000 := by omega
      have HQ2 := hide hq2
      obtain ⟨q3, hq3⟩ : ∃ q9, q9 = q + 3 := ⟨_, rfl⟩
      have b3 : (q3 : Int) ≤ 3000000 := by omega
      have HQ3 := hide hq3
      obtain ⟨q4, hq4⟩ : ∃ q9, q9 = q + 4 := ⟨_, rfl⟩
      have b4 : (q4 : Int) ≤ 3000000 := by omega
      have HQ4 := hide hq4
      obtain ⟨q5, hq5⟩ : ∃ q9, q9 = q + 5 := ⟨_, rfl⟩
      have b5 : (q5 : Int) ≤ 3000000 := by omega
      have HQ5 := hide hq5
      obtain ⟨q6, hq6⟩ : ∃ q9, q9 = q + 6 := ⟨_, rfl⟩
      have b6 : (q6 : Int) ≤ 3000000 := by omega
      have HQ6 := hide hq6
      obtain ⟨q7, hq7⟩ : ∃ q9, q9 = q + 7 := ⟨_, rfl⟩
      have b7 : (q7 : Int) ≤ 3000000 := by omega
      have HQ7 := hide hq7
      obtain ⟨q8, hq8⟩ : ∃ q9, q9 = q + 8 := ⟨_, rfl⟩
      have b8 : (q8 : Int) ≤ 3000000 := by omega
      have HQ8 := hide hq8
      have c0 : wr.cell? ⟨b, off + i * 9, none⟩ = some (.int .i64 (q : Int)) := by have h := m0; simp only [mkMg, okM] at h; exact h
      have c1 : wr.cell? ⟨b, off + i * 9 + 1, none⟩ = some (.int .i64 (q1 : Int)) := by have h := m1; simp only [mkMg, okM] at h; rw [hq1]; exact h
      have c2 : wr.cell? ⟨b, off + i * 9 + 2, none⟩ = some (.int .i64 (q2 : Int)) := by have h := m2; simp only [mkMg, okM] at h; rw [hq2]; exact h
      have c3 : wr.cell? ⟨b, off + i * 9 + 3, none⟩ = some (.int .i64 (q3 : Int)) := by have h := m3; simp only [mkMg, okM] at h; rw [hq3]; exact h
      have c4 : wr.cell? ⟨b, off + i * 9 + 4, none⟩ = some (.int .i64 (q4 : Int)) := by have h := m4; simp only [mkMg, okM] at h; rw [hq4]; exact h
      have c5 : wr.cell? ⟨b, off + i * 9 + 5, none⟩ = some (.int .i64 (q5 : Int)) := by have h := m5; simp only [mkMg, okM] at h; rw [hq5]; exact h
      have c6 : wr.cell? ⟨b, off + i * 9 + 6, none⟩ = some (.int .i64 (q6 : Int)) := by have h := m6; simp only [mkMg, okM] at h; rw [hq6]; exact h
      have c7 : wr.cell? ⟨b, off + i * 9 + 7, none⟩ = some (.bool ((q7 : Int) % 3 == 0)) := by have h := m7; simp only [mkMg, okM] at h; rw [hq7]; exact h
      have c8 : wr.cell? ⟨b, off + i * 9 + 8, none⟩ = some (.slice ae ne ce) := by have h : wr.cell? ⟨b, off + i * 9 + 8, none⟩ = some (sl (mkMg q L[i])) := m8; rw [sl_mk, hes] at h; exact h
      have n0 : ((q : Int) != (q : Int)) = false := by simp
      have n1 : ((q1 : Int) != (q1 : Int)) = false := by simp
      have n2 : ((q2 : Int) != (q2 : Int)) = false := by simp
      have n3 : ((q3 : Int) != (q3 : Int)) = false := by simp
      have n4 : ((q4 : Int) != (q4 : Int)) = false := by simp
      have n5 : ((q5 : Int) != (q5 : Int)) = false := by simp
      have n6 : ((q6 : Int) != (q6 : Int)) = false := by simp
      have n7 : (((q7 : Int) % 3 == 0) != ((q7 : Int) % 3 == 0)) = false := by simp
      have s0 : (q : Int) + 1 = (q1 : Int) := by omega
      have s1 : (q1 : Int) + 1 = (q2 : Int) := by omega
      have s2 : (q2 : Int) + 1 = (q3 : Int) := by omega
      have s3 : (q3 : Int) + 1 = (q4 : Int) := by omega
      have s4 : (q4 : Int) + 1 = (q5 : Int) := by omega
      have s5 : (q5 : Int) + 1 = (q6 : Int) := by omega
      have s6 : (q6 : Int) + 1 = (q7 : Int) := by omega
      have s7 : (q7 : Int) + 1 = (q8 : Int) := by omega
      have HEj : Hid (wr.ownsRow lo 68 2 (.slice ae ne ce) ne (onesEnt q8 ne)) := by show World.ownsRow _ _ _ _ _ _ _; rw [hq8]; exact unhide HEi
      have hq9 : q8 + ne * 2 = kAt k0 L (i + 1) := by rw [kAt_succ k0 L i hil, hne, ← unhide HQI, hq8]
      have HQ9 := hide hq9
      clear hc m0 m1 m2 m3 m4 m5 m6 m7 m8 HEi hes hne hq9 hq1 hq2 hq3 hq4 hq5 hq6 hq7 hq8
      go_wp2_with fail
      refine (heldEnt (.slice ae ne ce) ne lo wr.heap.size q8 (by have := unhide HQ8; omega) (by have := unhide HQ8; omega) _ (heldZ_of (unhide HEj))).mono ?_
      rintro e w9 ⟨rfl, hb9⟩
      have B9 := hide ((unhide HB).trans (hb9.mono (unhide HB).size))
      have z9 : ¬ (((q8 + ne * 2 : Nat)) : Int) < 0 := by omega
      clear hb9 HB HEj c0 c1 c2 c3 c4 c5 c6 c7 c8 s0 s1 s2 s3 s4 s5 s6 s7 n0 n1 n2 n3 n4 n5 n6 n7
      generalize hqq : q8 + ne * 2 = q9 at HQ9 z9 ⊢
      have HQQ := hide hqq
      clear hqq
      go_wp2_with fail
      go_roundw
      case rel => exact ⟨i + 1, q9, by omega, HQ9, by go_num, by go_num, B9⟩
      case measure => simp [intOf]; omega
    · obtain rfl : i = n := by omega
      have hq : (q : Int) = Q := by rw [unhide HQ, unhide HQI]
      go_wp2_with fail
      go_ret
      exact ⟨ret_int hq, unhide HB⟩
end Go.Proofs.Ytjlajpnhcphngaa
