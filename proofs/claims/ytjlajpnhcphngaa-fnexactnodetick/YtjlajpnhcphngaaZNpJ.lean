/- What a node is told: what the program answers. -/
import Derived.Test.YtjlajpnhcphngaaZG8
namespace Go.Proofs.Ytjlajpnhcphngaa
open Go.ChangeShapes Go.WideShapes Go.ChangeAt Go.RowKit
set_option linter.unusedVariables false
theorem own_farJ {w w' : World} {base : Nat} {e : TypeId} {z : Nat} {v : Value} {n : Nat} {xs : List Value} {p : Nat} (h : w.ownsRow base e z v n xs) (hf : ∀ k, k ≠ p → w'.heap[k]? = w.heap[k]?) (hne : v.ownBlock ≠ some p) : w'.ownsRow base e z v n xs := by
  obtain ⟨h1, h2⟩ := h
  refine ⟨h1, ?_⟩
  rcases h2 with h2 | ⟨g, cap, cur, rfl, hbg, hg, hrest⟩
  · exact .inl h2
  · exact .inr ⟨g, cap, cur, rfl, hbg, (hf g (fun e => hne (by rw [e]; rfl))).trans hg, hrest⟩
theorem cE_drop (l : List Ent) (k : Nat) : cE (l.drop k) = (cE l).drop (k * 2) := by
  induction k generalizing l with
  | zero => simp
  | succ k ih =>
    cases l with
    | nil => simp [cE]
    | cons e l => rw [List.drop_succ_cons, ih, cE_cons, show (k + 1) * 2 = k * 2 + 1 + 1 from by omega, List.drop_succ_cons, List.drop_succ_cons]
theorem rowV_dropE {w : World} {a : Option Addr} {l : List Ent} (h : RowV w a (cE l)) (j : Nat) : RowV w (Option.map (fun x => x.add (j * 2)) a) (cE (l.drop j)) := by
  rw [cE_drop]
  rcases h with h | ⟨b, off, rfl, h2, h3⟩
  · exact .inl (by rw [h]; simp)
  · refine .inr ⟨b, off + j * 2, by show some (Addr.add _ _) = _; unfold Addr.add; split <;> simp_all, h2, fun i v hv => ?_⟩
    rw [List.getElem?_drop] at hv
    rw [Nat.add_assoc]
    exact h3 _ _ hv
theorem put9 {p : Nat} {u0 u1 u2 u3 u4 u5 u6 u7 u8 : Value} (w : World) (h : BF p #[u0, u1, u2, u3, u4, u5, u6, u7, u8] w) (v0 v1 v2 v3 v4 v5 v6 v7 v8 : Value) :
    ∃ w', w' = ((((((((w.setCell ⟨p, 0, none⟩ v0).setCell ⟨p, 1, none⟩ v1).setCell ⟨p, 2, none⟩ v2).setCell ⟨p, 3, none⟩ v3).setCell ⟨p, 4, none⟩ v4).setCell ⟨p, 5, none⟩ v5).setCell ⟨p, 6, none⟩ v6).setCell ⟨p, 7, none⟩ v7).setCell ⟨p, 8, none⟩ v8 ∧ BF p #[v0, v1, v2, v3, v4, v5, v6, v7, v8] w' ∧ (∀ k, k ≠ p → w'.heap[k]? = w.heap[k]?) ∧ Below p w w' := by
  refine ⟨_, rfl, ?_, ?_, ?_⟩
  · have q0 : BF p #[v0, u1, u2, u3, u4, u5, u6, u7, u8] _ := h.set 0 (by simp) v0
    have q1 : BF p #[v0, v1, u2, u3, u4, u5, u6, u7, u8] _ := q0.set 1 (by simp) v1
    have q2 : BF p #[v0, v1, v2, u3, u4, u5, u6, u7, u8] _ := q1.set 2 (by simp) v2
    have q3 : BF p #[v0, v1, v2, v3, u4, u5, u6, u7, u8] _ := q2.set 3 (by simp) v3
    have q4 : BF p #[v0, v1, v2, v3, v4, u5, u6, u7, u8] _ := q3.set 4 (by simp) v4
    have q5 : BF p #[v0, v1, v2, v3, v4, v5, u6, u7, u8] _ := q4.set 5 (by simp) v5
    have q6 : BF p #[v0, v1, v2, v3, v4, v5, v6, u7, u8] _ := q5.set 6 (by simp) v6
    have q7 : BF p #[v0, v1, v2, v3, v4, v5, v6, v7, u8] _ := q6.set 7 (by simp) v7
    exact q7.set 8 (by simp) v8
  · intro k hk; iterate 9 rw [Below.heap_setCell _ _ _ _ hk]
  · iterate 9 refine Below.setCell ?_ (by exact Nat.le_refl _) _
    exact Below.refl _ _
set_option maxHeartbeats 4000000 in
set_option maxRecDepth 100000 in
theorem itell (id nd tm vt ro cm el wt : Int) (up : Bool) (a : Option Addr) (cap n : Nat) (av : Option Addr) (cv nv : Nat) (ax : Option Addr) (cx nx : Nat) (ag : Option Addr) (cg ng : Nat) (l : List Ent) (HN : Hid (l.length = n)) (hn : n ≤ 1048576) (lx : List Int) (t j : Nat) (ht : t < lx.length) (hj : lx[t] = (j : Int) + 1) (hnx : lx.length = nx) (hjn : j ≤ n) (hcap : n ≤ cap) (TT : Int) (HT : Hid (TT = tAt l j)) (w : World) (hr : RowV w a (cE l)) (hrx : RowV w ax (cI lx)) :
    Calls Try.prog 56 #[.agg #[.int .i64 id, .int .i64 nd, .int .i64 tm, .int .i64 vt, .int .i64 ro, .bool up, .slice a n cap, .int .i64 cm, .int .i64 el, .int .i64 wt, .slice av nv cv, .slice ax nx cx, .slice ag ng cg], .int .i64 (t : Int)] w fun e w' => ∃ v, e = .returned (.agg #[.int .i64 3, .int .i64 id, .int .i64 (t : Int), .int .i64 tm, .int .i64 (j : Int), .int .i64 TT, .int .i64 cm, .bool false, v]) ∧ w'.ownsRow w.heap.size 68 2 v (n - j) (cE (l.drop j)) ∧ Below w.heap.size w w' := by
  have B0 := hide (Go.Joins.below_alloc2 w (.cells #[.int .i64 id, .int .i64 nd, .int .i64 tm, .int .i64 vt, .int .i64 ro, .bool up, .slice a n cap, .int .i64 cm, .int .i64 el, .int .i64 wt, .slice av nv cv, .slice ax nx cx, .slice ag ng cg] 29) (.cells #[.int .i64 0, .int .i64 0, .int .i64 0, .int .i64 0, .int .i64 0, .int .i64 0, .int .i64 0, .bool false, .slice none 0 0] 54))
  have A0 := hide ((BF.new w #[.int .i64 id, .int .i64 nd, .int .i64 tm, .int .i64 vt, .int .i64 ro, .bool up, .slice a n cap, .int .i64 cm, .int .i64 el, .int .i64 wt, .slice av nv cv, .slice ax nx cx, .slice ag ng cg] 29).alloc (.cells #[.int .i64 0, .int .i64 0, .int .i64 0, .int .i64 0, .int .i64 0, .int .i64 0, .int .i64 0, .bool false, .slice none 0 0] 54))
  have Z0 := hide (BF.new (w.alloc (.cells #[.int .i64 id, .int .i64 nd, .int .i64 tm, .int .i64 vt, .int .i64 ro, .bool up, .slice a n cap, .int .i64 cm, .int .i64 el, .int .i64 wt, .slice av nv cv, .slice ax nx cx, .slice ag ng cg] 29)) #[.int .i64 0, .int .i64 0, .int .i64 0, .int .i64 0, .int .i64 0, .int .i64 0, .int .i64 0, .bool false, .slice none 0 0] 54)
  simp only [World.size_alloc] at Z0
  obtain ⟨b, off, rfl, hblt, hc⟩ := hrx.at (by rw [cI_len]; omega)
  obtain ⟨x, hx⟩ : ∃ x, x = lx[t] := ⟨_, rfl⟩
  have kx0 := hc t _ (cI_at lx t ht)
  rw [← hx] at kx0
  have KX : Hid (b < w.heap.size ∧ w.cell? ⟨b, off + t, none⟩ = some (.int .i64 x)) := ⟨hblt, kx0⟩
  have hw : IntKind.i64.wrap (x - 1) = (j : Int) := by rw [hx, hj, wrapi _ (by omega) (by omega)]; omega
  have HR := hide hr
  have t1 : (t : Int) < (nx : Int) := by omega
  have t0 : (0 : Int) ≤ (t : Int) := by omega
  clear hr hrx hc kx0 hx hj ht hnx hblt
  have ka := (unhide A0).S
  go_enter Try.func56, Try.ntmps56
  go_wp2_with fail
  refine (imsgv id nd tm vt ro cm el wt up a cap n av cv nv (some ⟨b, off, none⟩) cx nx ag cg ng 3 (t : Int) _).mono ?_
  rintro e w1 ⟨rfl, hb1⟩
  have B1 := hide ((unhide B0).trans (hb1.mono (unhide B0).size))
  have A1 := hide ((unhide A0).below hb1)
  have Z1 := hide ((unhide Z0).below hb1)
  clear hb1 B0 A0 Z0 ka
  obtain ⟨M, hM⟩ : ∃ M, M = w1.heap.size := ⟨_, rfl⟩
  have B2 := hide ((unhide B1).alloc (unhide B1).size (.cells #[.int .i64 3, .int .i64 id, .int .i64 (t : Int), .int .i64 tm, .int .i64 0, .int .i64 0, .int .i64 0, .bool false, .slice none 0 0] 54))
  have A2 := hide ((unhide A1).alloc (.cells #[.int .i64 3, .int .i64 id, .int .i64 (t : Int), .int .i64 tm, .int .i64 0, .int .i64 0, .int .i64 0, .bool false, .slice none 0 0] 54))
  have Z2 := hide ((unhide Z1).alloc (.cells #[.int .i64 3, .int .i64 id, .int .i64 (t : Int), .int .i64 tm, .int .i64 0, .int .i64 0, .int .i64 0, .bool false, .slice none 0 0] 54))
  have M2 := hide (BF.new w1 #[.int .i64 3, .int .i64 id, .int .i64 (t : Int), .int .i64 tm, .int .i64 0, .int .i64 0, .int .i64 0, .bool false, .slice none 0 0] 54)
  have ka := (unhide A2).S
  have km := (unhide M2).S
  have kmf := (unhide M2).F
  have kx := ((unhide B2).cell (p := ⟨b, off + t, none⟩) (unhide KX).1).trans (unhide KX).2
  have A4 := hide ((unhide A1).alloc (.cells #[.int .i64 3, .int .i64 id, .int .i64 (t : Int), .int .i64 tm, .int .i64 (j : Int), .int .i64 0, .int .i64 0, .bool false, .slice none 0 0] 54))
  have ka4 := (unhide A4).S
  have M4 := hide (BF.new w1 #[.int .i64 3, .int .i64 id, .int .i64 (t : Int), .int .i64 tm, .int .i64 (j : Int), .int .i64 0, .int .i64 0, .bool false, .slice none 0 0] 54)
  have B4 := hide ((unhide B1).alloc (unhide B1).size (.cells #[.int .i64 3, .int .i64 id, .int .i64 (t : Int), .int .i64 tm, .int .i64 (j : Int), .int .i64 0, .int .i64 0, .bool false, .slice none 0 0] 54))
  have Z4 := hide ((unhide Z1).alloc (.cells #[.int .i64 3, .int .i64 id, .int .i64 (t : Int), .int .i64 tm, .int .i64 (j : Int), .int .i64 0, .int .i64 0, .bool false, .slice none 0 0] 54))
  have km4 := (unhide M4).S
  go_wp2_with fail
  refine (itermat id nd tm vt ro cm el wt up a cap n av cv nv (some ⟨b, off, none⟩) cx nx ag cg ng l HN hn j hjn TT HT _ ((unhide HR).below (unhide B4))).mono ?_
  rintro e w5 ⟨rfl, hb5⟩
  have B5 := hide ((unhide B4).trans (hb5.mono (unhide B4).size))
  have A5 := hide ((unhide A4).below hb5)
  have Z5 := hide ((unhide Z4).below hb5)
  have M5 := hide ((unhide M4).below hb5)
  rw [← hM] at M5 ⊢
  have zl : w.heap.size + 1 < M := by rw [hM]; exact (unhide Z1).lt
  have HM5 := hide hM
  clear hb5 ka km kmf kx ka4 km4 A2 M2 B2 Z2 A4 M4 B4 Z4 A1 Z1 B1 hM
  obtain ⟨w6, hv6⟩ : ∃ w6, w6 = w5.setCell ⟨M, 5, none⟩ (.int .i64 TT) := ⟨_, rfl⟩
  have M6 : BF M #[.int .i64 3, .int .i64 id, .int .i64 (t : Int), .int .i64 tm, .int .i64 (j : Int), .int .i64 TT, .int .i64 0, .bool false, .slice none 0 0] w6 := by rw [hv6]; exact (unhide M5).set 5 (by simp) (.int .i64 TT)
  have A6 : BF w.heap.size #[.int .i64 id, .int .i64 nd, .int .i64 tm, .int .i64 vt, .int .i64 ro, .bool up, .slice a n cap, .int .i64 cm, .int .i64 el, .int .i64 wt, .slice av nv cv, .slice (some ⟨b, off, none⟩) nx cx, .slice ag ng cg] w6 := by rw [hv6]; exact (unhide A5).far ⟨M, 5, none⟩ _ (by show M ≠ w.heap.size; omega)
  have Z6 : BF (w.heap.size + 1) #[.int .i64 0, .int .i64 0, .int .i64 0, .int .i64 0, .int .i64 0, .int .i64 0, .int .i64 0, .bool false, .slice none 0 0] w6 := by rw [hv6]; exact (unhide Z5).far ⟨M, 5, none⟩ _ (by show M ≠ w.heap.size + 1; omega)
  have B6 : Below w.heap.size w w6 := by rw [hv6]; exact Below.setCell (unhide B5) (by show w.heap.size ≤ M; omega) _
  obtain ⟨w7, hv7⟩ : ∃ w7, w7 = w6.setCell ⟨M, 6, none⟩ (.int .i64 cm) := ⟨_, rfl⟩
  have M7 : BF M #[.int .i64 3, .int .i64 id, .int .i64 (t : Int), .int .i64 tm, .int .i64 (j : Int), .int .i64 TT, .int .i64 cm, .bool false, .slice none 0 0] w7 := by rw [hv7]; exact M6.set 6 (by simp) (.int .i64 cm)
  have A7 : BF w.heap.size #[.int .i64 id, .int .i64 nd, .int .i64 tm, .int .i64 vt, .int .i64 ro, .bool up, .slice a n cap, .int .i64 cm, .int .i64 el, .int .i64 wt, .slice av nv cv, .slice (some ⟨b, off, none⟩) nx cx, .slice ag ng cg] w7 := by rw [hv7]; exact A6.far ⟨M, 6, none⟩ _ (by show M ≠ w.heap.size; omega)
  have Z7 : BF (w.heap.size + 1) #[.int .i64 0, .int .i64 0, .int .i64 0, .int .i64 0, .int .i64 0, .int .i64 0, .int .i64 0, .bool false, .slice none 0 0] w7 := by rw [hv7]; exact Z6.far ⟨M, 6, none⟩ _ (by show M ≠ w.heap.size + 1; omega)
  have B7 : Below w.heap.size w w7 := by rw [hv7]; exact Below.setCell B6 (by show w.heap.size ≤ M; omega) _
  have a5 := (unhide A5).S
  have m5 := (unhide M5).S
  have m5f := (unhide M5).F
  have a6 := A6.S
  have m6 := M6.S
  have m6f := M6.F
  have a7 := A7.S
  have m7 := M7.S
  have HA7 := hide A7
  have HM7 := hide M7
  have HZ7 := hide Z7
  have HB7 := hide B7
  rw [hv6] at a6 m6 m6f
  rw [hv7, hv6] at a7 m7
  clear A6 A7 M6 M7 Z6 Z7 B6 B7
  have j0 : (0 : Int) ≤ (j : Int) := by omega
  have j1 : (j : Int) ≤ (n : Int) := by omega
  have HNJ : Hid ((l.drop j).length = n - j) := by show _ = _; rw [List.length_drop, unhide HN]
  have RJ : ∀ W, Below w.heap.size w W → ∃ ad cd, (ad = a ∧ cd = 0 ∧ cap = j ∨ ad = Option.map (fun x => x.add (j * 2)) a ∧ cd = cap - j ∧ ¬ cap = j) ∧ RowV W ad (cE (l.drop j)) := by
    intro W hW
    by_cases hcj : cap = j
    · exact ⟨a, 0, .inl ⟨rfl, rfl, hcj⟩, .inl (by rw [List.drop_eq_nil_of_le (by rw [unhide HN]; omega)]; rfl)⟩
    · exact ⟨_, _, .inr ⟨rfl, rfl, hcj⟩, rowV_dropE ((unhide HR).below hW) j⟩
  have TJ : Hid (∀ W, Below w.heap.size w W → ∃ ad cd, (ad = a ∧ cd = 0 ∧ cap = j ∨ ad = Option.map (fun x => x.add (j * 2)) a ∧ cd = cap - j ∧ ¬ cap = j) ∧ Calls Try.prog 46 #[.slice ad (n - j) cd] W fun e w' => ∃ v, e = .returned v ∧ w'.ownsRow W.heap.size 68 2 v (n - j) (cE (l.drop j)) ∧ Below W.heap.size W w') := fun W hW => by
    obtain ⟨ad, cd, h1, h2⟩ := RJ W hW
    exact ⟨ad, cd, h1, icloneA ad cd (n - j) (l.drop j) HNJ (by omega) W h2⟩
  clear RJ
  have FIN : Hid (∀ (v : Value) (w8 : World), Below w7.heap.size w7 w8 → w8.ownsRow w7.heap.size 68 2 v (n - j) (cE (l.drop j)) → BF M #[.int .i64 3, .int .i64 id, .int .i64 (t : Int), .int .i64 tm, .int .i64 (j : Int), .int .i64 TT, .int .i64 cm, .bool false, .slice none 0 0] w8 ∧ BF (w.heap.size + 1) #[.int .i64 0, .int .i64 0, .int .i64 0, .int .i64 0, .int .i64 0, .int .i64 0, .int .i64 0, .bool false, .slice none 0 0] w8 ∧ Below w.heap.size w w8 ∧ w8.ownsRow w.heap.size 68 2 v (n - j) (cE (l.drop j)) ∧ v.ownBlock ≠ some M ∧ v.ownBlock ≠ some (w.heap.size + 1)) := fun v w8 hb ho => ⟨(unhide HM7).below hb, (unhide HZ7).below hb, (unhide HB7).trans (hb.mono (unhide HB7).size), own_low ho (unhide HB7).size, fun h => by have := (ho.lt _ h).1; have := (unhide HM7).lt; omega, fun h => by have := (ho.lt _ h).1; have := (unhide HZ7).lt; omega⟩
  by_cases hcj : cap = j
  · go_wp2_with fail
    rw [← hv6, ← hv7]
    obtain ⟨ad, cd, hor, hC⟩ := unhide TJ w7 (unhide HB7)
    rcases hor with ⟨rfl, rfl, -⟩ | ⟨-, -, h⟩
    · refine hC.mono ?_
      rintro e w8 ⟨v, rfl, ho8, hb8⟩
      obtain ⟨M8, Z8, B8, O8, nM, nZ⟩ := unhide FIN v w8 hb8 ho8
      obtain ⟨av8, cv8, rfl, -⟩ := ownZ_rowV ho8
      obtain ⟨w9, hv9⟩ : ∃ w9, w9 = w8.setCell ⟨M, 8, none⟩ (.slice av8 (n - j) cv8) := ⟨_, rfl⟩
      have M9 : BF M #[.int .i64 3, .int .i64 id, .int .i64 (t : Int), .int .i64 tm, .int .i64 (j : Int), .int .i64 TT, .int .i64 cm, .bool false, .slice av8 (n - j) cv8] w9 := by rw [hv9]; exact M8.set 8 (by simp) _
      have Z9 : BF (w.heap.size + 1) #[.int .i64 0, .int .i64 0, .int .i64 0, .int .i64 0, .int .i64 0, .int .i64 0, .int .i64 0, .bool false, .slice none 0 0] w9 := by rw [hv9]; exact Z8.far ⟨M, 8, none⟩ _ (by show M ≠ w.heap.size + 1; omega)
      have B9 := hide (show Below w.heap.size w w9 by rw [hv9]; exact Below.setCell B8 (by show w.heap.size ≤ M; omega) _)
      have O9 := hide (own_farJ (p := M) (w' := w9) O8 (fun k hk => by rw [hv9]; exact Below.heap_setCell _ _ _ _ hk) nM)
      have m8 := M8.S
      have m8f := M8.F
      have m9 := M9.S
      have z9 := Z9.S
      have z9f := Z9.F
      have HZ9 := hide Z9
      have HV9 := hide hv9
      rw [hv9] at m9 z9 z9f
      clear M9 Z9 hv9 M8 Z8 B8 O8 ho8 hb8 a5 m5 m5f a6 m6 m6f a7 m7 hC
      obtain ⟨wz, hvz, hFZ, hfz, hbz⟩ := put9 w9 (unhide HZ9) (.int .i64 3) (.int .i64 id) (.int .i64 (t : Int)) (.int .i64 tm) (.int .i64 (j : Int)) (.int .i64 TT) (.int .i64 cm) (.bool false) (.slice av8 (n - j) cv8)
      have OZ := hide (own_farJ (unhide O9) hfz nZ)
      have BZ := hide ((unhide B9).trans (hbz.mono (Nat.le_succ _)))
      have kf := hFZ.S
      go_wp2_with fail
      rw [← unhide HV9, ← hvz]
      refine bodyPost_ret (v := .agg #[.int .i64 3, .int .i64 id, .int .i64 (t : Int), .int .i64 tm, .int .i64 (j : Int), .int .i64 TT, .int .i64 cm, .bool false, .slice av8 (n - j) cv8]) (by simp [results, Try.results56, go_sem, kf]) rfl ⟨_, rfl, unhide OZ, unhide BZ⟩
    · exact absurd hcj h
  · go_wp2_with fail
    rw [← hv6, ← hv7]
    obtain ⟨ad, cd, hor, hC⟩ := unhide TJ w7 (unhide HB7)
    rcases hor with ⟨-, -, h⟩ | ⟨rfl, rfl, -⟩
    · exact absurd h hcj
    · refine hC.mono ?_
      rintro e w8 ⟨v, rfl, ho8, hb8⟩
      obtain ⟨M8, Z8, B8, O8, nM, nZ⟩ := unhide FIN v w8 hb8 ho8
      obtain ⟨av8, cv8, rfl, -⟩ := ownZ_rowV ho8
      obtain ⟨w9, hv9⟩ : ∃ w9, w9 = w8.setCell ⟨M, 8, none⟩ (.slice av8 (n - j) cv8) := ⟨_, rfl⟩
      have M9 : BF M #[.int .i64 3, .int .i64 id, .int .i64 (t : Int), .int .i64 tm, .int .i64 (j : Int), .int .i64 TT, .int .i64 cm, .bool false, .slice av8 (n - j) cv8] w9 := by rw [hv9]; exact M8.set 8 (by simp) _
      have Z9 : BF (w.heap.size + 1) #[.int .i64 0, .int .i64 0, .int .i64 0, .int .i64 0, .int .i64 0, .int .i64 0, .int .i64 0, .bool false, .slice none 0 0] w9 := by rw [hv9]; exact Z8.far ⟨M, 8, none⟩ _ (by show M ≠ w.heap.size + 1; omega)
      have B9 := hide (show Below w.heap.size w w9 by rw [hv9]; exact Below.setCell B8 (by show w.heap.size ≤ M; omega) _)
      have O9 := hide (own_farJ (p := M) (w' := w9) O8 (fun k hk => by rw [hv9]; exact Below.heap_setCell _ _ _ _ hk) nM)
      have m8 := M8.S
      have m8f := M8.F
      have m9 := M9.S
      have z9 := Z9.S
      have z9f := Z9.F
      have HZ9 := hide Z9
      have HV9 := hide hv9
      rw [hv9] at m9 z9 z9f
      clear M9 Z9 hv9 M8 Z8 B8 O8 ho8 hb8 a5 m5 m5f a6 m6 m6f a7 m7 hC
      obtain ⟨wz, hvz, hFZ, hfz, hbz⟩ := put9 w9 (unhide HZ9) (.int .i64 3) (.int .i64 id) (.int .i64 (t : Int)) (.int .i64 tm) (.int .i64 (j : Int)) (.int .i64 TT) (.int .i64 cm) (.bool false) (.slice av8 (n - j) cv8)
      have OZ := hide (own_farJ (unhide O9) hfz nZ)
      have BZ := hide ((unhide B9).trans (hbz.mono (Nat.le_succ _)))
      have kf := hFZ.S
      go_wp2_with fail
      rw [← unhide HV9, ← hvz]
      refine bodyPost_ret (v := .agg #[.int .i64 3, .int .i64 id, .int .i64 (t : Int), .int .i64 tm, .int .i64 (j : Int), .int .i64 TT, .int .i64 cm, .bool false, .slice av8 (n - j) cv8]) (by simp [results, Try.results56, go_sem, kf]) rfl ⟨_, rfl, unhide OZ, unhide BZ⟩
end Go.Proofs.Ytjlajpnhcphngaa
