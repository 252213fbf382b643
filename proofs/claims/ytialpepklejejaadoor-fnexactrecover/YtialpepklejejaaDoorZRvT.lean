/- spec.Recover: what the specification answers. -/
import Derived.Test.YtialpepklejejaaDoorZRvS
import Derived.Test.YtialpepklejejaaDoorZStoS
namespace Go.Proofs.YtialpepklejejaaDoor
open Go.ChangeShapes Go.WideShapes Go.ChangeAt Go.RowKit
set_option linter.unusedVariables false
set_option maxHeartbeats 8000000 in
set_option maxRecDepth 100000 in
theorem srecov (d : ByteArray) (s : Int) (hd : Hid (d.size ≤ maxLen)) (tm' vt' : Int) (l' : List Ent) (n' : Nat) (d2 : ByteArray) (s2 c : Int) (HIS : Hid (RvIs d s tm' vt' l' d2 s2 c)) (HN' : Hid (l'.length = n')) (hn6 : Hid (n' ≤ 1048576)) (w : World) :
    Calls Tryd.prog 5 #[.agg #[.string d, .int .i64 s]] w fun e w' => ∃ v, e = .returned (.tuple #[.agg #[.int .i64 tm', .int .i64 vt', v], .agg #[.string d2, .int .i64 s2], .int .i64 c]) ∧ w'.ownsRow w.heap.size 62 2 v n' (cE l') ∧ Below w.heap.size w w' := by
  have B0 := hide (Go.Joins.below_alloc3 w (.cells #[.string d, .int .i64 s] 28) (.cells #[.int .i64 0, .int .i64 0, .slice none 0 0] 27) (.cells #[.string ⟨#[]⟩, .int .i64 0] 28))
  have A0 := hide (((BF.new w #[.string d, .int .i64 s] 28).alloc (.cells #[.int .i64 0, .int .i64 0, .slice none 0 0] 27)).alloc (.cells #[.string ⟨#[]⟩, .int .i64 0] 28))
  have Z0 := hide ((BF.new (w.alloc (.cells #[.string d, .int .i64 s] 28)) #[.int .i64 0, .int .i64 0, .slice none 0 0] 27).alloc (.cells #[.string ⟨#[]⟩, .int .i64 0] 28))
  have Y0 := hide (BF.new ((w.alloc (.cells #[.string d, .int .i64 s] 28)).alloc (.cells #[.int .i64 0, .int .i64 0, .slice none 0 0] 27)) #[.string ⟨#[]⟩, .int .i64 0] 28)
  simp only [World.size_alloc] at Z0 Y0
  have his := unhide HIS
  unfold RvIs at his
  obtain ⟨R, hR⟩ : ∃ R, R = stoB d s := ⟨_, rfl⟩
  rw [← hR] at his
  have HR := hide hR
  have HI := hide his
  clear hR his HIS
  go_enter Tryd.func5, Tryd.ntmps5
  go_wp2_with fail
  refine (sstoreok d s hd R HR _).mono ?_
  rintro e w1 ⟨rfl, hb1⟩
  have B1 := hide ((unhide B0).trans (hb1.mono (unhide B0).size))
  have A1 := hide ((unhide A0).below hb1)
  have Z1 := hide ((unhide Z0).below hb1)
  have Y1 := hide ((unhide Y0).below hb1)
  clear hb1 B0 A0 Z0 Y0
  cases R with
  | false =>
    obtain ⟨rfl, rfl, rfl, rfl, rfl, rfl⟩ : tm' = 0 ∧ vt' = 0 ∧ l' = [] ∧ d2 = ⟨#[]⟩ ∧ s2 = 0 ∧ c = 1 := by have := unhide HI; simpa using this
    obtain rfl : n' = 0 := (unhide HN').symm
    have kz := (unhide Z1).S
    have kzf := (unhide Z1).F
    have ky := (unhide Y1).S
    have kyf := (unhide Y1).F
    go_wp2_with fail
    refine bodyPost_ret (v := .tuple #[.agg #[.int .i64 0, .int .i64 0, .slice none 0 0], .agg #[.string ⟨#[]⟩, .int .i64 0], .int .i64 1]) (by simp [results, Tryd.results5, go_sem, kz, ky]) rfl ⟨_, rfl, World.ownsRow_nil _ _ _ _, ?_⟩
    repeat refine Below.setCell ?_ (by first | (show w.heap.size ≤ w.heap.size + 1; omega) | (show w.heap.size ≤ w.heap.size + 2; omega)) _
    exact unhide B1
  | true =>
    have hd6 : d.size ≤ 60000 := (sto_parts (unhide HR).symm).1
    have his2 := unhide HI
    rw [if_neg (by decide)] at his2
    have HI2 := hide his2
    have T := srec0 d s d.size rfl hd6 w1
    have a1 := (unhide A1).S
    clear hd6 his2 HI
    go_wp2_with fail
    refine T.mono ?_
    clear T a1
    rintro e w2 ⟨hto, hb2⟩
    have B2 := hide ((unhide B1).trans (hb2.mono (unhide B1).size))
    have Z2 := hide ((unhide Z1).below hb2)
    have Y2 := hide ((unhide Y1).below hb2)
    have zl : Hid (w.heap.size + 2 < w2.heap.size) := (unhide Y2).lt
    clear hb2 B1 A1 Z1 Y1
    rcases hto with ⟨c3, x, y, a, n, cp, hc, rfl⟩ | ⟨tm, vt, l, a, n, cp, h8, hal, hl, ho, rfl⟩
    · obtain ⟨⟨rfl, rfl, rfl, rfl, rfl, rfl⟩, hc0⟩ : (tm' = 0 ∧ vt' = 0 ∧ l' = [] ∧ d2 = ⟨#[]⟩ ∧ s2 = 0 ∧ c = c3) ∧ (c3 = 8 ∨ c3 = 3) := by
        have hi := unhide HI2
        rcases hc with ⟨h8, rfl⟩ | ⟨h8, hn, rfl⟩
        · rw [if_pos h8] at hi; exact ⟨by simpa using hi, .inl rfl⟩
        · rw [if_neg h8, hn] at hi; exact ⟨by simpa using hi, .inr rfl⟩
      obtain rfl : n' = 0 := (unhide HN').symm
      have hb3 : Below w2.heap.size w2 ((w2.alloc (.cells #[.int .i64 x, .int .i64 y, .slice a n cp] 27)).alloc (.cells #[.string d, .int .i64 s] 28)) := Go.Joins.below_alloc2 w2 (.cells #[.int .i64 x, .int .i64 y, .slice a n cp] 27) (.cells #[.string d, .int .i64 s] 28)
      have B3 := hide ((unhide B2).trans (hb3.mono (unhide B2).size))
      have Z3 := hide ((unhide Z2).below hb3)
      have Y3 := hide ((unhide Y2).below hb3)
      have U3 := hide ((BF.new w2 #[.int .i64 x, .int .i64 y, .slice a n cp] 27).alloc (.cells #[.string d, .int .i64 s] 28))
      have V3 := hide (BF.new (w2.alloc (.cells #[.int .i64 x, .int .i64 y, .slice a n cp] 27)) #[.string d, .int .i64 s] 28)
      simp only [World.size_alloc] at V3
      have nc : (c != 0) = true := by rcases hc0 with rfl | rfl <;> rfl
      clear hc hc0 HI2 hb3 U3 V3 B2 Z2 Y2
      have kz := (unhide Z3).S
      have kzf := (unhide Z3).F
      have ky := (unhide Y3).S
      have kyf := (unhide Y3).F
      go_wp2_with fail
      refine bodyPost_ret (v := .tuple #[.agg #[.int .i64 0, .int .i64 0, .slice none 0 0], .agg #[.string ⟨#[]⟩, .int .i64 0], .int .i64 c]) (by simp [results, Tryd.results5, go_sem, kz, ky]) rfl ⟨_, rfl, World.ownsRow_nil _ _ _ _, ?_⟩
      repeat refine Below.setCell ?_ (by first | (show w.heap.size ≤ w.heap.size + 1; omega) | (show w.heap.size ≤ w.heap.size + 2; omega)) _
      exact unhide B3
    · obtain ⟨rfl, rfl, rfl, hd2, hs2, rfl⟩ : tm = tm' ∧ vt = vt' ∧ l = l' ∧ d.extract 0 (frs d.size d.data.toList).2.1 = d2 ∧ ((frs d.size d.data.toList).2.1 : Int) = s2 ∧ 0 = c := by
        have hi := unhide HI2
        rw [if_neg h8, hal] at hi
        injection hi with h1 hi; injection hi with h2 hi; injection hi with h3 hi; injection hi with h4 hi; injection hi with h5 h6
        exact ⟨h1.symm, h2.symm, h3.symm, h4.symm, h5.symm, h6.symm⟩
      rw [hd2, hs2]
      obtain rfl : n = n' := hl.symm.trans (unhide HN')
      have HN := hide hl
      have hb3 : Below w2.heap.size w2 ((w2.alloc (.cells #[.int .i64 tm, .int .i64 vt, .slice a n cp] 27)).alloc (.cells #[.string d2, .int .i64 s2] 28)) := Go.Joins.below_alloc2 w2 (.cells #[.int .i64 tm, .int .i64 vt, .slice a n cp] 27) (.cells #[.string d2, .int .i64 s2] 28)
      have B3 := hide ((unhide B2).trans (hb3.mono (unhide B2).size))
      have Z3 := hide ((unhide Z2).below hb3)
      have Y3 := hide ((unhide Y2).below hb3)
      have U3 := hide ((BF.new w2 #[.int .i64 tm, .int .i64 vt, .slice a n cp] 27).alloc (.cells #[.string d2, .int .i64 s2] 28))
      have V3 := hide (BF.new (w2.alloc (.cells #[.int .i64 tm, .int .i64 vt, .slice a n cp] 27)) #[.string d2, .int .i64 s2] 28)
      simp only [World.size_alloc] at V3
      have R3 := hide ((rowZ_at ho).below hb3)
      obtain ⟨U, hU⟩ : ∃ U, U = w2.heap.size := ⟨_, rfl⟩
      obtain ⟨V, hV⟩ : ∃ V, V = w2.heap.size + 1 := ⟨_, rfl⟩
      have hUz : w.heap.size + 2 < U ∧ w.heap.size + 2 < V := by have := unhide zl; omega
      obtain ⟨hUz, hVz⟩ := hUz
      rw [← hU] at U3
      rw [← hV] at V3
      clear h8 hal hl HI2 hb3 B2 Z2 Y2 hd2 hs2 ho
      have ku := (unhide U3).S
      go_wp2_with fail
      rw [← hV, ← hU]
      clear hU hV ku
      generalize ((w2.alloc (.cells #[.int .i64 tm, .int .i64 vt, .slice a n cp] 27)).alloc (.cells #[.string d2, .int .i64 s2] 28)) = w3 at U3 V3 Z3 Y3 B3 R3 ⊢
      have k6 : (∀ o, w3.cell? ⟨U, o, none⟩ = (#[.int .i64 tm, .int .i64 vt, .slice a n cp] : Array Value)[o]?) ∧ (∀ o, w3.cell? ⟨V, o, none⟩ = (#[.string d2, .int .i64 s2] : Array Value)[o]?) := ⟨(unhide U3).S, (unhide V3).S⟩
      have U5 := hide (unhide U3).drew
      have V5 := hide (unhide V3).drew
      have Z5 := hide (unhide Z3).drew
      have Y5 := hide (unhide Y3).drew
      have B5 := hide (unhide B3).drew
      have R5 := hide ((unhide R3).below (Below.refl _ _).drew)
      clear U3 V3 Z3 Y3 B3 R3
      refine wp_region_held_drew (S := fun w' => (∀ o, w'.cell? ⟨U, o, none⟩ = (#[.int .i64 tm, .int .i64 vt, .slice a n cp] : Array Value)[o]?) ∧ (∀ o, w'.cell? ⟨V, o, none⟩ = (#[.string d2, .int .i64 s2] : Array Value)[o]?)) (by kernel_rfl) k6 (fun hHeld => ?_)
      generalize w3.drew = v5 at U5 V5 Z5 Y5 B5 R5 hHeld ⊢
      refine wpAnyH_take (i := 0) (oi := { dst := some 24, op := .load 27 (.tmp 5), type := 27, pos := "l07_store.go:177", after := #[], guard := none }) (v := ?_) rfl (by kernel_rfl) (by kernel_rfl) (by kernel_rfl) (fun _ _ _ h => h) (Or.inl ⟨by rfl, ?_⟩) (by assumption) ?_
      rotate_left 1
      · (intro w' hSw; (try dsimp only at hSw); go_simp; try with_reducible rfl)
      try simp only [Act.put, List.setIfInBounds_toArray, List.set_cons_zero, List.set_cons_succ]
      refine wpAnyH_take (i := 2) (oi := { dst := some 26, op := .load 28 (.tmp 6), type := 28, pos := "l07_store.go:177", after := #[{ on := 3, ground := .gcOnly Go.Departure.lateStores }], guard := none }) (v := ?_) rfl (by kernel_rfl) (by kernel_rfl) (by kernel_rfl) (fun _ _ _ h => h) (Or.inl ⟨by rfl, ?_⟩) (by assumption) ?_
      rotate_left 1
      · (intro w' hSw; (try dsimp only at hSw); go_simp; try with_reducible rfl)
      try simp only [Act.put, List.setIfInBounds_toArray, List.set_cons_zero, List.set_cons_succ]
      refine wpAnyH_ready (rs := [1]) (by kernel_rfl) (by simp) ?_
      refine AllReadyH.cons (o := { dst := some 25, op := .call { callee := .value (.func 14), args := #[.tmp 24], argTypes := #[27] }, type := 27, pos := "l07_store.go:177", after := #[{ on := 0, ground := .data }], guard := none }) rfl (fun K hK => ?_) AllReadyH.nil
      go_simp
      refine (sown tm vt a cp n l HN (unhide hn6) _ (unhide R5)).mono ?_
      rintro e v6 ⟨vx, rfl, ho6, hb6⟩
      obtain ⟨a6, c6, rfl, -⟩ := ownZ_rowV ho6
      have U6 := hide ((unhide U5).below hb6)
      have V6 := hide ((unhide V5).below hb6)
      have Z6 := hide ((unhide Z5).below hb6)
      have Y6 := hide ((unhide Y5).below hb6)
      have B6 := hide ((unhide B5).trans (hb6.mono (unhide B5).size))
      have nz : Hid ((Value.slice a6 n c6).ownBlock ≠ some (w.heap.size + 1)) := fun h => by have := (ho6.lt _ h).1; have := (unhide Z5).lt; omega
      have ny : Hid ((Value.slice a6 n c6).ownBlock ≠ some (w.heap.size + 2)) := fun h => by have := (ho6.lt _ h).1; have := (unhide Y5).lt; omega
      have O6 := hide (own_low ho6 (unhide B5).size)
      clear hb6 ho6 U5 V5 Z5 Y5 B5 R5
      go_wp2_with fail
      refine hK.out _ _ ?_ (fun hHeld1 => ?_)
      · exact ⟨(unhide U6).S, (unhide V6).S⟩
      clear hK K
      try simp only [Act.put, List.setIfInBounds_toArray, List.set_cons_zero, List.set_cons_succ]
      refine wpAnyH_ready (rs := [3]) (by kernel_rfl) (by simp) ?_
      refine AllReadyH.cons (o := { dst := none, op := .store 27 (.tmp 2) (.tmp 25), type := 0, pos := "l07_store.go:177", after := #[{ on := 1, ground := .data }, { on := 1, ground := .chain }, { on := 0, ground := .phase }, { on := 1, ground := .phase }, { on := 2, ground := .textOnly Go.Departure.lateStores }], guard := none }) rfl (fun K hK => ?_) AllReadyH.nil
      have kz := (unhide Z6).S
      have kzf := (unhide Z6).F
      obtain ⟨wz, hvz, hFZ, hbz⟩ := put3 v6 (unhide Z6) (.int .i64 tm) (.int .i64 vt) (.slice a6 n c6)
      have hfz : ∀ k, k ≠ w.heap.size + 1 → wz.heap[k]? = v6.heap[k]? := fun k hk => by rw [hvz]; iterate 3 rw [Below.heap_setCell _ _ _ _ hk]
      have U7 := hide ((unhide U6).keep hbz.size (hfz U (by omega)))
      have V7 := hide ((unhide V6).keep hbz.size (hfz V (by omega)))
      have Y7 := hide ((unhide Y6).keep hbz.size (hfz (w.heap.size + 2) (by omega)))
      have O7 := hide (own_far (unhide O6) hfz (unhide nz))
      have B7 := hide ((unhide B6).trans (hbz.mono (Nat.le_succ _)))
      have Z7 := hide hFZ
      go_simp
      rw [← hvz]
      refine hK.out _ _ ?_ (fun hHeld3 => ?_)
      · exact ⟨(unhide U7).S, (unhide V7).S⟩
      clear hK K
      try simp only [Act.put, List.setIfInBounds_toArray, List.set_cons_zero, List.set_cons_succ]
      refine wpAnyH_ready (rs := [4]) (by kernel_rfl) (by simp) ?_
      refine AllReadyH.cons (o := { dst := none, op := .store 28 (.tmp 3) (.tmp 26), type := 0, pos := "l07_store.go:177", after := #[{ on := 2, ground := .data }, { on := 3, ground := .chain }, { on := 0, ground := .phase }, { on := 1, ground := .phase }, { on := 2, ground := .phase }, { on := 3, ground := .phase }], guard := none }) rfl (fun K hK => ?_) AllReadyH.nil
      clear hvz hfz hbz hFZ kz kzf U6 V6 Y6 O6 B6 Z6
      have ky := (unhide Y7).S
      have kyf := (unhide Y7).F
      obtain ⟨wy, hvy, hFY, hfy, hby⟩ := put2 wz (unhide Y7) (.string d2) (.int .i64 s2)
      have U8 := hide ((unhide U7).keep hby.size (hfy U (by omega)))
      have V8 := hide ((unhide V7).keep hby.size (hfy V (by omega)))
      have Z8 := hide ((unhide Z7).keep hby.size (hfy (w.heap.size + 1) (by omega)))
      have O8 := hide (own_far (unhide O7) hfy (unhide ny))
      have B8 := hide ((unhide B7).trans (hby.mono (by omega)))
      go_simp
      rw [← hvy]
      refine hK.out _ _ ?_ (fun hHeld4 => ?_)
      · exact ⟨(unhide U8).S, (unhide V8).S⟩
      clear hK K
      try simp only [Act.put, List.setIfInBounds_toArray, List.set_cons_zero, List.set_cons_succ]
      refine wpAnyH_take (i := 5) (oi := { dst := some 4, op := .assign (.const (.int .i64 0)), type := 3, pos := "l07_store.go:177", after := #[{ on := 4, ground := .chain }, { on := 0, ground := .phase }, { on := 1, ground := .phase }, { on := 2, ground := .phase }, { on := 3, ground := .phase }, { on := 4, ground := .phase }], guard := none }) (v := ?_) rfl (by kernel_rfl) (by kernel_rfl) (by kernel_rfl) (fun _ _ _ h => h) (Or.inl ⟨by rfl, ?_⟩) (by assumption) ?_
      rotate_left 1
      · (intro w' hSw; (try dsimp only at hSw); go_simp; try with_reducible rfl)
      try simp only [Act.put, List.setIfInBounds_toArray, List.set_cons_zero, List.set_cons_succ]
      refine wpAnyH_done (by kernel_rfl) ?_ _
      have kz := (unhide Z8).S
      have ky2 := hFY.S
      clear hvy hfy hby ky kyf
      go_wp2_with fail
      refine bodyPost_ret (v := .tuple #[.agg #[.int .i64 tm, .int .i64 vt, .slice a6 n c6], .agg #[.string d2, .int .i64 s2], .int .i64 0]) (by simp [results, Tryd.results5, go_sem, kz, ky2]) rfl ⟨_, rfl, unhide O8, unhide B8⟩
end Go.Proofs.YtialpepklejejaaDoor
