/- spec.ApplyRecord: what the specification answers. -/
import Derived.Test.YtninnmcehcaadaaDoorZSapX
namespace Go.Proofs.YtninnmcehcaadaaDoor
open Go.ChangeShapes Go.WideShapes Go.ChangeAt Go.RowKit
set_option linter.unusedVariables false
set_option maxHeartbeats 4000000 in
set_option maxRecDepth 100000 in
theorem sapp (tm vt : Int) (a : Option Addr) (cap n : Nat) (l : List (Int × ByteArray)) (HN : Hid (l.length = n)) (hn : n ≤ 1048576) (HSZ : Hid (∀ k (h : k < l.length), l[k].2.size ≤ 1048576)) (t : ByteArray) (sz : Nat) (hsz : sz = t.size) (htm : sz ≤ 1048576) (tm' vt' : Int) (l' : List (Int × ByteArray)) (n' : Nat) (c : Int) (HIS : Hid (ApIs tm vt l t tm' vt' l' c)) (HN' : Hid (l'.length = n')) (hn' : Hid (n' ≤ 1048576)) (w : World) (hr : RowV w a (cE l)) :
    Calls Tryd.prog 5 #[.agg #[.int .i64 tm, .int .i64 vt, .slice a n cap], .string t] w fun e w' => ∃ v, e = .returned (.tuple #[.agg #[.int .i64 tm', .int .i64 vt', v], .int .i64 c]) ∧ w'.ownsRow w.heap.size 53 2 v n' (cE l') ∧ Below w.heap.size w w' := by
  have B0 := hide (Go.Joins.below_alloc2 w (.cells #[.int .i64 tm, .int .i64 vt, .slice a n cap] 28) (.cells #[.int .i64 0, .int .i64 0, .slice none 0 0] 28))
  have A0 := hide ((BF.new w #[.int .i64 tm, .int .i64 vt, .slice a n cap] 28).alloc (.cells #[.int .i64 0, .int .i64 0, .slice none 0 0] 28))
  have Z0 := hide (BF.new (w.alloc (.cells #[.int .i64 tm, .int .i64 vt, .slice a n cap] 28)) #[.int .i64 0, .int .i64 0, .slice none 0 0] 28)
  rw [show (w.alloc (.cells #[.int .i64 tm, .int .i64 vt, .slice a n cap] 28)).heap.size = w.heap.size + 1 from by simp] at Z0
  have HR := hide hr
  have la : (t.size : Int) = (sz : Int) := by rw [hsz]
  have his := unhide HIS
  unfold ApIs at his
  rw [← hsz] at his
  have HTS := hide hsz
  have kz0 := (unhide Z0).S
  have kzf0 := (unhide Z0).F
  clear hr hsz HIS
  go_enter Tryd.func5, Tryd.ntmps5
  by_cases hlong : 65536 < sz
  · rw [if_pos hlong] at his
    simp at his
    obtain ⟨rfl, rfl, rfl, rfl⟩ := his
    obtain rfl : n' = 0 := (unhide HN').symm
    have dl : (65536 : Int) < (sz : Int) := by omega
    go_wp2_with fail
    refine bodyPost_ret (v := .tuple #[.agg #[.int .i64 0, .int .i64 0, .slice none 0 0], .int .i64 2]) (by simp [results, Tryd.results5, go_sem, kz0]) rfl ⟨_, rfl, World.ownsRow_nil _ _ _ _, ?_⟩
    exact unhide B0
  rw [if_neg hlong] at his
  have dl : ¬ (65536 : Int) < (sz : Int) := by omega
  have hs6 : sz ≤ 65536 := by omega
  obtain ⟨R, hRR⟩ : ∃ R, R = stateB tm vt l := ⟨_, rfl⟩
  rw [← hRR] at his
  have HRR := hide hRR
  have HI := hide his
  clear hRR his hlong
  go_wp2_with fail
  refine (sstateok tm vt a cap n l HN hn HSZ R HRR _ ((unhide HR).below (unhide B0))).mono ?_
  rintro e w1 ⟨rfl, hb1⟩
  have B1 := hide ((unhide B0).trans (hb1.mono (unhide B0).size))
  have A1 := hide ((unhide A0).below hb1)
  have Z1 := hide ((unhide Z0).below hb1)
  clear hb1 B0 A0 Z0 kz0 kzf0
  have ka := (unhide A1).S
  have kz := (unhide Z1).S
  have kzf := (unhide Z1).F
  cases R with
  | false =>
    obtain ⟨rfl, rfl, rfl, rfl⟩ : tm' = 0 ∧ vt' = 0 ∧ l' = [] ∧ c = 1 := by have := unhide HI; simpa using this
    obtain rfl : n' = 0 := (unhide HN').symm
    go_wp2_with fail
    refine bodyPost_ret (v := .tuple #[.agg #[.int .i64 0, .int .i64 0, .slice none 0 0], .int .i64 1]) (by simp [results, Tryd.results5, go_sem, kz]) rfl ⟨_, rfl, World.ownsRow_nil _ _ _ _, ?_⟩
    iterate 3 refine Below.setCell ?_ (by show w.heap.size ≤ w.heap.size + 1; omega) _
    exact unhide B1
  | true =>
    have hn60 : n ≤ 60 := by have h := (state_parts (unhide HRR).symm).2.2.1; have := unhide HN; omega
    go_wp2_with fail
    refine (sapply tm vt a cap n l HN (by omega) HSZ t (by rw [← unhide HTS]; exact hs6) _ ((unhide HR).below (unhide B1))).mono ?_
    rintro e w2 ⟨hto, hb2⟩
    have B2 := hide ((unhide B1).trans (hb2.mono (unhide B1).size))
    have A2 := hide ((unhide A1).below hb2)
    have Z2 := hide ((unhide Z1).below hb2)
    clear hb2 ka kz kzf
    cases hF : apF tm vt l t with
    | none =>
      rw [hF] at hto
      obtain ⟨x, y, a2, n2, c2, rfl⟩ := hto
      obtain ⟨rfl, rfl, rfl, rfl⟩ : tm = tm' ∧ vt = vt' ∧ l = l' ∧ 3 = c := by
        have h := unhide HI
        rw [hF] at h
        simp at h
        exact ⟨h.1.symm, h.2.1.symm, h.2.2.1.symm, h.2.2.2.symm⟩
      obtain rfl : n = n' := (unhide HN).symm.trans (unhide HN')
      clear hF HI B1 A1 Z1
      have B3 := hide ((unhide B2).alloc (unhide B2).size (.cells #[.int .i64 x, .int .i64 y, .slice a2 n2 c2] 28))
      have A3 := hide ((unhide A2).alloc (.cells #[.int .i64 x, .int .i64 y, .slice a2 n2 c2] 28))
      have Z3 := hide ((unhide Z2).alloc (.cells #[.int .i64 x, .int .i64 y, .slice a2 n2 c2] 28))
      have ka := (unhide A3).S
      clear B2 A2 Z2
      go_wp2_with fail
      refine (sown tm vt a cap n l HN hn _ ((unhide HR).below (unhide B3))).mono ?_
      rintro e w3 ⟨v3, rfl, ho3, hb3⟩
      obtain ⟨a3, c3, rfl, -⟩ := ownZ_rowV ho3
      have B4 := hide ((unhide B3).trans (hb3.mono (unhide B3).size))
      have Z4 := hide ((unhide Z3).below hb3)
      have nz : (Value.slice a3 n c3).ownBlock ≠ some (w.heap.size + 1) := fun h => by have := (ho3.lt _ h).1; have := (unhide Z3).lt; omega
      have kz := (unhide Z4).S
      have kzf := (unhide Z4).F
      obtain ⟨wz, hvz, hFZ, hbz⟩ := put3 w3 (unhide Z4) (.int .i64 tm) (.int .i64 vt) (.slice a3 n c3)
      have hfz : ∀ k, k ≠ w.heap.size + 1 → wz.heap[k]? = w3.heap[k]? := fun k hk => by rw [hvz]; iterate 3 rw [Below.heap_setCell _ _ _ _ hk]
      have OZ := hide (own_low (own_far ho3 hfz nz) (unhide B3).size)
      have BZ := hide ((unhide B4).trans (hbz.mono (Nat.le_succ _)))
      have kf := hFZ.S
      clear hb3 ho3 B3 A3 Z3 ka hfz hbz
      go_wp2_with fail
      rw [← hvz]
      refine bodyPost_ret (v := .tuple #[.agg #[.int .i64 tm, .int .i64 vt, .slice a3 n c3], .int .i64 3]) (by simp [results, Tryd.results5, go_sem, kf]) rfl ⟨_, rfl, unhide OZ, unhide BZ⟩
    | some q =>
      obtain ⟨tm2, vt2, l2⟩ := q
      rw [hF] at hto
      obtain ⟨v2, rfl, ho2⟩ := hto
      obtain ⟨a2, c2, rfl, hr2⟩ := ownZ_rowV ho2
      obtain ⟨rfl, rfl, rfl, rfl⟩ : tm2 = tm' ∧ vt2 = vt' ∧ l2 = l' ∧ 0 = c := by
        have h := unhide HI
        rw [hF] at h
        simp at h
        exact ⟨h.1.symm, h.2.1.symm, h.2.2.1.symm, h.2.2.2.symm⟩
      have en := unhide HN'
      rw [en] at ho2 ⊢
      clear hF HI B1 A1 Z1 en
      have B3 := hide ((unhide B2).alloc (unhide B2).size (.cells #[.int .i64 tm2, .int .i64 vt2, .slice a2 n' c2] 28))
      have Z3 := hide ((unhide Z2).alloc (.cells #[.int .i64 tm2, .int .i64 vt2, .slice a2 n' c2] 28))
      have P3 := hide (BF.new w2 #[.int .i64 tm2, .int .i64 vt2, .slice a2 n' c2] 28)
      have hr3 := hide (hr2.below (Go.Joins.below_alloc1 w2 (.cells #[.int .i64 tm2, .int .i64 vt2, .slice a2 n' c2] 28)))
      have ka := (unhide P3).S
      clear B2 A2 Z2 ho2 hr2
      go_wp2_with fail
      refine (sown tm2 vt2 a2 c2 n' l2 HN' (unhide hn') _ (unhide hr3)).mono ?_
      rintro e w3 ⟨v3, rfl, ho3, hb3⟩
      obtain ⟨a3, c3, rfl, -⟩ := ownZ_rowV ho3
      have B4 := hide ((unhide B3).trans (hb3.mono (unhide B3).size))
      have Z4 := hide ((unhide Z3).below hb3)
      have nz : (Value.slice a3 n' c3).ownBlock ≠ some (w.heap.size + 1) := fun h => by have := (ho3.lt _ h).1; have := (unhide Z3).lt; omega
      have kz := (unhide Z4).S
      have kzf := (unhide Z4).F
      obtain ⟨wz, hvz, hFZ, hbz⟩ := put3 w3 (unhide Z4) (.int .i64 tm2) (.int .i64 vt2) (.slice a3 n' c3)
      have hfz : ∀ k, k ≠ w.heap.size + 1 → wz.heap[k]? = w3.heap[k]? := fun k hk => by rw [hvz]; iterate 3 rw [Below.heap_setCell _ _ _ _ hk]
      have OZ := hide (own_low (own_far ho3 hfz nz) (unhide B3).size)
      have BZ := hide ((unhide B4).trans (hbz.mono (Nat.le_succ _)))
      have kf := hFZ.S
      clear hb3 ho3 B3 Z3 P3 ka hfz hbz
      go_wp2_with fail
      rw [← hvz]
      refine bodyPost_ret (v := .tuple #[.agg #[.int .i64 tm2, .int .i64 vt2, .slice a3 n' c3], .int .i64 0]) (by simp [results, Tryd.results5, go_sem, kf]) rfl ⟨_, rfl, unhide OZ, unhide BZ⟩
end Go.Proofs.YtninnmcehcaadaaDoor
