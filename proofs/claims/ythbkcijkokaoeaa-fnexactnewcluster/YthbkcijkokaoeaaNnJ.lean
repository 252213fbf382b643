/- A new node: what the program answers. -/
import Derived.Test.YthbkcijkokaoeaaNnI
import Derived.Test.YthbkcijkokaoeaaNnM
namespace Go.Proofs.Ythbkcijkokaoeaa
open Go.ChangeShapes Go.WideShapes Go.ChangeAt Go.RowKit
set_option linter.unusedVariables false
set_option maxHeartbeats 4000000 in
set_option maxRecDepth 100000 in
theorem inewnode (id nd : Int) (i0 i1 i3 i9 : Int) (u : Bool) (lx lg : List Int) (nx ng : Nat) (c : Int) (HIS : Hid (NewIs id nd i0 i1 i3 i9 u lx lg c)) (HX : Hid (lx.length = nx)) (HG : Hid (lg.length = ng)) (w : World) :
    Calls Try.prog 12 #[.int .i64 id, .int .i64 nd] w fun e w' => NewTo w w' e i0 i1 i3 i9 u lx lg nx ng c ∧ Below w.heap.size w w' := by
  have B0 := hide (Go.Joins.below_alloc1 w (.cells #[.int .i64 0, .int .i64 0, .int .i64 0, .int .i64 0, .int .i64 0, .bool false, .slice none 0 0, .int .i64 0, .int .i64 0, .int .i64 0, .slice none 0 0, .slice none 0 0, .slice none 0 0] 38))
  have K0 := hide (BF.new w #[.int .i64 0, .int .i64 0, .int .i64 0, .int .i64 0, .int .i64 0, .bool false, .slice none 0 0, .int .i64 0, .int .i64 0, .int .i64 0, .slice none 0 0, .slice none 0 0, .slice none 0 0] 38)
  have k0 := (unhide K0).S
  have kf := (unhide K0).F
  go_enter Try.func12, Try.ntmps12
  rcases bdic (inB nd 1 5) with c0 | c0
  · have hz := unhide HIS
    unfold NewIs at hz
    rw [c0] at hz
    simp at hz
    obtain ⟨rfl, rfl, rfl, rfl, rfl, rfl, rfl, rfl⟩ := hz
    obtain rfl : nx = 0 := (unhide HX).symm
    obtain rfl : ng = 0 := (unhide HG).symm
    have HC0 := hide c0.symm
    clear c0
    go_wp2_with fail
    refine (iwi nd 1 5 false HC0 _).mono ?_
    rintro e w1 ⟨rfl, rfl⟩
    go_wp2_with fail
    refine bodyPost_ret (v := .tuple #[.agg #[.int .i64 0, .int .i64 0, .int .i64 0, .int .i64 0, .int .i64 0, .bool false, .slice none 0 0, .int .i64 0, .int .i64 0, .int .i64 0, .slice none 0 0, .slice none 0 0, .slice none 0 0], .int .i64 4]) (by simp [results, Try.results12, go_sem, k0]) rfl ⟨newTo_zero ?_, ?_⟩
    · simp
    · repeat refine Below.setCell ?_ (Nat.le_refl _) _
      exact unhide B0
  have HC0 := hide c0.symm
  have hnd0 : 1 ≤ nd ∧ nd ≤ 5 := by have := c0; unfold inB at this; simpa using this
  have e1 : IntKind.i64.wrap (nd - 1) = nd - 1 := wrapi _ (by omega) (by omega)
  rcases bdic (inB id 0 (nd - 1)) with c1 | c1
  · have hz := unhide HIS
    unfold NewIs at hz
    rw [c0, c1] at hz
    simp at hz
    obtain ⟨rfl, rfl, rfl, rfl, rfl, rfl, rfl, rfl⟩ := hz
    obtain rfl : nx = 0 := (unhide HX).symm
    obtain rfl : ng = 0 := (unhide HG).symm
    have HC1 := hide c1.symm
    clear c0 c1 hnd0
    go_wp2_with fail
    refine (iwi nd 1 5 true HC0 _).mono ?_
    rintro e w1 ⟨rfl, rfl⟩
    go_wp2_with fail
    refine (iwi id 0 (nd - 1) false HC1 _).mono ?_
    rintro e w1 ⟨rfl, rfl⟩
    go_wp2_with fail
    refine bodyPost_ret (v := .tuple #[.agg #[.int .i64 0, .int .i64 0, .int .i64 0, .int .i64 0, .int .i64 0, .bool false, .slice none 0 0, .int .i64 0, .int .i64 0, .int .i64 0, .slice none 0 0, .slice none 0 0, .slice none 0 0], .int .i64 4]) (by simp [results, Try.results12, go_sem, k0]) rfl ⟨newTo_zero ?_, ?_⟩
    · simp
    · repeat refine Below.setCell ?_ (Nat.le_refl _) _
      exact unhide B0
  have HC1 := hide c1.symm
  have hg := unhide HIS
  unfold NewIs at hg
  rw [c0, c1] at hg
  simp at hg
  obtain ⟨rfl, rfl, rfl, rfl, rfl, hx, hgg, rfl⟩ := hg
  have hnd : 1 ≤ i1 ∧ i1 ≤ 5 := by have := c0; unfold inB at this; simpa using this
  have hid : 0 ≤ i0 ∧ i0 ≤ i1 - 1 := by have := c1; unfold inB at this; simpa using this
  obtain ⟨m, hm⟩ : ∃ m : Nat, i1 = (m : Int) := ⟨i1.toNat, by omega⟩
  subst hm
  have e2 : IntKind.i64.wrap (5 + i0) = 5 + i0 := wrapi _ (by omega) (by omega)
  have hm1 : 1 ≤ m ∧ m ≤ 5 := by omega
  have B1 := hide ((unhide B0).alloc (unhide B0).size (.cells #[.int .i64 i0, .int .i64 (m : Int), .int .i64 0, .int .i64 (-1), .int .i64 0, .bool true, .slice none 0 0, .int .i64 0, .int .i64 0, .int .i64 (5 + i0), .slice none 0 0, .slice none 0 0, .slice none 0 0] 38))
  have P1 := hide (BF.new (w.alloc (.cells #[.int .i64 0, .int .i64 0, .int .i64 0, .int .i64 0, .int .i64 0, .bool false, .slice none 0 0, .int .i64 0, .int .i64 0, .int .i64 0, .slice none 0 0, .slice none 0 0, .slice none 0 0] 38)) #[.int .i64 i0, .int .i64 (m : Int), .int .i64 0, .int .i64 (-1), .int .i64 0, .bool true, .slice none 0 0, .int .i64 0, .int .i64 0, .int .i64 (5 + i0), .slice none 0 0, .slice none 0 0, .slice none 0 0] 38)
  have K1 := hide ((unhide K0).alloc (.cells #[.int .i64 i0, .int .i64 (m : Int), .int .i64 0, .int .i64 (-1), .int .i64 0, .bool true, .slice none 0 0, .int .i64 0, .int .i64 0, .int .i64 (5 + i0), .slice none 0 0, .slice none 0 0, .slice none 0 0] 38))
  simp only [World.size_alloc] at P1
  have HLX := hide hx
  have HLG := hide hgg
  clear c0 c1 hnd0 hnd hid HIS B0 K0 k0 kf hx hgg
  go_wp2_with fail
  refine (iwi (m : Int) 1 5 true HC0 _).mono ?_
  rintro e w1 ⟨rfl, rfl⟩
  go_wp2_with fail
  refine (iwi i0 0 ((m : Int) - 1) true HC1 _).mono ?_
  rintro e w1 ⟨rfl, rfl⟩
  go_wp2_with fail
  refine (ifollow (w.heap.size + 1) m hm1.1 hm1.2 i0 0 (-1) 0 0 0 (5 + i0) true (.slice none 0 0) (.slice none 0 0) (.slice none 0 0) (.slice none 0 0) _ (unhide P1)).mono ?_
  rintro e w2 ⟨rfl, gN, gM, lN, hN, lM, hM, hP, hNr, hMr, h3, h4, h6, h7, hO⟩
  simp only [World.size_alloc] at h3 h4
  have P2 := hide hP
  have K2 := hide ((unhide K1).outs hO (by omega))
  have B2 := hide (Below.outs (unhide B1) (unhide B1).size hO (by omega))
  have N2 := hide hNr
  have M2 := hide hMr
  have H3 := hide h3
  have H4 := hide h4
  have H6 := hide h6
  have H7 := hide h7
  clear hP hNr hMr h3 h4 h6 h7 hO P1 K1 B1
  have k2 := (unhide K2).S
  have kf2 := (unhide K2).F
  have p2 := (unhide P2).S
  have lt2 : w.heap.size < w2.heap.size := (unhide K2).lt
  go_wp2_with fail
  refine bodyPost_ret (v := .tuple #[.agg #[.int .i64 i0, .int .i64 (m : Int), .int .i64 0, .int .i64 (-1), .int .i64 0, .bool true, .slice none 0 0, .int .i64 0, .int .i64 0, .int .i64 (5 + i0), .slice none 0 0, .slice (some ⟨gN, 0, none⟩) m m, .slice (some ⟨gM, 0, none⟩) m m], .int .i64 0]) (by simp [results, Try.results12, go_sem, k2]) rfl ⟨?_, ?_⟩
  · have q3 := unhide H3
    have q4 := unhide H4
    have q6 := unhide H6
    have q7 := unhide H7
    have ex : nx = m := by rw [← unhide HX, unhide HLX]; simp
    have egg : ng = m := by rw [← unhide HG, unhide HLG]; simp
    rw [ex, egg, unhide HLX, unhide HLG, Int.toNat_natCast]
    have a3 : w.heap.size < lN := by omega
    have a4 : w.heap.size < lM := by omega
    refine ⟨none, 0, none, 0, some ⟨gN, 0, none⟩, m, some ⟨gM, 0, none⟩, m, w.heap.size, w.heap.size, w.heap.size, w.heap.size, lN, hN, lM, hM, rfl, ⟨heldZ_nil _ _ _ _ ?_, held_nil _ _ _ _ ?_, ?_, ?_⟩, ?_⟩
    · simp only [World.size_setCell]; omega
    · simp only [World.size_setCell]; omega
    · iterate 13 refine Held.setC ?_ a3 _
      exact unhide N2
    · iterate 13 refine Held.setC ?_ a4 _
      exact unhide M2
    · unfold Apart; simp only [World.size_setCell]; omega
  · iterate 13 refine Below.setCell ?_ (by exact Nat.le_refl _) _
    exact unhide B2
end Go.Proofs.Ythbkcijkokaoeaa
