/- A new node: what the specification answers. -/
import Derived.Test.YtkcjldhaeehbcaaNnS
namespace Go.Proofs.Ytkcjldhaeehbcaa
open Go.ChangeShapes Go.WideShapes Go.ChangeAt Go.RowKit
set_option linter.unusedVariables false
theorem snodesQ (nd : Int) (w : World) : Calls Try.prog 9 #[.int .i64 nd] w fun e w' => e = .returned (.bool (inB nd 1 5)) ∧ w' = w := by
  go_enter Try.func9, Try.ntmps9
  go_wp2_with fail
  refine (sin nd 1 5 _).mono ?_
  rintro e w1 ⟨rfl, rfl⟩
  go_wp2_with fail
  go_ret
  exact ⟨rfl, rfl⟩
set_option maxHeartbeats 4000000 in
set_option maxRecDepth 100000 in
theorem snewnode (id nd : Int) (i0 i1 i3 i9 : Int) (u : Bool) (lx lg : List Int) (nx ng : Nat) (c : Int) (HIS : Hid (NewIs id nd i0 i1 i3 i9 u lx lg c)) (HX : Hid (lx.length = nx)) (HG : Hid (lg.length = ng)) (w : World) :
    Calls Try.prog 4 #[.int .i64 id, .int .i64 nd] w fun e w' => NewTo w w' e i0 i1 i3 i9 u lx lg nx ng c ∧ Below w.heap.size w w' := by
  have B0 := hide (Go.Joins.below_alloc1 w (.cells #[.int .i64 0, .int .i64 0, .int .i64 0, .int .i64 0, .int .i64 0, .bool false, .slice none 0 0, .int .i64 0, .int .i64 0, .int .i64 0, .slice none 0 0, .slice none 0 0, .slice none 0 0] 25))
  have K0 := hide (BF.new w #[.int .i64 0, .int .i64 0, .int .i64 0, .int .i64 0, .int .i64 0, .bool false, .slice none 0 0, .int .i64 0, .int .i64 0, .int .i64 0, .slice none 0 0, .slice none 0 0, .slice none 0 0] 25)
  have k0 := (unhide K0).S
  have kf := (unhide K0).F
  go_enter Try.func4, Try.ntmps4
  rcases bdic (inB nd 1 5) with c0 | c0
  · have hz := unhide HIS
    unfold NewIs at hz
    rw [c0] at hz
    simp at hz
    obtain ⟨rfl, rfl, rfl, rfl, rfl, rfl, rfl, rfl⟩ := hz
    obtain rfl : nx = 0 := (unhide HX).symm
    obtain rfl : ng = 0 := (unhide HG).symm
    go_wp2_with fail
    refine (snodesQ nd _).mono ?_
    rintro e w1 ⟨rfl, rfl⟩
    rw [c0]
    clear c0
    go_wp2_with fail
    refine bodyPost_ret (v := .tuple #[.agg #[.int .i64 0, .int .i64 0, .int .i64 0, .int .i64 0, .int .i64 0, .bool false, .slice none 0 0, .int .i64 0, .int .i64 0, .int .i64 0, .slice none 0 0, .slice none 0 0, .slice none 0 0], .int .i64 4]) (by simp [results, Try.results4, go_sem, k0]) rfl ⟨newTo_zero ?_, ?_⟩
    · simp
    · repeat refine Below.setCell ?_ (Nat.le_refl _) _
      exact unhide B0
  have hnd0 : 1 ≤ nd ∧ nd ≤ 5 := by have := c0; unfold inB at this; simpa using this
  have e1 : IntKind.i64.wrap (nd - 1) = nd - 1 := wrapi _ (by omega) (by omega)
  rcases bdic (inB id 0 (nd - 1)) with c1 | c1
  · have hz := unhide HIS
    unfold NewIs at hz
    rw [c0, c1] at hz
    simp at hz
    obtain ⟨rfl, rfl, rfl, rfl, rfl, rfl, rfl, rfl⟩ := hz
    obtain rfl : nx = 0 := (unhide HX).symm
    obtain rfl : ng = 0 := (unhide HG).symm
    clear hnd0
    go_wp2_with fail
    refine (snodesQ nd _).mono ?_
    rintro e w1 ⟨rfl, rfl⟩
    rw [c0]
    go_wp2_with fail
    refine (sin id 0 (nd - 1) _).mono ?_
    rintro e w1 ⟨rfl, rfl⟩
    rw [c1]
    clear c0 c1
    go_wp2_with fail
    refine bodyPost_ret (v := .tuple #[.agg #[.int .i64 0, .int .i64 0, .int .i64 0, .int .i64 0, .int .i64 0, .bool false, .slice none 0 0, .int .i64 0, .int .i64 0, .int .i64 0, .slice none 0 0, .slice none 0 0, .slice none 0 0], .int .i64 4]) (by simp [results, Try.results4, go_sem, k0]) rfl ⟨newTo_zero ?_, ?_⟩
    · simp
    · repeat refine Below.setCell ?_ (Nat.le_refl _) _
      exact unhide B0
  have hg := unhide HIS
  unfold NewIs at hg
  rw [c0, c1] at hg
  simp at hg
  obtain ⟨rfl, rfl, rfl, rfl, rfl, hx, hgg, rfl⟩ := hg
  have hnd : 1 ≤ i1 ∧ i1 ≤ 5 := by have := c0; unfold inB at this; simpa using this
  have hid : 0 ≤ i0 ∧ i0 ≤ i1 - 1 := by have := c1; unfold inB at this; simpa using this
  obtain ⟨m, hm⟩ : ∃ m : Nat, i1 = (m : Int) := ⟨i1.toNat, by omega⟩
  subst hm
  have hm1 : (1 ≤ m ∧ m ≤ 5) ∧ 0 ≤ i0 ∧ i0 ≤ 4 := by omega
  have HLX := hide hx
  have HLG := hide hgg
  clear hnd0 hnd hid HIS hx hgg
  go_wp2_with fail
  refine (snodesQ (m : Int) _).mono ?_
  rintro e w1 ⟨rfl, rfl⟩
  rw [c0]
  go_wp2_with fail
  refine (sin i0 0 ((m : Int) - 1) _).mono ?_
  rintro e w1 ⟨rfl, rfl⟩
  rw [c1]
  clear c0 c1
  go_wp2_with fail
  refine (snew i0 m hm1.1.1 hm1.1.2 hm1.2.1 hm1.2.2 _).mono ?_
  rintro e w2 ⟨gL, gV, gM, aN, cN, bN, rfl, hL, hV, hM, hNr, hD, hb⟩
  simp only [World.size_alloc] at hD
  have K2 := hide ((unhide K0).below hb)
  have B2 := hide ((unhide B0).trans (hb.mono (unhide B0).size))
  have L2 := hide hL
  have V2 := hide hV
  have M2 := hide hM
  have N2 := hide hNr
  have D2 := hide hD
  clear hL hV hM hNr hD hb K0 B0 k0 kf
  have k2 := (unhide K2).S
  have kf2 := (unhide K2).F
  go_wp2_with fail
  refine bodyPost_ret (v := .tuple #[.agg #[.int .i64 i0, .int .i64 (m : Int), .int .i64 0, .int .i64 (-1), .int .i64 0, .bool true, .slice (some ⟨gL, 0, none⟩) 0 0, .int .i64 0, .int .i64 0, .int .i64 (5 + i0), .slice (some ⟨gV, 0, none⟩) 0 0, .slice aN m cN, .slice (some ⟨gM, 0, none⟩) m m], .int .i64 0]) (by simp [results, Try.results4, go_sem, k2]) rfl ⟨?_, ?_⟩
  · have qd := unhide D2
    have qn := (unhide N2).le
    have q1 := (unhide L2).le
    have q2 := (unhide V2).le
    have q3 := (unhide M2).le
    have ex : nx = m := by rw [← unhide HX, unhide HLX]; simp
    have egg : ng = m := by rw [← unhide HG, unhide HLG]; simp
    rw [ex, egg, unhide HLX, unhide HLG, Int.toNat_natCast]
    refine ⟨some ⟨gL, 0, none⟩, 0, some ⟨gV, 0, none⟩, 0, aN, cN, some ⟨gM, 0, none⟩, m, gL, gL + 1, gV, gV + 1, bN, w2.heap.size, gM, gM + 1, rfl, ⟨?_, ?_, ?_, ?_⟩, ?_⟩
    · iterate 13 refine HeldZ.setC ?_ (by show w.heap.size < gL; omega) _
      exact unhide L2
    · iterate 13 refine Held.setC ?_ (by show w.heap.size < gV; omega) _
      exact unhide V2
    · iterate 13 refine Held.setC ?_ (by show w.heap.size < bN; omega) _
      exact unhide N2
    · iterate 13 refine Held.setC ?_ (by show w.heap.size < gM; omega) _
      exact unhide M2
    · unfold Apart; simp only [World.size_setCell]; omega
  · iterate 13 refine Below.setCell ?_ (by exact Nat.le_refl _) _
    exact unhide B2
end Go.Proofs.Ytkcjldhaeehbcaa
