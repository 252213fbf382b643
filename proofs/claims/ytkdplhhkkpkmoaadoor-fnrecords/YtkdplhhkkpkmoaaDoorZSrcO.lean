/- Drawn states out of a code: StateOf, LaterOf. -/
import Derived.Test.YtkdplhhkkpkmoaaDoorZSrcR
namespace Go.Proofs.YtkdplhhkkpkmoaaDoor
open Go.ChangeShapes Go.WideShapes Go.ChangeAt Go.RowKit
set_option linter.unusedVariables false
set_option linter.unusedSimpArgs false
set_option maxHeartbeats 4000000 in
set_option maxRecDepth 100000 in
theorem sstateOf (a : Option Addr) (cap : Nat) (lc : List UInt8) (hl : lc.length ≤ 1048600) (w : World) (hr : Row8 w a lc) :
  Calls Tryd.prog 4 #[.slice a lc.length cap] w fun e w' => ∃ (tm vt : Int) (va : Option Addr) (n vc : Nat) (l : List Ent), e = .returned (.agg #[.int .i64 tm, .int .i64 vt, .slice va n vc]) ∧ l.length = n ∧ n ≤ 5 ∧ (0 ≤ tm ∧ tm ≤ 3) ∧ (-1 ≤ vt ∧ vt ≤ 2) ∧ logB tm 1 l = true ∧ w'.ownsRow w.heap.size 46 2 (.slice va n vc) n (cE l) ∧ Below w.heap.size w w' := by
 obtain ⟨s0, hs0⟩ : ∃ s0 : Nat, s0 = lc.length % 1000 := ⟨_, rfl⟩
 have k1 : (lc.length : Int).tmod 1000 = (s0 : Int) := by rw [Int.tmod_eq_emod_of_nonneg (by omega)]; omega
 have k2 : (lc.length : Int) % 1000 = (s0 : Int) := by omega
 obtain ⟨wA, hwA⟩ : ∃ wA, wA = w.alloc (.cells #[.int .i64 0, .int .i64 0, .slice none 0 0] 25) := ⟨_, rfl⟩
 obtain ⟨w1, hw1⟩ : ∃ w1, w1 = wA.alloc (.cells #[.slice a lc.length cap, .int .i64 0, .int .i64 (s0 : Int)] 56) := ⟨_, rfl⟩
 have hbA : Below w.heap.size w wA := by rw [hwA]; exact Go.Joins.below_alloc1 w _
 have hzA : wA.heap.size = w.heap.size + 1 := by rw [hwA]; simp
 have hb1 : Below w.heap.size w w1 := by rw [hw1]; exact hbA.alloc (by omega) _
 have hA : SrcAt w1 wA.heap.size a cap lc 0 s0 := by rw [hw1]; exact arr_new wA [.slice a lc.length cap, .int .i64 0, .int .i64 (s0 : Int)] _
 have hR1 : BF w.heap.size #[.int .i64 0, .int .i64 0, .slice none 0 0] w1 := by rw [hw1, hwA]; exact (BF.new w _ _).alloc _
 have hap : ApartOf a lc wA.heap.size := by
  rcases hr with h | ⟨b, off, e, hb, _⟩
  ·exact .inl h
  ·refine .inr (fun x hx => ?_)
   rw [e] at hx; injection hx with hx; subst hx; show b ≠ _; omega
 have HH := hide (sstateD wA.heap.size a cap lc 0 s0 hl (by omega) (by omega) w1 hA (hr.below hb1) hap)
 have HB1 := hide hb1
 have HR1 := hide hR1
 have hw1' := hw1.symm
 have HZA := hide hzA
 clear hr hap hb1 hA hw1 hs0 hbA hR1 hzA
 go_enter Tryd.func4, Tryd.ntmps4
 go_wp2_with fail
 rw [← hwA]
 refine (ssource a cap lc s0 k1 k2 wA).mono ?_
 rintro e w2 ⟨rfl, hw2⟩
 rw [hw1'] at hw2
 subst w2
 clear hw1' hwA
 go_wp2_with fail
 refine (unhide HH).mono ?_
 rintro e w3 ⟨tm, vt, va, n, vc, l, rfl, hl3, hn3, ht3, hv3, hlg3, ho3, hg3⟩
 have kr := ((unhide HR1).grown hg3 (fun h => by have := unhide HZA; injection h with h; omega)).S
 have krf := ((unhide HR1).grown hg3 (fun h => by have := unhide HZA; injection h with h; omega)).F
 have HO := hide ho3
 have HF := hide (And.intro hl3 (And.intro hn3 (And.intro ht3 (And.intro hv3 hlg3))))
 have HB3 := hide ((unhide HB1).grown hg3 (unhide HB1).size (fun k hk => by have := unhide HZA; injection hk with hk; omega))
 have HW1 : Hid (w.heap.size < w1.heap.size) := (unhide HR1).lt
 clear hl3 hn3 ht3 hv3 hlg3 ho3 hg3 HH
 go_wp2_with fail
 obtain ⟨h1, h2, h3, h4, h5⟩ := unhide HF
 refine bodyPost_ret (v := .agg #[.int .i64 tm, .int .i64 vt, .slice va n vc]) (by simp [results, Tryd.results4, go_sem, kr]) rfl ⟨tm, vt, va, n, vc, l, rfl, h1, h2, h3, h4, h5, ?_, ?_⟩
 ·refine Go.Joins.ownsRow_le (base := w1.heap.size) ?_ (Nat.le_of_lt (unhide HW1))
  iterate 3 refine ownsRow_setCell_below ?_ (by exact unhide HW1) _
  exact unhide HO
 ·iterate 3 refine Below.setCell ?_ (by exact Nat.le_refl _) _
  exact unhide HB3
set_option maxHeartbeats 4000000 in
set_option maxRecDepth 100000 in
theorem slaterOf (a : Option Addr) (cap : Nat) (lc : List UInt8) (hl : lc.length ≤ 1048600) (tm0 vt0 : Int) (wa : Option Addr) (wc n0 : Nat) (l0 : List Ent) (HN : Hid (l0.length = n0)) (hn0 : n0 ≤ 40) (htm0 : 0 ≤ tm0 ∧ tm0 ≤ 500) (HL0 : Hid (logB tm0 1 l0 = true)) (w : World) (hr : Row8 w a lc) (hrow : RowV w wa (cE l0)) :
  Calls Tryd.prog 5 #[.slice a lc.length cap, .agg #[.int .i64 tm0, .int .i64 vt0, .slice wa n0 wc]] w fun e w' => ∃ (tm vt : Int) (va : Option Addr) (n vc : Nat) (l : List Ent), e = .returned (.agg #[.int .i64 tm, .int .i64 vt, .slice va n vc]) ∧ l.length = n ∧ n ≤ n0 + 2 ∧ (tm0 ≤ tm ∧ tm ≤ tm0 + 1) ∧ (-1 ≤ vt ∧ vt ≤ 2) ∧ logB tm 1 l = true ∧ Som va ∧ w'.ownsRow w.heap.size 46 2 (.slice va n vc) n (cE l) ∧ Below w.heap.size w w' := by
 obtain ⟨s0, hs0⟩ : ∃ s0 : Nat, s0 = lc.length % 1000 := ⟨_, rfl⟩
 have k1 : (lc.length : Int).tmod 1000 = (s0 : Int) := by rw [Int.tmod_eq_emod_of_nonneg (by omega)]; omega
 have k2 : (lc.length : Int) % 1000 = (s0 : Int) := by omega
 have hs1000 : s0 < 2147483648 := by omega
 have HR := hide hr
 have HRW := hide hrow
 have B0 := hide (Go.Joins.below_alloc2 w (.cells #[.int .i64 tm0, .int .i64 vt0, .slice wa n0 wc] 25) (.cells #[.int .i64 0, .int .i64 0, .slice none 0 0] 25))
 have Z0 := hide ((BF.new w #[.int .i64 tm0, .int .i64 vt0, .slice wa n0 wc] 25).alloc (.cells #[.int .i64 0, .int .i64 0, .slice none 0 0] 25))
 have R0 := BF.new (w.alloc (.cells #[.int .i64 tm0, .int .i64 vt0, .slice wa n0 wc] 25)) #[.int .i64 0, .int .i64 0, .slice none 0 0] 25
 rw [show (w.alloc (.cells #[.int .i64 tm0, .int .i64 vt0, .slice wa n0 wc] 25)).heap.size = w.heap.size + 1 from by simp] at R0
 have R0 := hide R0
 clear hr hrow hs0
 go_enter Tryd.func5, Tryd.ntmps5
 go_wp2_with fail
 refine wp_region_held_drew (S := fun w' => ∀ o, w'.cell? ⟨w.heap.size, o, none⟩ = (#[.int .i64 tm0, .int .i64 vt0, .slice wa n0 wc] : Array Value)[o]?) (by kernel_rfl) (unhide Z0).S (fun hHeld => ?_)
 have Z1 := hide (unhide Z0).drew
 have R1 := hide (unhide R0).drew
 have B1 := hide (unhide B0).drew
 clear Z0 R0 B0
 generalize ((w.alloc (.cells #[.int .i64 tm0, .int .i64 vt0, .slice wa n0 wc] 25)).alloc (.cells #[.int .i64 0, .int .i64 0, .slice none 0 0] 25)).drew = w1 at Z1 R1 B1 hHeld ⊢
 refine wtv 0 (oi := { dst := some 5, op := .move (.tmp 0), type := 22, pos := "l17_laws.go:39", after := #[], guard := none }) ?_
 refine wtv 2 (oi := { dst := some 7, op := .load 25 (.tmp 3), type := 25, pos := "l17_laws.go:39", after := #[], guard := none }) ?_
 refine wpAnyH_ready (rs := [1]) (by kernel_rfl) (by simp) ?_
 refine AllReadyH.cons (o := { dst := some 6, op := .call { callee := .value (.func 12), args := #[.tmp 5], argTypes := #[22] }, type := 38, pos := "l17_laws.go:39", after := #[{ on := 0, ground := .data }], guard := none }) rfl (fun K hK => ?_) AllReadyH.nil
 go_simp
 refine (ssource a cap lc s0 k1 k2 w1).mono ?_
 rintro e w2 ⟨rfl, hw2⟩
 have hlt1 : w.heap.size + 1 < w1.heap.size := (unhide R1).lt
 have A2 : Hid (SrcAt w2 w1.heap.size a cap lc 0 s0) := by show SrcAt _ _ _ _ _ _ _; rw [hw2]; exact arr_new w1 [.slice a lc.length cap, .int .i64 0, .int .i64 (s0 : Int)] _
 have hb2 : Below w1.heap.size w1 w2 := by rw [hw2]; exact Go.Joins.below_alloc1 w1 _
 have Z2 := hide ((unhide Z1).below hb2)
 have R2 := hide ((unhide R1).below hb2)
 have B2 := hide ((unhide B1).trans (hb2.mono (unhide B1).size))
 have hap : ApartOf a lc w1.heap.size := by
  rcases unhide HR with h | ⟨b, off, e, hb, _⟩
  ·exact .inl h
  ·refine .inr (fun x hx => ?_)
   rw [e] at hx; injection hx with hx; subst hx; show b ≠ _; omega
 obtain ⟨g, hg⟩ : ∃ g, g = w1.heap.size := ⟨_, rfl⟩
 rw [← hg] at A2 hap
 have HAP := hide hap
 have HGE : Hid (w.heap.size + 1 < g) := by show _ < _; omega
 have HGL : Hid (g < w2.heap.size) := by show _ < _; rw [hg, hw2]; simp
 clear hb2 hw2 hap Z1 R1 B1 hlt1
 rw [← hg]
 clear hg
 go_wp2_with fail
 refine hK.out _ _ ?_ (fun hHeld1 => ?_)
 ·exact (unhide Z2).S
 clear hK K
 try simp only [Act.put, qqA, qqB, qqC]
 refine wpAnyH_ready (rs := [3]) (by kernel_rfl) (by simp) ?_
 refine AllReadyH.cons (o := { dst := some 8, op := .call { callee := .value (.func 14), args := #[.tmp 6, .tmp 7], argTypes := #[38, 25] }, type := 25, pos := "l17_laws.go:39", after := #[{ on := 1, ground := .data }, { on := 2, ground := .data }, { on := 1, ground := .chain }], guard := none }) rfl (fun K hK => ?_) AllReadyH.nil
 go_simp
 refine (slaterD g a cap lc 0 s0 hl (by omega) hs1000 tm0 vt0 wa wc n0 l0 HN hn0 htm0 HL0 w2 (unhide A2) ((unhide HR).below (unhide B2)) (unhide HAP) ((unhide HRW).below (unhide B2))).mono ?_
 rintro e w3 ⟨tm, vt, va, n, vc, l, rfl, hl3, hn3, ht3, hv3, hlg3, hsm, ho3, hg3⟩
 have Z3 := hide ((unhide Z2).grown hg3 (fun e => by have := unhide HGE; have := Option.some.inj e; omega))
 have R3 := hide ((unhide R2).grown hg3 (fun e => by have := unhide HGE; have := Option.some.inj e; omega))
 have B3 := hide ((unhide B2).grown hg3 (unhide B2).size (fun k hk => by have := unhide HGE; have := Option.some.inj hk; omega))
 have O3 := hide ho3
 have HF := hide (And.intro hl3 (And.intro hn3 (And.intro ht3 (And.intro hv3 hlg3))))
 have HSM := hide hsm
 have HR2L : Hid (w.heap.size + 1 < w2.heap.size) := (unhide R2).lt
 clear hl3 hn3 ht3 hv3 hlg3 hsm ho3 hg3 Z2 R2 B2
 go_wp2_with fail
 refine hK.out _ _ ?_ (fun hHeld3 => ?_)
 ·exact (unhide Z3).S
 clear hK K
 try simp only [Act.put, qqA, qqB, qqC]
 refine wpAnyH_ready (rs := [4]) (by kernel_rfl) (by simp) ?_
 refine AllReadyH.cons (o := { dst := none, op := .store 25 (.tmp 4) (.tmp 8), type := 0, pos := "l17_laws.go:39", after := #[{ on := 3, ground := .data }, { on := 3, ground := .chain }, { on := 0, ground := .phase }, { on := 1, ground := .phase }, { on := 2, ground := .phase }, { on := 3, ground := .phase }], guard := none }) rfl (fun K hK => ?_) AllReadyH.nil
 have kr := (unhide R3).S
 have krf := (unhide R3).F
 have Z4 := hide ((((unhide Z3).far ⟨w.heap.size + 1, 0, none⟩ (.int .i64 tm) (by show w.heap.size + 1 ≠ _; omega)).far ⟨w.heap.size + 1, 1, none⟩ (.int .i64 vt) (by show w.heap.size + 1 ≠ _; omega)).far ⟨w.heap.size + 1, 2, none⟩ (.slice va n vc) (by show w.heap.size + 1 ≠ _; omega))
 go_simp
 refine hK.out _ _ ?_ (fun hHeld4 => ?_)
 ·exact (unhide Z4).S
 clear hK K
 try simp only [Act.put, qqA, qqB, qqC]
 refine wpAnyH_done (by kernel_rfl) ?_ _
 go_wp2_with fail
 obtain ⟨h1, h2, h3, h4, h5⟩ := unhide HF
 refine bodyPost_ret (v := .agg #[.int .i64 tm, .int .i64 vt, .slice va n vc]) (by simp [results, Tryd.results5, go_sem, kr]) rfl ⟨tm, vt, va, n, vc, l, rfl, h1, h2, h3, h4, h5, unhide HSM, ?_, ?_⟩
 ·refine Go.Joins.ownsRow_le (base := w2.heap.size) ?_ (by have := unhide HR2L; omega)
  iterate 3 refine ownsRow_setCell_below ?_ (by exact unhide HR2L) _
  exact unhide O3
 ·iterate 3 refine Below.setCell ?_ (by exact Nat.le_succ _) _
  exact unhide B3
end Go.Proofs.YtkdplhhkkpkmoaaDoor
