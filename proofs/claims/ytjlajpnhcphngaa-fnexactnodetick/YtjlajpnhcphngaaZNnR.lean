/- Marks in a node's four rows that lie apart, in any order, and these found again. -/
import Derived.Test.YtjlajpnhcphngaaZG14
namespace Go.Proofs.Ytjlajpnhcphngaa
open Go.ChangeShapes Go.WideShapes Go.ChangeAt Go.RowKit
set_option linter.unusedVariables false
set_option maxHeartbeats 4000000 in
set_option maxRecDepth 100000 in
theorem markNq (id nd tm vt ro cm el wt : Int) (up : Bool) (a : Option Addr) (cap n : Nat) (av : Option Addr) (cv nv : Nat) (ax : Option Addr) (cx nx : Nat) (ag : Option Addr) (cg ng : Nat) (lo hi l0 h0 l1 h1 l2 h2 l3 h3 : Nat) (hle : (h0 ≤ l1 ∨ h1 ≤ l0) ∧ (h0 ≤ l2 ∨ h2 ≤ l0) ∧ (h0 ≤ l3 ∨ h3 ≤ l0) ∧ (h1 ≤ l2 ∨ h2 ≤ l1) ∧ (h1 ≤ l3 ∨ h3 ≤ l1) ∧ (h2 ≤ l3 ∨ h3 ≤ l2) ∧ lo ≤ l0 ∧ h0 ≤ hi ∧ lo ≤ l1 ∧ h1 ≤ hi ∧ lo ≤ l2 ∧ h2 ≤ hi ∧ lo ≤ l3 ∧ h3 ≤ hi) (k0 k1 k2 k3 : Nat) (Q : Int) (HK : Hid (k1 = k0 + n * 2 ∧ k2 = k1 + nv ∧ k3 = k2 + nx ∧ Q = ((k3 + ng : Nat) : Int))) (hk0p : Hid (0 < k0)) (hk : Hid (k0 + n * 2 + nv + nx + ng ≤ 3000000)) (xs xsv xsx xsg : List Value) (w : World) (hhi : hi ≤ w.heap.size) (h : HeldZ 2 w l0 h0 68 (.slice a n cap) n xs ∧ Held w l1 h1 3 (.slice av nv cv) nv xsv ∧ Held w l2 h2 3 (.slice ax nx cx) nx xsx ∧ Held w l3 h3 3 (.slice ag ng cg) ng xsg) :
    Calls Try.prog 10 #[.agg #[.int .i64 id, .int .i64 nd, .int .i64 tm, .int .i64 vt, .int .i64 ro, .bool up, .slice a n cap, .int .i64 cm, .int .i64 el, .int .i64 wt, .slice av nv cv, .slice ax nx cx, .slice ag ng cg], .int .i64 (k0 : Int)] w fun e w' => e = .returned (.int .i64 Q) ∧ HeldZ 2 w' l0 h0 68 (.slice a n cap) n (onesEnt k0 n) ∧ Held w' l1 h1 3 (.slice av nv cv) nv (onesI k1 nv) ∧ Held w' l2 h2 3 (.slice ax nx cx) nx (onesI k2 nx) ∧ Held w' l3 h3 3 (.slice ag ng cg) ng (onesI k3 ng) ∧ Outs lo hi w w' := by
  have B0 := hide (Go.Joins.below_alloc1 w (.cells #[.int .i64 id, .int .i64 nd, .int .i64 tm, .int .i64 vt, .int .i64 ro, .bool up, .slice a n cap, .int .i64 cm, .int .i64 el, .int .i64 wt, .slice av nv cv, .slice ax nx cx, .slice ag ng cg] 29))
  have A0 := hide (BF.new w #[.int .i64 id, .int .i64 nd, .int .i64 tm, .int .i64 vt, .int .i64 ro, .bool up, .slice a n cap, .int .i64 cm, .int .i64 el, .int .i64 wt, .slice av nv cv, .slice ax nx cx, .slice ag ng cg] 29)
  obtain ⟨he, hv, hx, hg⟩ := h
  have B := hide (unhide B0)
  have HI := hide hhi
  have E0 := hide (he.below (unhide B0) he.le)
  have V0 := hide (hv.below (unhide B0) hv.le)
  have X0 := hide (hx.below (unhide B0) hx.le)
  have G0 := hide (hg.below (unhide B0) hg.le)
  have HLE := hide hle
  have O0 : Hid (Outs lo hi w _) := Outs.of_below (unhide B0)
  clear he hv hx hg hle
  go_enter Try.func10, Try.ntmps10
  go_wp2_with fail
  refine (markEnt (.slice a n cap) n l0 h0 k0 xs (unhide hk0p) (by have := unhide hk; have := unhide HK; omega) _ (unhide E0)).mono ?_
  rintro e w1 ⟨rfl, hh1, hg1⟩
  rw [show ((k0 + n * 2 : Nat) : Int) = (k1 : Int) from by have := unhide HK; omega]
  have OO1 : Hid (Outs l0 h0 _ w1) := Outs.of_grown hg1 (fun k hk => (unhide E0).blk k hk)
  have O1 : Hid (Outs lo hi w w1) := (unhide O0).trans (Outs.of_grown hg1 (fun k hk => by have := (unhide E0).blk k hk; have := unhide HLE; omega))
  have E1 := hide hh1
  have V1 := hide ((unhide V0).outs (unhide OO1) (by have := unhide HLE; omega))
  have X1 := hide ((unhide X0).outs (unhide OO1) (by have := unhide HLE; omega))
  have G1 := hide ((unhide G0).outs (unhide OO1) (by have := unhide HLE; omega))
  have A1 := hide ((unhide A0).outs (unhide OO1) (by have := unhide HLE; have := unhide HI; omega))
  clear hh1 hg1 OO1 A0 O0 E0 V0 X0 G0 B0
  have a1 := (unhide A1).S
  go_wp2_with fail
  refine (markIntK (.slice av nv cv) nv l1 h1 k1 xsv (by have := unhide hk; have := unhide HK; omega) (by have := unhide hk; have := unhide HK; omega) _ (unhide V1)).mono ?_
  rintro e w2 ⟨rfl, hh2, hg2⟩
  rw [show ((k1 + nv : Nat) : Int) = (k2 : Int) from by have := unhide HK; omega]
  have OO2 : Hid (Outs l1 h1 _ w2) := Outs.of_grown hg2 (fun k hk => (unhide V1).blk k hk)
  have O2 : Hid (Outs lo hi w w2) := (unhide O1).trans (Outs.of_grown hg2 (fun k hk => by have := (unhide V1).blk k hk; have := unhide HLE; omega))
  have E2 := hide ((unhide E1).outs (unhide OO2) (by have := unhide HLE; omega))
  have V2 := hide hh2
  have X2 := hide ((unhide X1).outs (unhide OO2) (by have := unhide HLE; omega))
  have G2 := hide ((unhide G1).outs (unhide OO2) (by have := unhide HLE; omega))
  have A2 := hide ((unhide A1).outs (unhide OO2) (by have := unhide HLE; have := unhide HI; omega))
  clear hh2 hg2 OO2 A1 O1 E1 V1 X1 G1 a1
  have a2 := (unhide A2).S
  go_wp2_with fail
  refine (markIntK (.slice ax nx cx) nx l2 h2 k2 xsx (by have := unhide hk; have := unhide HK; omega) (by have := unhide hk; have := unhide HK; omega) _ (unhide X2)).mono ?_
  rintro e w3 ⟨rfl, hh3, hg3⟩
  rw [show ((k2 + nx : Nat) : Int) = (k3 : Int) from by have := unhide HK; omega]
  have OO3 : Hid (Outs l2 h2 _ w3) := Outs.of_grown hg3 (fun k hk => (unhide X2).blk k hk)
  have O3 : Hid (Outs lo hi w w3) := (unhide O2).trans (Outs.of_grown hg3 (fun k hk => by have := (unhide X2).blk k hk; have := unhide HLE; omega))
  have E3 := hide ((unhide E2).outs (unhide OO3) (by have := unhide HLE; omega))
  have V3 := hide ((unhide V2).outs (unhide OO3) (by have := unhide HLE; omega))
  have X3 := hide hh3
  have G3 := hide ((unhide G2).outs (unhide OO3) (by have := unhide HLE; omega))
  have A3 := hide ((unhide A2).outs (unhide OO3) (by have := unhide HLE; have := unhide HI; omega))
  clear hh3 hg3 OO3 A2 O2 E2 V2 X2 G2 a2
  have a3 := (unhide A3).S
  go_wp2_with fail
  refine (markIntK (.slice ag ng cg) ng l3 h3 k3 xsg (by have := unhide hk; have := unhide HK; omega) (by have := unhide hk; have := unhide HK; omega) _ (unhide G3)).mono ?_
  rintro e w4 ⟨rfl, hh4, hg4⟩
  rw [show ((k3 + ng : Nat) : Int) = Q from by have := unhide HK; omega]
  have OO4 : Hid (Outs l3 h3 _ w4) := Outs.of_grown hg4 (fun k hk => (unhide G3).blk k hk)
  have O4 : Hid (Outs lo hi w w4) := (unhide O3).trans (Outs.of_grown hg4 (fun k hk => by have := (unhide G3).blk k hk; have := unhide HLE; omega))
  have E4 := hide ((unhide E3).outs (unhide OO4) (by have := unhide HLE; omega))
  have V4 := hide ((unhide V3).outs (unhide OO4) (by have := unhide HLE; omega))
  have X4 := hide ((unhide X3).outs (unhide OO4) (by have := unhide HLE; omega))
  have G4 := hide hh4
  have A4 := hide ((unhide A3).outs (unhide OO4) (by have := unhide HLE; have := unhide HI; omega))
  clear hh4 hg4 OO4 A3 O3 E3 V3 X3 G3 a3
  have a4 := (unhide A4).S
  go_wp2_with fail
  go_ret
  exact ⟨rfl, unhide E4, unhide V4, unhide X4, unhide G4, unhide O4⟩
set_option maxHeartbeats 4000000 in
set_option maxRecDepth 100000 in
theorem heldNq (id nd tm vt ro cm el wt : Int) (up : Bool) (a : Option Addr) (cap n : Nat) (av : Option Addr) (cv nv : Nat) (ax : Option Addr) (cx nx : Nat) (ag : Option Addr) (cg ng : Nat) (lo hi l0 h0 l1 h1 l2 h2 l3 h3 : Nat) (hle : (h0 ≤ l1 ∨ h1 ≤ l0) ∧ (h0 ≤ l2 ∨ h2 ≤ l0) ∧ (h0 ≤ l3 ∨ h3 ≤ l0) ∧ (h1 ≤ l2 ∨ h2 ≤ l1) ∧ (h1 ≤ l3 ∨ h3 ≤ l1) ∧ (h2 ≤ l3 ∨ h3 ≤ l2) ∧ lo ≤ l0 ∧ h0 ≤ hi ∧ lo ≤ l1 ∧ h1 ≤ hi ∧ lo ≤ l2 ∧ h2 ≤ hi ∧ lo ≤ l3 ∧ h3 ≤ hi) (k0 k1 k2 k3 : Nat) (Q : Int) (HK : Hid (k1 = k0 + n * 2 ∧ k2 = k1 + nv ∧ k3 = k2 + nx ∧ Q = ((k3 + ng : Nat) : Int))) (hk0p : Hid (0 < k0)) (hk : Hid (k0 + n * 2 + nv + nx + ng ≤ 3000000)) (w : World) (hhi : hi ≤ w.heap.size) (h : HeldZ 2 w l0 h0 68 (.slice a n cap) n (onesEnt k0 n) ∧ Held w l1 h1 3 (.slice av nv cv) nv (onesI k1 nv) ∧ Held w l2 h2 3 (.slice ax nx cx) nx (onesI k2 nx) ∧ Held w l3 h3 3 (.slice ag ng cg) ng (onesI k3 ng)) :
    Calls Try.prog 12 #[.agg #[.int .i64 id, .int .i64 nd, .int .i64 tm, .int .i64 vt, .int .i64 ro, .bool up, .slice a n cap, .int .i64 cm, .int .i64 el, .int .i64 wt, .slice av nv cv, .slice ax nx cx, .slice ag ng cg], .int .i64 (k0 : Int)] w fun e w' => e = .returned (.int .i64 Q) ∧ Below w.heap.size w w' := by
  have B0 := hide (Go.Joins.below_alloc1 w (.cells #[.int .i64 id, .int .i64 nd, .int .i64 tm, .int .i64 vt, .int .i64 ro, .bool up, .slice a n cap, .int .i64 cm, .int .i64 el, .int .i64 wt, .slice av nv cv, .slice ax nx cx, .slice ag ng cg] 29))
  have A0 := hide (BF.new w #[.int .i64 id, .int .i64 nd, .int .i64 tm, .int .i64 vt, .int .i64 ro, .bool up, .slice a n cap, .int .i64 cm, .int .i64 el, .int .i64 wt, .slice av nv cv, .slice ax nx cx, .slice ag ng cg] 29)
  obtain ⟨he, hv, hx, hg⟩ := h
  have B := hide (unhide B0)
  have HI := hide hhi
  have E0 := hide (he.below (unhide B0) he.le)
  have V0 := hide (hv.below (unhide B0) hv.le)
  have X0 := hide (hx.below (unhide B0) hx.le)
  have G0 := hide (hg.below (unhide B0) hg.le)
  have HLE := hide hle
  clear he hv hx hg hle
  go_enter Try.func12, Try.ntmps12
  go_wp2_with fail
  refine (heldEnt (.slice a n cap) n l0 h0 k0 (unhide hk0p) (by have := unhide hk; have := unhide HK; omega) _ (unhide E0)).mono ?_
  rintro e w1 ⟨rfl, hb1⟩
  rw [show ((k0 + n * 2 : Nat) : Int) = (k1 : Int) from by have := unhide HK; omega]
  have E1 := hide ((unhide E0).below hb1 (unhide E0).le)
  have V1 := hide ((unhide V0).below hb1 (unhide V0).le)
  have X1 := hide ((unhide X0).below hb1 (unhide X0).le)
  have G1 := hide ((unhide G0).below hb1 (unhide G0).le)
  have A1 := hide ((unhide A0).below hb1)
  have B1 := hide ((unhide B0).trans (hb1.mono (unhide B0).size))
  clear hb1 A0 B0 E0 V0 X0 G0
  have a1 := (unhide A1).S
  have n10 : ¬ ((k1 : Nat) : Int) < 0 := by omega
  go_wp2_with fail
  refine (heldIntK (.slice av nv cv) nv l1 h1 k1 (by have := unhide hk; have := unhide HK; omega) (by have := unhide hk; have := unhide HK; omega) _ (unhide V1)).mono ?_
  rintro e w2 ⟨rfl, hb2⟩
  rw [show ((k1 + nv : Nat) : Int) = (k2 : Int) from by have := unhide HK; omega]
  have E2 := hide ((unhide E1).below hb2 (unhide E1).le)
  have V2 := hide ((unhide V1).below hb2 (unhide V1).le)
  have X2 := hide ((unhide X1).below hb2 (unhide X1).le)
  have G2 := hide ((unhide G1).below hb2 (unhide G1).le)
  have A2 := hide ((unhide A1).below hb2)
  have B2 := hide ((unhide B1).trans (hb2.mono (unhide B1).size))
  clear hb2 A1 B1 E1 V1 X1 G1 a1 n10
  have a2 := (unhide A2).S
  have n20 : ¬ ((k2 : Nat) : Int) < 0 := by omega
  go_wp2_with fail
  refine (heldIntK (.slice ax nx cx) nx l2 h2 k2 (by have := unhide hk; have := unhide HK; omega) (by have := unhide hk; have := unhide HK; omega) _ (unhide X2)).mono ?_
  rintro e w3 ⟨rfl, hb3⟩
  rw [show ((k2 + nx : Nat) : Int) = (k3 : Int) from by have := unhide HK; omega]
  have E3 := hide ((unhide E2).below hb3 (unhide E2).le)
  have V3 := hide ((unhide V2).below hb3 (unhide V2).le)
  have X3 := hide ((unhide X2).below hb3 (unhide X2).le)
  have G3 := hide ((unhide G2).below hb3 (unhide G2).le)
  have A3 := hide ((unhide A2).below hb3)
  have B3 := hide ((unhide B2).trans (hb3.mono (unhide B2).size))
  clear hb3 A2 B2 E2 V2 X2 G2 a2 n20
  have a3 := (unhide A3).S
  have n30 : ¬ ((k3 : Nat) : Int) < 0 := by omega
  go_wp2_with fail
  refine (heldIntK (.slice ag ng cg) ng l3 h3 k3 (by have := unhide hk; have := unhide HK; omega) (by have := unhide hk; have := unhide HK; omega) _ (unhide G3)).mono ?_
  rintro e w4 ⟨rfl, hb4⟩
  rw [show ((k3 + ng : Nat) : Int) = Q from by have := unhide HK; omega]
  have E4 := hide ((unhide E3).below hb4 (unhide E3).le)
  have V4 := hide ((unhide V3).below hb4 (unhide V3).le)
  have X4 := hide ((unhide X3).below hb4 (unhide X3).le)
  have G4 := hide ((unhide G3).below hb4 (unhide G3).le)
  have A4 := hide ((unhide A3).below hb4)
  have B4 := hide ((unhide B3).trans (hb4.mono (unhide B3).size))
  clear hb4 A3 B3 E3 V3 X3 G3 a3 n30
  have a4 := (unhide A4).S
  have n40 : ¬ Q < 0 := by have := unhide HK; omega
  go_wp2_with fail
  go_ret
  exact ⟨rfl, unhide B4⟩
end Go.Proofs.Ytjlajpnhcphngaa
