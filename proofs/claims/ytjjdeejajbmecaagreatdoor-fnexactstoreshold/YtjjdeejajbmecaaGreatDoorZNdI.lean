/- Which nodes are right: what the parts of the program answer. -/
import Derived.Test.YtjjdeejajbmecaaGreatDoorZG1
import Derived.Test.YtjjdeejajbmecaaGreatDoorZG9
namespace Go.Proofs.YtjjdeejajbmecaaGreatDoor
open Go.ChangeShapes Go.WideShapes Go.ChangeAt Go.RowKit
set_option linter.unusedVariables false
set_option maxHeartbeats 4000000 in
set_option maxRecDepth 100000 in
theorem ihas (id nd tm vt ro cm el wt : Int) (up : Bool) (a : Option Addr) (cap n : Nat) (av : Option Addr) (cv nv : Nat) (ax : Option Addr) (cx nx : Nat) (ag : Option Addr) (cg ng : Nat) (x : Int) (h1 : 1 ≤ nd) (h5 : nd ≤ 5) (R : Bool) (HR : Hid (R = inB x 0 (nd - 1))) (w : World) :
  Calls Tryz.prog 77 #[.agg #[.int .i64 id, .int .i64 nd, .int .i64 tm, .int .i64 vt, .int .i64 ro, .bool up, .slice a n cap, .int .i64 cm, .int .i64 el, .int .i64 wt, .slice av nv cv, .slice ax nx cx, .slice ag ng cg], .int .i64 x] w fun e w' => e = .returned (.bool R) ∧ Below w.heap.size w w' := by
 have B0 := hide (Go.Joins.below_alloc1 w (.cells #[.int .i64 id, .int .i64 nd, .int .i64 tm, .int .i64 vt, .int .i64 ro, .bool up, .slice a n cap, .int .i64 cm, .int .i64 el, .int .i64 wt, .slice av nv cv, .slice ax nx cx, .slice ag ng cg] 60))
 have e1 : IntKind.i64.wrap (nd - 1) = nd - 1 := wrapi _ (by omega) (by omega)
 go_enter Tryz.func77, Tryz.ntmps77
 go_wp2_with fail
 refine (iwi x 0 (nd - 1) R HR _).mono ?_
 rintro e w1 ⟨rfl, rfl⟩
 go_wp2_with fail
 go_ret
 exact ⟨rfl, unhide B0⟩
set_option maxHeartbeats 4000000 in
set_option maxRecDepth 100000 in
theorem ilast (id nd tm vt ro cm el wt : Int) (up : Bool) (a : Option Addr) (cap n : Nat) (av : Option Addr) (cv nv : Nat) (ax : Option Addr) (cx nx : Nat) (ag : Option Addr) (cg ng : Nat)  (w : World) :
  Calls Tryz.prog 80 #[.agg #[.int .i64 id, .int .i64 nd, .int .i64 tm, .int .i64 vt, .int .i64 ro, .bool up, .slice a n cap, .int .i64 cm, .int .i64 el, .int .i64 wt, .slice av nv cv, .slice ax nx cx, .slice ag ng cg]] w fun e w' => e = .returned (.int .i64 (n : Int)) ∧ Below w.heap.size w w' := by
 have B0 := hide (Go.Joins.below_alloc1 w (.cells #[.int .i64 id, .int .i64 nd, .int .i64 tm, .int .i64 vt, .int .i64 ro, .bool up, .slice a n cap, .int .i64 cm, .int .i64 el, .int .i64 wt, .slice av nv cv, .slice ax nx cx, .slice ag ng cg] 60))
 go_enter Tryz.func80, Tryz.ntmps80
 go_wp2_with fail
 go_ret
 exact ⟨rfl, unhide B0⟩
set_option maxHeartbeats 4000000 in
set_option maxRecDepth 100000 in
theorem instate (id nd tm vt ro cm el wt : Int) (up : Bool) (a : Option Addr) (cap n : Nat) (av : Option Addr) (cv nv : Nat) (ax : Option Addr) (cx nx : Nat) (ag : Option Addr) (cg ng : Nat)  (w : World) :
  Calls Tryz.prog 65 #[.agg #[.int .i64 id, .int .i64 nd, .int .i64 tm, .int .i64 vt, .int .i64 ro, .bool up, .slice a n cap, .int .i64 cm, .int .i64 el, .int .i64 wt, .slice av nv cv, .slice ax nx cx, .slice ag ng cg]] w fun e w' => e = .returned (.agg #[.int .i64 tm, .int .i64 vt, .slice a n cap]) ∧ Below w.heap.size w w' := by
 have B0 := hide (Go.Joins.below_alloc2 w (.cells #[.int .i64 id, .int .i64 nd, .int .i64 tm, .int .i64 vt, .int .i64 ro, .bool up, .slice a n cap, .int .i64 cm, .int .i64 el, .int .i64 wt, .slice av nv cv, .slice ax nx cx, .slice ag ng cg] 60) (.cells #[.int .i64 tm, .int .i64 vt, .slice a n cap] 46))
 go_enter Tryz.func65, Tryz.ntmps65
 go_wp2_with fail
 refine bodyPost_ret (v := .agg #[.int .i64 tm, .int .i64 vt, .slice a n cap]) (by simp [results, Tryz.results65, go_sem]) rfl ⟨rfl, ?_⟩
 exact unhide B0
set_option maxHeartbeats 4000000 in
set_option maxRecDepth 100000 in
theorem iroleok (id nd tm vt ro cm el wt : Int) (up : Bool) (a : Option Addr) (cap n : Nat) (av : Option Addr) (cv nv : Nat) (ax : Option Addr) (cx nx : Nat) (ag : Option Addr) (cg ng : Nat) (R : Bool) (HR : Hid (R = roleB ro up)) (w : World) :
  Calls Tryz.prog 79 #[.agg #[.int .i64 id, .int .i64 nd, .int .i64 tm, .int .i64 vt, .int .i64 ro, .bool up, .slice a n cap, .int .i64 cm, .int .i64 el, .int .i64 wt, .slice av nv cv, .slice ax nx cx, .slice ag ng cg]] w fun e w' => e = .returned (.bool R) ∧ Below w.heap.size w w' := by
 have B0 := hide (Go.Joins.below_alloc1 w (.cells #[.int .i64 id, .int .i64 nd, .int .i64 tm, .int .i64 vt, .int .i64 ro, .bool up, .slice a n cap, .int .i64 cm, .int .i64 el, .int .i64 wt, .slice av nv cv, .slice ax nx cx, .slice ag ng cg] 60))
 obtain ⟨R1, hR1⟩ : ∃ b, b = inB ro 0 2 := ⟨_, rfl⟩
 have HR1 := hide hR1
 clear hR1
 go_enter Tryz.func79, Tryz.ntmps79
 go_wp2_with fail
 refine (iwi ro 0 2 R1 HR1 _).mono ?_
 rintro e w1 ⟨rfl, rfl⟩
 cases R1 with
 | false =>
  have hR : R = false := by rw [unhide HR]; unfold roleB; rw [← unhide HR1]; rfl
  subst hR
  go_wp2_with fail
  go_ret
  exact ⟨rfl, unhide B0⟩
 | true =>
  cases up with
  | true =>
   have hR : R = true := by rw [unhide HR]; unfold roleB; rw [← unhide HR1]; rfl
   subst hR
   go_wp2_with fail
   go_ret
   exact ⟨rfl, unhide B0⟩
  | false =>
   have hz : (ro == 0) = R := by rw [unhide HR]; unfold roleB; rw [← unhide HR1, Bool.eq_iff_iff]; simp
   clear HR HR1
   go_wp2_with fail
   go_ret
   exact ⟨rfl, unhide B0⟩
set_option maxHeartbeats 4000000 in
set_option maxRecDepth 100000 in
theorem ivotesok (id nd tm vt ro cm el wt : Int) (up : Bool) (a : Option Addr) (cap n : Nat) (av : Option Addr) (cv nv : Nat) (ax : Option Addr) (cx nx : Nat) (ag : Option Addr) (cg ng : Nat) (lv : List Int) (HNv : Hid (lv.length = nv)) (hnv : nv ≤ 1048576) (h1 : 1 ≤ nd) (h5 : nd ≤ 5) (R : Bool) (HR0 : Hid (R = upB nd 0 lv)) (w : World) (hr : RowV w av (cI lv)) :
  Calls Tryz.prog 81 #[.agg #[.int .i64 id, .int .i64 nd, .int .i64 tm, .int .i64 vt, .int .i64 ro, .bool up, .slice a n cap, .int .i64 cm, .int .i64 el, .int .i64 wt, .slice av nv cv, .slice ax nx cx, .slice ag ng cg]] w fun e w' => e = .returned (.bool R) ∧ Below w.heap.size w w' := by
 have B0 := hide (Go.Joins.below_alloc1 w (.cells #[.int .i64 id, .int .i64 nd, .int .i64 tm, .int .i64 vt, .int .i64 ro, .bool up, .slice a n cap, .int .i64 cm, .int .i64 el, .int .i64 wt, .slice av nv cv, .slice ax nx cx, .slice ag ng cg] 60))
 have A0 := hide (BF.new w #[.int .i64 id, .int .i64 nd, .int .i64 tm, .int .i64 vt, .int .i64 ro, .bool up, .slice a n cap, .int .i64 cm, .int .i64 el, .int .i64 wt, .slice av nv cv, .slice ax nx cx, .slice ag ng cg] 60)
 have HRv := hide hr
 clear hr
 have e1 : IntKind.i64.wrap (nd - 1) = nd - 1 := wrapi _ (by omega) (by omega)
 go_enter Tryz.func81, Tryz.ntmps81
 go_wp2_with fail
 go_loopw [3, 9] (fun p i wr => ∃ (k : Nat) (q : Int), k ≤ nv ∧ i = .int .i64 k ∧ p = .int .i64 q ∧ Hid (R = upB nd q (lv.drop k)) ∧ 0 ≤ q ∧ Hid (BF w.heap.size #[.int .i64 id, .int .i64 nd, .int .i64 tm, .int .i64 vt, .int .i64 ro, .bool up, .slice a n cap, .int .i64 cm, .int .i64 el, .int .i64 wt, .slice av nv cv, .slice ax nx cx, .slice ag ng cg] wr) ∧ Hid (Below w.heap.size w wr)) (fun _ i _ => nv - (intOf i).toNat)
 case atStart => exact ⟨0, 0, by omega, rfl, rfl, HR0, by omega, A0, B0⟩
 case round =>
  clear A0 B0 HR0
  obtain ⟨k, q, hk, rfl, rfl, HQ, hq0, A1, B1⟩ := hrel
  have a1 := (unhide A1).S
  by_cases hlt : k < nv
  ·obtain ⟨b, off, ha, hblt, hc⟩ := (unhide HRv).at (by rw [cI_len, unhide HNv]; omega)
   subst ha
   have hlk : k < lv.length := by rw [unhide HNv]; exact hlt
   obtain ⟨t, et⟩ : ∃ t, t = lv[k] := ⟨_, rfl⟩
   have x0 := hc k _ (cI_at lv k hlk)
   rw [← et] at x0
   have hx0 : wr.cell? ⟨b, off + k, none⟩ = some (.int .i64 t) := ((unhide B1).cell (p := ⟨b, off + k, none⟩) hblt).trans x0
   have hq := (unhide HQ).trans (upB_step nd q lv k hlk)
   rw [← et] at hq
   have HQ2 := hide hq
   have hlt' : (k : Int) < (nv : Int) := by omega
   have hlt0 : (0 : Int) ≤ (k : Int) := by omega
   obtain ⟨R1, hR1⟩ : ∃ b, b = inB t q (nd - 1) := ⟨_, rfl⟩
   have HR1 := hide hR1
   clear hc x0 et hq hR1 HQ HRv hlk
   go_wp2_with fail
   refine (iwi t q (nd - 1) R1 HR1 _).mono ?_
   rintro e w2 ⟨rfl, rfl⟩
   cases R1 with
   | false =>
    have hR : R = false := by have := unhide HQ2; rw [← unhide HR1] at this; simpa using this
    subst hR
    go_wp2_with fail
    go_ret
    exact ⟨rfl, unhide B1⟩
   | true =>
    have HQ3 : Hid (R = upB nd (t + 1) (lv.drop (k + 1))) := by show _ = _; have := unhide HQ2; rw [← unhide HR1] at this; simpa using this
    have hb : q ≤ t ∧ t ≤ nd - 1 := by have := unhide HR1; unfold inB at this; simpa using this
    have e2 : IntKind.i64.wrap (t + 1) = t + 1 := wrapi _ (by omega) (by omega)
    have hb0 : 0 ≤ t + 1 := by omega
    clear HQ2 HR1 hb
    go_wp2_with fail
    go_roundw
    case rel => exact ⟨k + 1, t + 1, by omega, by go_num, rfl, HQ3, hb0, A1, B1⟩
    case measure => simp [intOf]; omega
  ·have hR : R = true := (unhide HQ).trans (upB_end _ _ _ _ (by rw [unhide HNv]; omega))
   subst hR
   go_wp2_with fail
   go_ret
   exact ⟨rfl, unhide B1⟩
set_option maxHeartbeats 4000000 in
set_option maxRecDepth 100000 in
theorem iplacesok (id nd tm vt ro cm el wt : Int) (up : Bool) (a : Option Addr) (cap n : Nat) (av : Option Addr) (cv nv : Nat) (ax : Option Addr) (cx nx : Nat) (ag : Option Addr) (cg ng : Nat) (lx lg : List Int) (HNx : Hid (lx.length = nx)) (HNg : Hid (lg.length = ng)) (hn : n ≤ 1048576) (hnx : nx ≤ 1048576) (hng : ng ≤ 1048576) (h1 : 1 ≤ nd) (h5 : nd ≤ 5) (R : Bool) (HR0 : Hid (R = placesB nd (n : Int) lx lg)) (w : World) (hrx : RowV w ax (cI lx)) (hrg : RowV w ag (cI lg)) :
  Calls Tryz.prog 82 #[.agg #[.int .i64 id, .int .i64 nd, .int .i64 tm, .int .i64 vt, .int .i64 ro, .bool up, .slice a n cap, .int .i64 cm, .int .i64 el, .int .i64 wt, .slice av nv cv, .slice ax nx cx, .slice ag ng cg]] w fun e w' => e = .returned (.bool R) ∧ Below w.heap.size w w' := by
 have B0 := hide (Go.Joins.below_alloc1 w (.cells #[.int .i64 id, .int .i64 nd, .int .i64 tm, .int .i64 vt, .int .i64 ro, .bool up, .slice a n cap, .int .i64 cm, .int .i64 el, .int .i64 wt, .slice av nv cv, .slice ax nx cx, .slice ag ng cg] 60))
 have A0 := hide (BF.new w #[.int .i64 id, .int .i64 nd, .int .i64 tm, .int .i64 vt, .int .i64 ro, .bool up, .slice a n cap, .int .i64 cm, .int .i64 el, .int .i64 wt, .slice av nv cv, .slice ax nx cx, .slice ag ng cg] 60)
 have HRx := hide hrx
 have HRg := hide hrg
 have HRR := unhide HR0
 unfold placesB at HRR
 rw [unhide HNx, unhide HNg] at HRR
 have HRP := hide HRR
 clear hrx hrg HRR HR0
 go_enter Tryz.func82, Tryz.ntmps82
 by_cases hx : (nx : Int) = nd
 ·have nx1 : ((nx : Int) != nd) = false := by simpa using hx
  by_cases hg : (ng : Int) = nd
  ·have ng1 : ((ng : Int) != nd) = false := by simpa using hg
   have HQ0 : Hid (R = plB (n : Int) (lx.drop 0) (lg.drop 0)) := by show _ = _; rw [unhide HRP, decide_eq_true hx, decide_eq_true hg, List.drop_zero, List.drop_zero]; simp
   have HXG : Hid ((nx : Int) = nd ∧ (ng : Int) = nd) := ⟨hx, hg⟩
   clear HRP hx hg
   go_wp2_with fail
   clear nx1 ng1
   go_loopw [22] (fun i wr => ∃ (k : Nat), k ≤ nx ∧ i = .int .i64 k ∧ Hid (R = plB (n : Int) (lx.drop k) (lg.drop k)) ∧ Hid (BF w.heap.size #[.int .i64 id, .int .i64 nd, .int .i64 tm, .int .i64 vt, .int .i64 ro, .bool up, .slice a n cap, .int .i64 cm, .int .i64 el, .int .i64 wt, .slice av nv cv, .slice ax nx cx, .slice ag ng cg] wr) ∧ Hid (Below w.heap.size w wr)) (fun i _ => nx - (intOf i).toNat)
   case atStart => exact ⟨0, by omega, rfl, HQ0, A0, B0⟩
   case round =>
    clear A0 B0 HQ0
    obtain ⟨k, hk, rfl, HQ, A1, B1⟩ := hrel
    have a1 := (unhide A1).S
    by_cases hlt : k < nx
    ·have hltg : k < ng := by have := unhide HXG; omega
     obtain ⟨b, off, ha, hblt, hc⟩ := (unhide HRx).at (by rw [cI_len, unhide HNx]; omega)
     subst ha
     obtain ⟨b2, off2, ha2, hblt2, hc2⟩ := (unhide HRg).at (by rw [cI_len, unhide HNg]; omega)
     subst ha2
     have hlk : k < lx.length := by rw [unhide HNx]; exact hlt
     have hlk2 : k < lg.length := by rw [unhide HNg]; exact hltg
     obtain ⟨t, et⟩ : ∃ t, t = lx[k] := ⟨_, rfl⟩
     obtain ⟨u, eu⟩ : ∃ u, u = lg[k] := ⟨_, rfl⟩
     have x0 := hc k _ (cI_at lx k hlk)
     have y0 := hc2 k _ (cI_at lg k hlk2)
     rw [← et] at x0
     rw [← eu] at y0
     have hx0 : wr.cell? ⟨b, off + k, none⟩ = some (.int .i64 t) := ((unhide B1).cell (p := ⟨b, off + k, none⟩) hblt).trans x0
     have hq := (unhide HQ).trans (plB_step (n : Int) lx lg k hlk hlk2)
     rw [← et, ← eu] at hq
     have HQ2 := hide hq
     have HY0 := hide y0
     have HBL2 := hide hblt2
     have hlt' : (k : Int) < (nx : Int) := by omega
     have hltg' : (k : Int) < (ng : Int) := by omega
     have hlt0 : (0 : Int) ≤ (k : Int) := by omega
     have e1 : IntKind.i64.wrap ((n : Int) + 1) = (n : Int) + 1 := wrapi _ (by omega) (by omega)
     obtain ⟨R1, hR1⟩ : ∃ b, b = inB t 1 ((n : Int) + 1) := ⟨_, rfl⟩
     have HR1 := hide hR1
     obtain ⟨R2, hR2⟩ : ∃ b, b = inB u 0 (t - 1) := ⟨_, rfl⟩
     have HR2 := hide hR2
     clear hc x0 et hq hR1 hR2 HQ hc2 y0 eu hblt2 hlk hlk2
     go_wp2_with fail
     refine (ilast id nd tm vt ro cm el wt up a cap n av cv nv _ cx nx _ cg ng _).mono ?_
     rintro e w2 ⟨rfl, hb2⟩
     have B2 := hide ((unhide B1).trans (hb2.mono (unhide B1).size))
     have A2 := hide ((unhide A1).below hb2)
     clear hb2 A1 B1 a1 hx0
     have a2 := (unhide A2).S
     have hy0 : w2.cell? ⟨b2, off2 + k, none⟩ = some (.int .i64 u) := ((unhide B2).cell (p := ⟨b2, off2 + k, none⟩) (unhide HBL2)).trans (unhide HY0)
     go_wp2_with fail
     refine (iwi t 1 ((n : Int) + 1) R1 HR1 _).mono ?_
     rintro e w3 ⟨rfl, rfl⟩
     cases R1 with
     | false =>
      have hR : R = false := by have := unhide HQ2; rw [← unhide HR1] at this; simpa using this
      subst hR
      go_wp2_with fail
      go_ret
      exact ⟨rfl, unhide B2⟩
     | true =>
      have hb : 1 ≤ t ∧ t ≤ (n : Int) + 1 := by have := unhide HR1; unfold inB at this; simpa using this
      have e2 : IntKind.i64.wrap (t - 1) = t - 1 := wrapi _ (by omega) (by omega)
      clear hb
      go_wp2_with fail
      refine (iwi u 0 (t - 1) R2 HR2 _).mono ?_
      rintro e w3 ⟨rfl, rfl⟩
      cases R2 with
      | false =>
       have hR : R = false := by have := unhide HQ2; rw [← unhide HR2] at this; simpa using this
       subst hR
       go_wp2_with fail
       go_ret
       exact ⟨rfl, unhide B2⟩
      | true =>
       have HQ3 : Hid (R = plB (n : Int) (lx.drop (k + 1)) (lg.drop (k + 1))) := by show _ = _; have := unhide HQ2; rw [← unhide HR1, ← unhide HR2] at this; simpa using this
       clear HQ2 HR1 HR2 hy0 HY0 HBL2
       go_wp2_with fail
       go_roundw
       case rel => exact ⟨k + 1, by omega, by go_num, HQ3, A2, B2⟩
       case measure => simp [intOf]; omega
    ·have hR : R = true := (unhide HQ).trans (plB_end _ _ _ _ (by rw [unhide HNx]; omega))
     subst hR
     go_wp2_with fail
     go_ret
     exact ⟨rfl, unhide B1⟩
  ·have ng1 : ((ng : Int) != nd) = true := by simpa using hg
   have hR : R = false := by rw [unhide HRP, decide_eq_false hg]; simp
   subst hR
   clear hg hx HRP
   go_wp2_with fail
   go_ret
   exact ⟨rfl, unhide B0⟩
 ·have nx1 : ((nx : Int) != nd) = true := by simpa using hx
  have hR : R = false := by rw [unhide HRP, decide_eq_false hx]; simp
  subst hR
  clear hx HRP
  go_wp2_with fail
  go_ret
  exact ⟨rfl, unhide B0⟩
end Go.Proofs.YtjjdeejajbmecaaGreatDoor
