/- Which states are right: what the program answers. -/
import Derived.Test.YtkdplhhkkpkmoaaDoorZG2
import Derived.Test.YtkdplhhkkpkmoaaDoorZG14
import Derived.Test.YtkdplhhkkpkmoaaDoorZG10
import Derived.Lib.SmallJoins
namespace Go.Proofs.YtkdplhhkkpkmoaaDoor
open Go.ChangeShapes Go.WideShapes Go.ChangeAt Go.RowKit
set_option linter.unusedVariables false
set_option maxHeartbeats 2000000 in
set_option maxRecDepth 100000 in
theorem ilogok (tm vt : Int) (a : Option Addr) (cap n : Nat) (l : List Ent) (HN : Hid (l.length = n)) (hn : n ≤ 60) (HSZ : Hid (∀ k (h : k < l.length), l[k].2.size ≤ 1048576)) (R : Bool) (HR : Hid (R = logB tm 1 l)) (w : World) (hr : RowV w a (cE l)) :
  Calls Tryd.prog 21 #[.agg #[.int .i64 tm, .int .i64 vt, .slice a n cap]] w fun e w' => e = .returned (.bool R) ∧ Below w.heap.size w w' := by
 have B0 := hide (Go.Joins.below_alloc1 w (.cells #[.int .i64 tm, .int .i64 vt, .slice a n cap] 25))
 have A0 := hide (BF.new w #[.int .i64 tm, .int .i64 vt, .slice a n cap] 25)
 have HRW := hide hr
 have HCL := hide (cE_len l)
 clear hr
 go_enter Tryd.func21, Tryd.ntmps21
 go_wp2_with fail
 go_loopw [3, 9] (fun p i wr => ∃ (k : Nat) (q : Int), k ≤ n ∧ i = .int .i64 k ∧ p = .int .i64 q ∧ Hid (R = logB tm q (l.drop k)) ∧ Hid (BF w.heap.size #[.int .i64 tm, .int .i64 vt, .slice a n cap] wr) ∧ Hid (Below w.heap.size w wr)) (fun _ i _ => n - (intOf i).toNat)
 case atStart => exact ⟨0, 1, by omega, rfl, rfl, HR, A0, B0⟩
 case round =>
  clear A0 B0 HR
  obtain ⟨k, q, hk, rfl, rfl, HQ, A1, B1⟩ := hrel
  by_cases hlt : k < n
  ·obtain ⟨b, off, ha, hblt, hc⟩ := (unhide HRW).at (by rw [unhide HCL, unhide HN]; omega)
   subst ha
   have hlk : k < l.length := by rw [unhide HN]; exact hlt
   obtain ⟨x0, x1⟩ := row_ent hc k hlk
   obtain ⟨t, et⟩ : ∃ t, t = l[k].1 := ⟨_, rfl⟩
   obtain ⟨d, ed⟩ : ∃ d, d = l[k].2 := ⟨_, rfl⟩
   have hs : d.size ≤ 1048576 := by rw [ed]; exact unhide HSZ k hlk
   have hq := (unhide HQ).trans (logB_step tm q l k hlk)
   unfold entB at hq
   rw [← et, ← ed] at hq
   rw [← et] at x0
   rw [← ed] at x1
   have hx0 : wr.cell? ⟨b, off + k * 2, none⟩ = some (.int .i64 t) := ((unhide B1).cell (p := ⟨b, off + k * 2, none⟩) hblt).trans x0
   have hx1 : wr.cell? ⟨b, off + k * 2 + 1, none⟩ = some (.string d) := ((unhide B1).cell (p := ⟨b, off + k * 2 + 1, none⟩) hblt).trans x1
   have hlt' : (k : Int) < (n : Int) := by omega
   have hlt0 : (0 : Int) ≤ (k : Int) := by omega
   obtain ⟨sz, hsz⟩ : ∃ sz : Nat, sz = d.size := ⟨_, rfl⟩
   rw [← hsz] at hs hq
   have la : (d.size : Int) = (sz : Int) := by rw [hsz]
   have HQ2 := hide hq
   obtain ⟨R1, hR1⟩ : ∃ R1, R1 = inB t q tm := ⟨_, rfl⟩
   have HR1 := hide hR1
   have B2 := hide ((unhide B1).alloc (unhide B1).size (.cells #[.int .i64 t, .string d] 46))
   have A2 := hide ((unhide A1).alloc (.cells #[.int .i64 t, .string d] 46))
   have a2 := (unhide A2).S
   clear hc x0 x1 et ed hsz hq hR1 HQ A1 B1 HRW HCL HSZ
   go_wp2_with fail
   refine (iwi t q tm R1 HR1 _).mono ?_
   rintro e w2 ⟨rfl, rfl⟩
   cases R1 with
   | false =>
    have hR : R = false := by have := unhide HQ2; rw [← unhide HR1] at this; simpa using this
    subst hR
    go_wp2_with fail
    go_ret
    exact ⟨rfl, unhide B2⟩
   | true =>
    by_cases h4 : sz ≤ 400
    ·have HQ3 : Hid (R = logB tm t (l.drop (k + 1))) := by show _ = _; have := unhide HQ2; rw [← unhide HR1, decide_eq_true h4] at this; simpa using this
     clear HQ2 HR1
     go_wp2_with fail
     go_roundw
     case rel => exact ⟨k + 1, t, by omega, by go_num, rfl, HQ3, A2, B2⟩
     case measure => simp [intOf]; omega
    ·have hR : R = false := by have := unhide HQ2; rw [← unhide HR1, decide_eq_false h4] at this; simpa using this
     subst hR
     go_wp2_with fail
     go_ret
     exact ⟨rfl, unhide B2⟩
  ·have hR : R = true := (unhide HQ).trans (logB_end _ _ _ _ (by rw [unhide HN]; omega))
   subst hR
   go_wp2_with fail
   go_ret
   exact ⟨rfl, unhide B1⟩
set_option maxHeartbeats 2000000 in
set_option maxRecDepth 100000 in
theorem istateok (tm vt : Int) (a : Option Addr) (cap n : Nat) (l : List Ent) (HN : Hid (l.length = n)) (hn : n ≤ 1048576) (HSZ : Hid (∀ k (h : k < l.length), l[k].2.size ≤ 1048576)) (R : Bool) (HR : Hid (R = stateB tm vt l)) (w : World) (hr : RowV w a (cE l)) :
  Calls Tryd.prog 9 #[.agg #[.int .i64 tm, .int .i64 vt, .slice a n cap]] w fun e w' => e = .returned (.bool R) ∧ Below w.heap.size w w' := by
 have B0 := hide (Go.Joins.below_alloc1 w (.cells #[.int .i64 tm, .int .i64 vt, .slice a n cap] 25))
 have HRW := hide (hr.below (unhide B0))
 obtain ⟨R1, hR1⟩ : ∃ R1, R1 = inB tm 0 1000 := ⟨_, rfl⟩
 have HR1 := hide hR1
 obtain ⟨R2, hR2⟩ : ∃ R2, R2 = inB vt (-1) 4 := ⟨_, rfl⟩
 have HR2 := hide hR2
 clear hr hR1 hR2
 go_enter Tryd.func9, Tryd.ntmps9
 go_wp2_with fail
 refine (iwi tm 0 1000 R1 HR1 _).mono ?_
 rintro e w1 ⟨rfl, rfl⟩
 cases R1 with
 | false =>
  have hR : R = false := (unhide HR).trans (st1 (unhide HR1).symm)
  subst hR
  go_wp2_with fail
  go_ret
  exact ⟨rfl, unhide B0⟩
 | true =>
  go_wp2_with fail
  refine (iwi vt (-1) 4 R2 HR2 _).mono ?_
  rintro e w1 ⟨rfl, rfl⟩
  cases R2 with
  | false =>
   have hR : R = false := (unhide HR).trans (st2 (unhide HR2).symm)
   subst hR
   go_wp2_with fail
   go_ret
   exact ⟨rfl, unhide B0⟩
  | true =>
   by_cases h6 : n ≤ 60
   ·have HR4 : Hid (R = logB tm 1 l) := by show _ = _; exact (unhide HR).trans (st4 (unhide HR1).symm (unhide HR2).symm (by rw [unhide HN]; exact h6))
    clear HR HR1 HR2
    go_wp2_with fail
    refine (ilogok tm vt a cap n l HN h6 HSZ R HR4 _ (unhide HRW)).mono ?_
    rintro e w2 ⟨rfl, hb2⟩
    have B2 := hide ((unhide B0).trans (hb2.mono (unhide B0).size))
    clear hb2 B0 HRW
    go_wp2_with fail
    go_ret
    exact ⟨rfl, unhide B2⟩
   ·have hR : R = false := (unhide HR).trans (st3 (by rw [unhide HN]; exact h6))
    subst hR
    go_wp2_with fail
    go_ret
    exact ⟨rfl, unhide B0⟩
end Go.Proofs.YtkdplhhkkpkmoaaDoor
