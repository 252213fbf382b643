/- Texts put together: AvC AvO. -/
import Derived.Test.YtmmnoepcklfonaaGreatDoorZG19
import Derived.Test.YtmmnoepcklfonaaGreatDoorZG20
import Derived.Test.YtmmnoepcklfonaaGreatDoorZG15
import Derived.Deep.Cut
/- Copies of mirrors, views that go on from them: what the program answers. -/
namespace Go.Proofs.YtmmnoepcklfonaaGreatDoor
open Go.ChangeShapes Go.WideShapes Go.ChangeAt Go.RowKit
set_option linter.unusedVariables false
set_option maxHeartbeats 4000000 in
set_option maxRecDepth 100000 in
theorem imcopied (nb vw vh : Int) (a : Option Addr) (cap n : Nat) (R : List ByteArray) (HN : Hid (R.length = n)) (hn : n ≤ 1048576) (w : World) (hr : RowV w a (cS R)) :
    Calls Tryz.prog 54 #[.agg #[.int .i64 nb, .int .i64 vw, .int .i64 vh, .slice a n cap]] w fun e w' => ∃ v, e = .returned (.agg #[.int .i64 nb, .int .i64 vw, .int .i64 vh, v]) ∧ w'.ownsRow w.heap.size 9 1 v n (cS R) ∧ Below w.heap.size w w' := by
  have B0 := hide (Go.Joins.below_alloc2 w (.cells #[.int .i64 nb, .int .i64 vw, .int .i64 vh, .slice a n cap] 32) (.cells #[.int .i64 0, .int .i64 0, .int .i64 0, .slice none 0 0] 32))
  have A0 := hide ((BF.new w #[.int .i64 nb, .int .i64 vw, .int .i64 vh, .slice a n cap] 32).alloc (.cells #[.int .i64 0, .int .i64 0, .int .i64 0, .slice none 0 0] 32))
  have Z0 := hide (BF.new (w.alloc (.cells #[.int .i64 nb, .int .i64 vw, .int .i64 vh, .slice a n cap] 32)) #[.int .i64 0, .int .i64 0, .int .i64 0, .slice none 0 0] 32)
  rw [show (w.alloc (.cells #[.int .i64 nb, .int .i64 vw, .int .i64 vh, .slice a n cap] 32)).heap.size = w.heap.size + 1 from by simp] at Z0
  have T := tcloneA a cap n R HN hn _ (hr.below (unhide B0))
  clear hr
  go_enter Tryz.func54, Tryz.ntmps54
  go_wp2_with fail
  refine T.mono ?_
  clear T
  rintro e w1 ⟨v, rfl, ho, hb1⟩
  have B1 := hide ((unhide B0).trans (hb1.mono (unhide B0).size))
  have A1 := hide ((unhide A0).below hb1)
  have Z1 := hide ((unhide Z0).below hb1)
  obtain ⟨a2, cap2, rfl, hr2⟩ := ownZ_rowV ho
  have ka := (unhide A1).S
  have kaf := (unhide A1).F
  have kz := (unhide Z1).S
  have kf := (unhide Z1).F
  have h9 := ho
  rw [show ((w.alloc (.cells #[.int .i64 nb, .int .i64 vw, .int .i64 vh, .slice a n cap] 32)).alloc (.cells #[.int .i64 0, .int .i64 0, .int .i64 0, .slice none 0 0] 32)).heap.size = w.heap.size + 2 from by simp] at h9
  have HO := hide h9
  clear B0 A0 Z0 hb1 ho hr2 h9
  go_wp2_with fail
  refine bodyPost_ret (v := .agg #[.int .i64 nb, .int .i64 vw, .int .i64 vh, .slice a2 n cap2]) (by simp [results, Tryz.results54, go_sem, kz]) rfl ⟨_, rfl, ?_, ?_⟩
  · refine Go.Joins.ownsRow_le (base := w.heap.size + 2) ?_ (by omega)
    have hl1 : w.heap.size + 1 < w.heap.size + 2 := by omega
    have hl2 : w.heap.size < w.heap.size + 2 := by omega
    repeat refine ownsRow_setCell_below ?_ (by first | exact hl1 | exact hl2) _
    exact unhide HO
  · repeat refine Below.setCell ?_ (by first | exact Nat.le_succ _ | exact Nat.le_refl _) _
    exact unhide B1
set_option maxHeartbeats 4000000 in
set_option maxRecDepth 100000 in
theorem igoes (nbv frv : Int) (fuv : Bool) (vwv vhv : Int) (x : Value) (hx : x.oneCell' = true) (nb vw vh : Int) (y : Value) (hy : y.oneCell' = true) (Q : Bool) (HQ : Hid (Q = (decide (frv = nb) && (decide (vwv = vw) && decide (vhv = vh))))) (w : World) :
    Calls Tryz.prog 55 #[.agg #[.int .i64 nbv, .int .i64 frv, .bool fuv, .int .i64 vwv, .int .i64 vhv, x], .agg #[.int .i64 nb, .int .i64 vw, .int .i64 vh, y]] w fun e w' => e = .returned (.bool Q) ∧ Below w.heap.size w w' := by
  have B0 := hide (Go.Joins.below_alloc2 w (.cells #[.int .i64 nbv, .int .i64 frv, .bool fuv, .int .i64 vwv, .int .i64 vhv, x] 40) (.cells #[.int .i64 nb, .int .i64 vw, .int .i64 vh, y] 32))
  have hQ := unhide HQ
  clear HQ
  by_cases h1 : frv = nb
  · subst h1
    by_cases h2 : vwv = vw
    · subst h2
      have hq : (vhv == vh) = Q := by rw [hQ, Bool.eq_iff_iff]; simp
      clear hQ
      go_enter Tryz.func55, Tryz.ntmps55
      go_wp2_with fail
      go_ret
      exact ⟨rfl, unhide B0⟩
    · have h2' : (vwv == vw) = false := by simpa using h2
      obtain rfl : Q = false := by rw [hQ, decide_eq_false h2]; simp
      clear hQ h2
      go_enter Tryz.func55, Tryz.ntmps55
      go_wp2_with fail
      go_ret
      exact ⟨rfl, unhide B0⟩
  · have h1' : (frv == nb) = false := by simpa using h1
    obtain rfl : Q = false := by rw [hQ, decide_eq_false h1]; rfl
    clear hQ h1
    go_enter Tryz.func55, Tryz.ntmps55
    go_wp2_with fail
    go_ret
    exact ⟨rfl, unhide B0⟩
end Go.Proofs.YtmmnoepcklfonaaGreatDoor

/- Copies of mirrors: what the specification answers. -/
namespace Go.Proofs.YtmmnoepcklfonaaGreatDoor
open Go.ChangeShapes Go.WideShapes Go.ChangeAt Go.RowKit
set_option linter.unusedVariables false
set_option maxHeartbeats 4000000 in
set_option maxRecDepth 100000 in
theorem smown (nb vw vh : Int) (a : Option Addr) (cap n : Nat) (R : List ByteArray) (HN : Hid (R.length = n)) (hn : n ≤ 1048576) (w : World) (hr : RowV w a (cS R)) :
    Calls Tryz.prog 42 #[.agg #[.int .i64 nb, .int .i64 vw, .int .i64 vh, .slice a n cap]] w fun e w' => ∃ v, e = .returned (.agg #[.int .i64 nb, .int .i64 vw, .int .i64 vh, v]) ∧ w'.ownsRow w.heap.size 9 1 v n (cS R) ∧ Below w.heap.size w w' := by
  have B0 := hide (Go.Joins.below_alloc2 w (.cells #[.int .i64 nb, .int .i64 vw, .int .i64 vh, .slice a n cap] 32) (.cells #[.int .i64 0, .int .i64 0, .int .i64 0, .slice none 0 0] 32))
  have A0 := hide ((BF.new w #[.int .i64 nb, .int .i64 vw, .int .i64 vh, .slice a n cap] 32).alloc (.cells #[.int .i64 0, .int .i64 0, .int .i64 0, .slice none 0 0] 32))
  have Z0 := hide (BF.new (w.alloc (.cells #[.int .i64 nb, .int .i64 vw, .int .i64 vh, .slice a n cap] 32)) #[.int .i64 0, .int .i64 0, .int .i64 0, .slice none 0 0] 32)
  rw [show (w.alloc (.cells #[.int .i64 nb, .int .i64 vw, .int .i64 vh, .slice a n cap] 32)).heap.size = w.heap.size + 1 from by simp] at Z0
  obtain ⟨i0, hi, hz0, hz1, hz2⟩ := info_parts Tryz.infL9
  have hown := lit_atT ((w.alloc (.cells #[.int .i64 nb, .int .i64 vw, .int .i64 vh, .slice a n cap] 32)).alloc (.cells #[.int .i64 0, .int .i64 0, .int .i64 0, .slice none 0 0] 32)) (w.heap.size + 1 + 1) (w.heap.size + 1 + 1) 9 (by simp) (Nat.le_refl _)
  have HBL := hide ((unhide B0).alloc (unhide B0).size (.cells #[] 9))
  have AL := hide ((unhide A0).alloc (.cells #[] 9))
  have ZL := hide ((unhide Z0).alloc (.cells #[] 9))
  have HR := hide hr
  clear hr B0 A0 Z0
  go_enter Tryz.func42, Tryz.ntmps42
  go_wp2_with (at_builtin; refine append_strsN _ rfl (.tmp 3) (.tmp 5) 22 rfl (w.heap.size + 1 + 1) 9 i0 Tryz.underlying22 hi hz0 hz1 hz2 _ rfl hown a cap n R (unhide HN) rfl ((unhide HR).below (unhide HBL)) hn (by simp) ?_; intro v2 w2 ho2 hg2; obtain ⟨a2, c2, rfl, -⟩ := own_rowV ho2; have HO2 := hide ho2; have B2 := hide ((unhide HBL).grown hg2 (unhide HBL).size (fun k hk => by have := (hown.lt k hk).1; omega)); have A2 := hide ((unhide AL).grown hg2 (fun h => by have := (hown.lt _ h).1; omega)); have Z2 := hide ((unhide ZL).grown hg2 (fun h => by have := (hown.lt _ h).1; omega)); have ka := (unhide A2).S; have kaf := (unhide A2).F; have kz := (unhide Z2).S; have kf := (unhide Z2).F; clear ho2 hg2 hown)
  refine bodyPost_ret (v := .agg #[.int .i64 nb, .int .i64 vw, .int .i64 vh, .slice a2 n c2]) (by simp [results, Tryz.results42, go_sem, kz]) rfl ⟨_, rfl, ?_, ?_⟩
  · refine Go.Joins.ownsRow_le (base := w.heap.size + 1 + 1) ?_ (by omega)
    have hl1 : w.heap.size + 1 < w.heap.size + 1 + 1 := by omega
    have hl2 : w.heap.size < w.heap.size + 1 + 1 := by omega
    repeat refine ownsRow_setCell_below ?_ (by first | exact hl1 | exact hl2) _
    exact unhide HO2
  · repeat refine Below.setCell ?_ (by first | exact Nat.le_succ _ | exact Nat.le_refl _) _
    exact unhide B2
end Go.Proofs.YtmmnoepcklfonaaGreatDoor
