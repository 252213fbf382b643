/- Commands: what the program answers. -/
import Derived.Test.YtoplijjddhecgaaDoorZG2
import Derived.Test.YtoplijjddhecgaaDoorZG20
import Derived.Lib.SmallJoins
namespace Go.Proofs.YtoplijjddhecgaaDoor
open Go.ChangeShapes Go.WideShapes Go.ChangeAt Go.RowKit
set_option linter.unusedVariables false
theorem icl (x : Int) (R : Bool) (HR : Hid (R = inB x 0 200)) (w : World) : Calls Tryd.prog 22 #[.int .i64 x] w fun e w' => e = .returned (.bool R) ∧ w' = w := by
  go_enter Tryd.func22, Tryd.ntmps22
  go_wp2_with fail
  refine (iwi x 0 200 R HR _).mono ?_
  rintro e w1 ⟨rfl, rfl⟩
  go_wp2_with fail
  go_ret
  exact ⟨rfl, rfl⟩
theorem iep (x : Int) (R : Bool) (HR : Hid (R = inB x 1 60000)) (w : World) : Calls Tryd.prog 63 #[.int .i64 x] w fun e w' => e = .returned (.bool R) ∧ w' = w := by
  go_enter Tryd.func63, Tryd.ntmps63
  go_wp2_with fail
  refine (iwi x 1 60000 R HR _).mono ?_
  rintro e w1 ⟨rfl, rfl⟩
  go_wp2_with fail
  go_ret
  exact ⟨rfl, rfl⟩
theorem isq (x : Int) (R : Bool) (HR : Hid (R = inB x 1 60000)) (w : World) : Calls Tryd.prog 23 #[.int .i64 x] w fun e w' => e = .returned (.bool R) ∧ w' = w := by
  go_enter Tryd.func23, Tryd.ntmps23
  go_wp2_with fail
  refine (iwi x 1 60000 R HR _).mono ?_
  rintro e w1 ⟨rfl, rfl⟩
  go_wp2_with fail
  go_ret
  exact ⟨rfl, rfl⟩
set_option maxHeartbeats 400000 in
theorem ipn (x : Int) (R : Bool) (HR : Hid (R = inB x 1 1000)) (w : World) : Calls Tryd.prog 62 #[.int .i64 x] w fun e w' => e = .returned (.bool R) ∧ w' = w := by
  by_cases h1 : 1 ≤ x
  · by_cases h2 : x ≤ 1000
    all_goals
      go_enter Tryd.func62, Tryd.ntmps62
      go_wp2_with fail
      go_ret
      exact ⟨ret_bool (by rw [unhide HR]; unfold inB; rw [Bool.eq_iff_iff]; simp <;> omega), rfl⟩
  · go_enter Tryd.func62, Tryd.ntmps62
    go_wp2_with fail
    go_ret
    exact ⟨ret_bool (by rw [unhide HR]; unfold inB; rw [Bool.eq_iff_iff]; simp <;> omega), rfl⟩
theorem isz (x y : Int) (R : Bool) (HR : Hid (R = sizeB x y)) (w : World) : Calls Tryd.prog 64 #[.int .i64 x, .int .i64 y] w fun e w' => e = .returned (.bool R) ∧ w' = w := by
  rw [unhide HR]; exact isize x y w
set_option maxHeartbeats 400000 in
theorem iwn (s : ByteArray) (HS : Hid (s.size ≤ 1048576)) (R : Bool) (HR : Hid (R = wnB s)) (w : World) : Calls Tryd.prog 61 #[.string s] w fun e w' => e = .returned (.bool R) ∧ w' = w := by
  have hs := unhide HS
  by_cases h1 : s.size ≤ 12
  · have hR : R = nameB s := by rw [unhide HR]; unfold wnB; rw [decide_eq_true h1]; rfl
    have h2 : (s.size : Int) ≤ 12 := by omega
    clear HR hs
    go_enter Tryd.func61, Tryd.ntmps61
    go_wp2_with fail
    refine (name6 s (unhide HS) _).mono ?_
    rintro e w1 ⟨rfl, rfl⟩
    go_wp2_with fail
    go_ret
    exact ⟨ret_bool hR.symm, rfl⟩
  · have hR : R = false := by rw [unhide HR]; unfold wnB; rw [decide_eq_false h1]; rfl
    have h2 : ¬ (s.size : Int) ≤ 12 := by omega
    clear HR hs
    subst hR
    go_enter Tryd.func61, Tryd.ntmps61
    go_wp2_with fail
    go_ret
    exact ⟨rfl, rfl⟩
set_option maxHeartbeats 1000000 in
set_option maxRecDepth 100000 in
theorem ijust (k cl sq p n ep k2 cl2 sq2 p2 n2 ep2 : Int) (r r2 : Bool) (nm dt nm2 dt2 : ByteArray) (R : Bool) (HR : Hid (R = jst p n ep r nm dt p2 n2 ep2 r2 nm2 dt2)) (w : World) : Calls Tryd.prog 60 #[.agg #[.int .i64 k, .int .i64 cl, .int .i64 sq, .int .i64 p, .int .i64 n, .int .i64 ep, .bool r, .string nm, .string dt], .agg #[.int .i64 k2, .int .i64 cl2, .int .i64 sq2, .int .i64 p2, .int .i64 n2, .int .i64 ep2, .bool r2, .string nm2, .string dt2]] w fun e w' => e = .returned (.bool R) ∧ Below w.heap.size w w' := by
  go_enter Tryd.func60, Tryd.ntmps60
  go_wp2_with fail
  go_region
  go_wp2_with fail
  all_goals
    go_ret
    exact ⟨ret_bool (by rw [unhide HR]; unfold jst; simp_all), (Go.Joins.below_alloc2 w _ _).drew⟩
set_option maxHeartbeats 1000000 in
set_option maxRecDepth 100000 in
theorem iisWindow (k cl sq p n ep : Int) (r : Bool) (nm dt : ByteArray) (HNM : Hid (nm.size ≤ 1048576)) (HDT : Hid (dt.size ≤ 1048576)) (R : Bool) (HR : Hid (R = isWindowB p n ep r nm dt)) (w : World) : Calls Tryd.prog 41 #[.agg #[.int .i64 k, .int .i64 cl, .int .i64 sq, .int .i64 p, .int .i64 n, .int .i64 ep, .bool r, .string nm, .string dt]] w fun e w' => e = .returned (.bool R) ∧ Below w.heap.size w w' := by
  have HB := hide (Go.Joins.below_alloc1 w (.cells #[.int .i64 k, .int .i64 cl, .int .i64 sq, .int .i64 p, .int .i64 n, .int .i64 ep, .bool r, .string nm, .string dt] 24))
  have BX := hide (BF.new w #[.int .i64 k, .int .i64 cl, .int .i64 sq, .int .i64 p, .int .i64 n, .int .i64 ep, .bool r, .string nm, .string dt] 24)
  obtain ⟨J, hJ⟩ : ∃ J, J = jst p n ep r nm dt 0 0 0 false nm ⟨#[]⟩ := ⟨_, rfl⟩
  obtain ⟨U, hU⟩ : ∃ U, U = wnB nm := ⟨_, rfl⟩
  have hR := unhide HR
  unfold isWindowB at hR
  rw [← hJ, ← hU] at hR
  have HRR := hide hR
  have HJ := hide hJ
  have HU := hide hU
  clear HR hR hJ hU
  go_enter Tryd.func41, Tryd.ntmps41
  go_wp2_with fail
  refine (ijust k cl sq p n ep 0 0 0 0 0 0 r false nm dt nm ⟨#[]⟩ J HJ _).mono ?_
  rintro e w1 ⟨rfl, hb1⟩
  have HB1 := hide ((unhide HB).trans (hb1.mono (unhide HB).size))
  have BX1 := hide ((unhide BX).below hb1)
  clear hb1 HB BX
  have c1 := (unhide BX1).S
  cases J
  · go_wp2_with fail
    go_ret
    exact ⟨ret_bool (by rw [unhide HRR]; rfl), unhide HB1⟩
  go_wp2_with fail
  refine (iwn nm HNM U HU _).mono ?_
  rintro e w2 ⟨rfl, rfl⟩
  go_wp2_with fail
  go_ret
  exact ⟨ret_bool (by rw [unhide HRR]; rfl), unhide HB1⟩
set_option maxHeartbeats 1000000 in
set_option maxRecDepth 100000 in
theorem iisSplit (k cl sq p n ep : Int) (r : Bool) (nm dt : ByteArray) (HNM : Hid (nm.size ≤ 1048576)) (HDT : Hid (dt.size ≤ 1048576)) (R : Bool) (HR : Hid (R = isSplitB p n ep r nm dt)) (w : World) : Calls Tryd.prog 42 #[.agg #[.int .i64 k, .int .i64 cl, .int .i64 sq, .int .i64 p, .int .i64 n, .int .i64 ep, .bool r, .string nm, .string dt]] w fun e w' => e = .returned (.bool R) ∧ Below w.heap.size w w' := by
  have HB := hide (Go.Joins.below_alloc1 w (.cells #[.int .i64 k, .int .i64 cl, .int .i64 sq, .int .i64 p, .int .i64 n, .int .i64 ep, .bool r, .string nm, .string dt] 24))
  have BX := hide (BF.new w #[.int .i64 k, .int .i64 cl, .int .i64 sq, .int .i64 p, .int .i64 n, .int .i64 ep, .bool r, .string nm, .string dt] 24)
  obtain ⟨J, hJ⟩ : ∃ J, J = jst p n ep r nm dt p 0 0 r ⟨#[]⟩ ⟨#[]⟩ := ⟨_, rfl⟩
  obtain ⟨U, hU⟩ : ∃ U, U = inB p 1 1000 := ⟨_, rfl⟩
  have hR := unhide HR
  unfold isSplitB at hR
  rw [← hJ, ← hU] at hR
  have HRR := hide hR
  have HJ := hide hJ
  have HU := hide hU
  clear HR hR hJ hU
  go_enter Tryd.func42, Tryd.ntmps42
  go_wp2_with fail
  refine (ijust k cl sq p n ep 0 0 0 p 0 0 r r nm dt ⟨#[]⟩ ⟨#[]⟩ J HJ _).mono ?_
  rintro e w1 ⟨rfl, hb1⟩
  have HB1 := hide ((unhide HB).trans (hb1.mono (unhide HB).size))
  have BX1 := hide ((unhide BX).below hb1)
  clear hb1 HB BX
  have c1 := (unhide BX1).S
  cases J
  · go_wp2_with fail
    go_ret
    exact ⟨ret_bool (by rw [unhide HRR]; rfl), unhide HB1⟩
  go_wp2_with fail
  refine (ipn p U HU _).mono ?_
  rintro e w2 ⟨rfl, rfl⟩
  go_wp2_with fail
  go_ret
  exact ⟨ret_bool (by rw [unhide HRR]; rfl), unhide HB1⟩
set_option maxHeartbeats 1000000 in
set_option maxRecDepth 100000 in
theorem iisKill (k cl sq p n ep : Int) (r : Bool) (nm dt : ByteArray) (HNM : Hid (nm.size ≤ 1048576)) (HDT : Hid (dt.size ≤ 1048576)) (R : Bool) (HR : Hid (R = isKillB p n ep r nm dt)) (w : World) : Calls Tryd.prog 43 #[.agg #[.int .i64 k, .int .i64 cl, .int .i64 sq, .int .i64 p, .int .i64 n, .int .i64 ep, .bool r, .string nm, .string dt]] w fun e w' => e = .returned (.bool R) ∧ Below w.heap.size w w' := by
  have HB := hide (Go.Joins.below_alloc1 w (.cells #[.int .i64 k, .int .i64 cl, .int .i64 sq, .int .i64 p, .int .i64 n, .int .i64 ep, .bool r, .string nm, .string dt] 24))
  have BX := hide (BF.new w #[.int .i64 k, .int .i64 cl, .int .i64 sq, .int .i64 p, .int .i64 n, .int .i64 ep, .bool r, .string nm, .string dt] 24)
  obtain ⟨J, hJ⟩ : ∃ J, J = jst p n ep r nm dt p 0 0 false ⟨#[]⟩ ⟨#[]⟩ := ⟨_, rfl⟩
  obtain ⟨U, hU⟩ : ∃ U, U = inB p 1 1000 := ⟨_, rfl⟩
  have hR := unhide HR
  unfold isKillB at hR
  rw [← hJ, ← hU] at hR
  have HRR := hide hR
  have HJ := hide hJ
  have HU := hide hU
  clear HR hR hJ hU
  go_enter Tryd.func43, Tryd.ntmps43
  go_wp2_with fail
  refine (ijust k cl sq p n ep 0 0 0 p 0 0 r false nm dt ⟨#[]⟩ ⟨#[]⟩ J HJ _).mono ?_
  rintro e w1 ⟨rfl, hb1⟩
  have HB1 := hide ((unhide HB).trans (hb1.mono (unhide HB).size))
  have BX1 := hide ((unhide BX).below hb1)
  clear hb1 HB BX
  have c1 := (unhide BX1).S
  cases J
  · go_wp2_with fail
    go_ret
    exact ⟨ret_bool (by rw [unhide HRR]; rfl), unhide HB1⟩
  go_wp2_with fail
  refine (ipn p U HU _).mono ?_
  rintro e w2 ⟨rfl, rfl⟩
  go_wp2_with fail
  go_ret
  exact ⟨ret_bool (by rw [unhide HRR]; rfl), unhide HB1⟩
set_option maxHeartbeats 1000000 in
set_option maxRecDepth 100000 in
theorem iisMove (k cl sq p n ep : Int) (r : Bool) (nm dt : ByteArray) (HNM : Hid (nm.size ≤ 1048576)) (HDT : Hid (dt.size ≤ 1048576)) (R : Bool) (HR : Hid (R = isMoveB p n ep r nm dt)) (w : World) : Calls Tryd.prog 44 #[.agg #[.int .i64 k, .int .i64 cl, .int .i64 sq, .int .i64 p, .int .i64 n, .int .i64 ep, .bool r, .string nm, .string dt]] w fun e w' => e = .returned (.bool R) ∧ Below w.heap.size w w' := by
  have HB := hide (Go.Joins.below_alloc1 w (.cells #[.int .i64 k, .int .i64 cl, .int .i64 sq, .int .i64 p, .int .i64 n, .int .i64 ep, .bool r, .string nm, .string dt] 24))
  have BX := hide (BF.new w #[.int .i64 k, .int .i64 cl, .int .i64 sq, .int .i64 p, .int .i64 n, .int .i64 ep, .bool r, .string nm, .string dt] 24)
  obtain ⟨J, hJ⟩ : ∃ J, J = jst p n ep r nm dt p n 0 false ⟨#[]⟩ ⟨#[]⟩ := ⟨_, rfl⟩
  obtain ⟨U, hU⟩ : ∃ U, U = inB p 1 1000 := ⟨_, rfl⟩
  obtain ⟨V, hV⟩ : ∃ V, V = inB n (-100) 100 := ⟨_, rfl⟩
  have hR := unhide HR
  unfold isMoveB at hR
  rw [← hJ, ← hU, ← hV] at hR
  have HRR := hide hR
  have HJ := hide hJ
  have HU := hide hU
  have HV := hide hV
  clear HR hR hJ hU hV
  go_enter Tryd.func44, Tryd.ntmps44
  go_wp2_with fail
  refine (ijust k cl sq p n ep 0 0 0 p n 0 r false nm dt ⟨#[]⟩ ⟨#[]⟩ J HJ _).mono ?_
  rintro e w1 ⟨rfl, hb1⟩
  have HB1 := hide ((unhide HB).trans (hb1.mono (unhide HB).size))
  have BX1 := hide ((unhide BX).below hb1)
  clear hb1 HB BX
  have c1 := (unhide BX1).S
  cases J
  · go_wp2_with fail
    go_ret
    exact ⟨ret_bool (by rw [unhide HRR]; rfl), unhide HB1⟩
  go_wp2_with fail
  refine (ipn p U HU _).mono ?_
  rintro e w2 ⟨rfl, rfl⟩
  cases U
  · go_wp2_with fail
    go_ret
    exact ⟨ret_bool (by rw [unhide HRR]; rfl), unhide HB1⟩
  go_wp2_with fail
  refine (iwi n (-100) 100 V HV _).mono ?_
  rintro e w3 ⟨rfl, rfl⟩
  go_wp2_with fail
  go_ret
  exact ⟨ret_bool (by rw [unhide HRR]; rfl), unhide HB1⟩
set_option maxHeartbeats 1000000 in
set_option maxRecDepth 100000 in
theorem iisOutput (k cl sq p n ep : Int) (r : Bool) (nm dt : ByteArray) (HNM : Hid (nm.size ≤ 1048576)) (HDT : Hid (dt.size ≤ 1048576)) (R : Bool) (HR : Hid (R = isOutputB p n ep r nm dt)) (w : World) : Calls Tryd.prog 45 #[.agg #[.int .i64 k, .int .i64 cl, .int .i64 sq, .int .i64 p, .int .i64 n, .int .i64 ep, .bool r, .string nm, .string dt]] w fun e w' => e = .returned (.bool R) ∧ Below w.heap.size w w' := by
  have HB := hide (Go.Joins.below_alloc1 w (.cells #[.int .i64 k, .int .i64 cl, .int .i64 sq, .int .i64 p, .int .i64 n, .int .i64 ep, .bool r, .string nm, .string dt] 24))
  have BX := hide (BF.new w #[.int .i64 k, .int .i64 cl, .int .i64 sq, .int .i64 p, .int .i64 n, .int .i64 ep, .bool r, .string nm, .string dt] 24)
  obtain ⟨J, hJ⟩ : ∃ J, J = jst p n ep r nm dt p 0 ep false ⟨#[]⟩ dt := ⟨_, rfl⟩
  obtain ⟨U, hU⟩ : ∃ U, U = inB p 1 1000 := ⟨_, rfl⟩
  obtain ⟨V, hV⟩ : ∃ V, V = inB ep 1 60000 := ⟨_, rfl⟩
  obtain ⟨X, hX⟩ : ∃ X, X = inB dt.size 1 200 := ⟨_, rfl⟩
  have hR := unhide HR
  unfold isOutputB at hR
  rw [← hJ, ← hU, ← hV, ← hX] at hR
  have HRR := hide hR
  have HJ := hide hJ
  have HU := hide hU
  have HV := hide hV
  have HX := hide hX
  clear HR hR hJ hU hV hX
  go_enter Tryd.func45, Tryd.ntmps45
  go_wp2_with fail
  refine (ijust k cl sq p n ep 0 0 0 p 0 ep r false nm dt ⟨#[]⟩ dt J HJ _).mono ?_
  rintro e w1 ⟨rfl, hb1⟩
  have HB1 := hide ((unhide HB).trans (hb1.mono (unhide HB).size))
  have BX1 := hide ((unhide BX).below hb1)
  clear hb1 HB BX
  have c1 := (unhide BX1).S
  cases J
  · go_wp2_with fail
    go_ret
    exact ⟨ret_bool (by rw [unhide HRR]; rfl), unhide HB1⟩
  go_wp2_with fail
  refine (ipn p U HU _).mono ?_
  rintro e w2 ⟨rfl, rfl⟩
  cases U
  · go_wp2_with fail
    go_ret
    exact ⟨ret_bool (by rw [unhide HRR]; rfl), unhide HB1⟩
  go_wp2_with fail
  refine (iep ep V HV _).mono ?_
  rintro e w3 ⟨rfl, rfl⟩
  cases V
  · go_wp2_with fail
    go_ret
    exact ⟨ret_bool (by rw [unhide HRR]; rfl), unhide HB1⟩
  go_wp2_with fail
  refine (iwi dt.size 1 200 X HX _).mono ?_
  rintro e w4 ⟨rfl, rfl⟩
  go_wp2_with fail
  go_ret
  exact ⟨ret_bool (by rw [unhide HRR]; rfl), unhide HB1⟩
set_option maxHeartbeats 1000000 in
set_option maxRecDepth 100000 in
theorem iisOwn (k cl sq p n ep : Int) (r : Bool) (nm dt : ByteArray) (HNM : Hid (nm.size ≤ 1048576)) (HDT : Hid (dt.size ≤ 1048576)) (R : Bool) (HR : Hid (R = isOwnB p n ep r nm dt)) (w : World) : Calls Tryd.prog 46 #[.agg #[.int .i64 k, .int .i64 cl, .int .i64 sq, .int .i64 p, .int .i64 n, .int .i64 ep, .bool r, .string nm, .string dt]] w fun e w' => e = .returned (.bool R) ∧ Below w.heap.size w w' := by
  have HB := hide (Go.Joins.below_alloc1 w (.cells #[.int .i64 k, .int .i64 cl, .int .i64 sq, .int .i64 p, .int .i64 n, .int .i64 ep, .bool r, .string nm, .string dt] 24))
  have BX := hide (BF.new w #[.int .i64 k, .int .i64 cl, .int .i64 sq, .int .i64 p, .int .i64 n, .int .i64 ep, .bool r, .string nm, .string dt] 24)
  obtain ⟨J, hJ⟩ : ∃ J, J = jst p n ep r nm dt p n 0 false ⟨#[]⟩ ⟨#[]⟩ := ⟨_, rfl⟩
  obtain ⟨U, hU⟩ : ∃ U, U = inB p 1 1000 := ⟨_, rfl⟩
  obtain ⟨V, hV⟩ : ∃ V, V = inB n 0 200 := ⟨_, rfl⟩
  have hR := unhide HR
  unfold isOwnB at hR
  rw [← hJ, ← hU, ← hV] at hR
  have HRR := hide hR
  have HJ := hide hJ
  have HU := hide hU
  have HV := hide hV
  clear HR hR hJ hU hV
  go_enter Tryd.func46, Tryd.ntmps46
  go_wp2_with fail
  refine (ijust k cl sq p n ep 0 0 0 p n 0 r false nm dt ⟨#[]⟩ ⟨#[]⟩ J HJ _).mono ?_
  rintro e w1 ⟨rfl, hb1⟩
  have HB1 := hide ((unhide HB).trans (hb1.mono (unhide HB).size))
  have BX1 := hide ((unhide BX).below hb1)
  clear hb1 HB BX
  have c1 := (unhide BX1).S
  cases J
  · go_wp2_with fail
    go_ret
    exact ⟨ret_bool (by rw [unhide HRR]; rfl), unhide HB1⟩
  go_wp2_with fail
  refine (ipn p U HU _).mono ?_
  rintro e w2 ⟨rfl, rfl⟩
  cases U
  · go_wp2_with fail
    go_ret
    exact ⟨ret_bool (by rw [unhide HRR]; rfl), unhide HB1⟩
  go_wp2_with fail
  refine (icl n V HV _).mono ?_
  rintro e w3 ⟨rfl, rfl⟩
  go_wp2_with fail
  go_ret
  exact ⟨ret_bool (by rw [unhide HRR]; rfl), unhide HB1⟩
set_option maxHeartbeats 1000000 in
set_option maxRecDepth 100000 in
theorem iisResize (k cl sq p n ep : Int) (r : Bool) (nm dt : ByteArray) (HNM : Hid (nm.size ≤ 1048576)) (HDT : Hid (dt.size ≤ 1048576)) (R : Bool) (HR : Hid (R = isResizeB p n ep r nm dt)) (w : World) : Calls Tryd.prog 47 #[.agg #[.int .i64 k, .int .i64 cl, .int .i64 sq, .int .i64 p, .int .i64 n, .int .i64 ep, .bool r, .string nm, .string dt]] w fun e w' => e = .returned (.bool R) ∧ Below w.heap.size w w' := by
  have HB := hide (Go.Joins.below_alloc1 w (.cells #[.int .i64 k, .int .i64 cl, .int .i64 sq, .int .i64 p, .int .i64 n, .int .i64 ep, .bool r, .string nm, .string dt] 24))
  have BX := hide (BF.new w #[.int .i64 k, .int .i64 cl, .int .i64 sq, .int .i64 p, .int .i64 n, .int .i64 ep, .bool r, .string nm, .string dt] 24)
  obtain ⟨J, hJ⟩ : ∃ J, J = jst p n ep r nm dt 0 n ep false ⟨#[]⟩ ⟨#[]⟩ := ⟨_, rfl⟩
  obtain ⟨U, hU⟩ : ∃ U, U = sizeB n ep := ⟨_, rfl⟩
  have hR := unhide HR
  unfold isResizeB at hR
  rw [← hJ, ← hU] at hR
  have HRR := hide hR
  have HJ := hide hJ
  have HU := hide hU
  clear HR hR hJ hU
  go_enter Tryd.func47, Tryd.ntmps47
  go_wp2_with fail
  refine (ijust k cl sq p n ep 0 0 0 0 n ep r false nm dt ⟨#[]⟩ ⟨#[]⟩ J HJ _).mono ?_
  rintro e w1 ⟨rfl, hb1⟩
  have HB1 := hide ((unhide HB).trans (hb1.mono (unhide HB).size))
  have BX1 := hide ((unhide BX).below hb1)
  clear hb1 HB BX
  have c1 := (unhide BX1).S
  cases J
  · go_wp2_with fail
    go_ret
    exact ⟨ret_bool (by rw [unhide HRR]; rfl), unhide HB1⟩
  go_wp2_with fail
  refine (isz n ep U HU _).mono ?_
  rintro e w2 ⟨rfl, rfl⟩
  go_wp2_with fail
  go_ret
  exact ⟨ret_bool (by rw [unhide HRR]; rfl), unhide HB1⟩
set_option maxHeartbeats 1000000 in
set_option maxRecDepth 100000 in
theorem iisRename (k cl sq p n ep : Int) (r : Bool) (nm dt : ByteArray) (HNM : Hid (nm.size ≤ 1048576)) (HDT : Hid (dt.size ≤ 1048576)) (R : Bool) (HR : Hid (R = isRenameB p n ep r nm dt)) (w : World) : Calls Tryd.prog 48 #[.agg #[.int .i64 k, .int .i64 cl, .int .i64 sq, .int .i64 p, .int .i64 n, .int .i64 ep, .bool r, .string nm, .string dt]] w fun e w' => e = .returned (.bool R) ∧ Below w.heap.size w w' := by
  have HB := hide (Go.Joins.below_alloc1 w (.cells #[.int .i64 k, .int .i64 cl, .int .i64 sq, .int .i64 p, .int .i64 n, .int .i64 ep, .bool r, .string nm, .string dt] 24))
  have BX := hide (BF.new w #[.int .i64 k, .int .i64 cl, .int .i64 sq, .int .i64 p, .int .i64 n, .int .i64 ep, .bool r, .string nm, .string dt] 24)
  obtain ⟨J, hJ⟩ : ∃ J, J = jst p n ep r nm dt 0 0 0 false nm dt := ⟨_, rfl⟩
  obtain ⟨U, hU⟩ : ∃ U, U = wnB nm := ⟨_, rfl⟩
  obtain ⟨V, hV⟩ : ∃ V, V = wnB dt := ⟨_, rfl⟩
  have hR := unhide HR
  unfold isRenameB at hR
  rw [← hJ, ← hU, ← hV] at hR
  have HRR := hide hR
  have HJ := hide hJ
  have HU := hide hU
  have HV := hide hV
  clear HR hR hJ hU hV
  go_enter Tryd.func48, Tryd.ntmps48
  go_wp2_with fail
  refine (ijust k cl sq p n ep 0 0 0 0 0 0 r false nm dt nm dt J HJ _).mono ?_
  rintro e w1 ⟨rfl, hb1⟩
  have HB1 := hide ((unhide HB).trans (hb1.mono (unhide HB).size))
  have BX1 := hide ((unhide BX).below hb1)
  clear hb1 HB BX
  have c1 := (unhide BX1).S
  cases J
  · go_wp2_with fail
    go_ret
    exact ⟨ret_bool (by rw [unhide HRR]; rfl), unhide HB1⟩
  go_wp2_with fail
  refine (iwn nm HNM U HU _).mono ?_
  rintro e w2 ⟨rfl, rfl⟩
  cases U
  · go_wp2_with fail
    go_ret
    exact ⟨ret_bool (by rw [unhide HRR]; rfl), unhide HB1⟩
  go_wp2_with fail
  refine (iwn dt HDT V HV _).mono ?_
  rintro e w3 ⟨rfl, rfl⟩
  go_wp2_with fail
  go_ret
  exact ⟨ret_bool (by rw [unhide HRR]; rfl), unhide HB1⟩
def ruleE : Array MapEntry := #[{ key := .int .i64 1, val := .func (.func 41) #[] #[], born := 0 }, { key := .int .i64 2, val := .func (.func 42) #[] #[], born := 1 }, { key := .int .i64 3, val := .func (.func 43) #[] #[], born := 2 }, { key := .int .i64 4, val := .func (.func 44) #[] #[], born := 3 }, { key := .int .i64 5, val := .func (.func 45) #[] #[], born := 4 }, { key := .int .i64 6, val := .func (.func 46) #[] #[], born := 5 }, { key := .int .i64 7, val := .func (.func 47) #[] #[], born := 6 }, { key := .int .i64 8, val := .func (.func 48) #[] #[], born := 7 }]
theorem rule_none (k : Int) (n1 : ¬ k = 1) (n2 : ¬ k = 2) (n3 : ¬ k = 3) (n4 : ¬ k = 4) (n5 : ¬ k = 5) (n6 : ¬ k = 6) (n7 : ¬ k = 7) (n8 : ¬ k = 8) : Instr.findNow (.int .i64) (.int .i64 k) ruleE.toList 0 = some none := by
  have m1 : (k == 1) = false := beq_eq_false_iff_ne.2 n1
  have m2 : (k == 2) = false := beq_eq_false_iff_ne.2 n2
  have m3 : (k == 3) = false := beq_eq_false_iff_ne.2 n3
  have m4 : (k == 4) = false := beq_eq_false_iff_ne.2 n4
  have m5 : (k == 5) = false := beq_eq_false_iff_ne.2 n5
  have m6 : (k == 6) = false := beq_eq_false_iff_ne.2 n6
  have m7 : (k == 7) = false := beq_eq_false_iff_ne.2 n7
  have m8 : (k == 8) = false := beq_eq_false_iff_ne.2 n8
  simp [ruleE, Instr.findNow, Instr.sameNow, m1, m2, m3, m4, m5, m6, m7, m8]
set_option maxHeartbeats 1000000 in
set_option maxRecDepth 100000 in
theorem irules (w : World) : Calls Tryd.prog 21 #[] w fun e w' => ∃ g, e = .returned (.map (some g)) ∧ w'.heap[g]? = some (.map ruleE 8) ∧ w.heap.size ≤ g ∧ Below w.heap.size w w' := by
  have hmm := @run_makeMap Tryd.prog
  obtain ⟨g, hg⟩ : ∃ g, g = w.heap.size := ⟨_, rfl⟩
  obtain ⟨v0, e0⟩ : ∃ v, v = w.alloc (.map #[] 0) := ⟨_, rfl⟩
  have B0 : Below w.heap.size w v0 := by rw [e0]; exact (Below.refl _ _).alloc (Nat.le_refl _) _
  have G0 : v0.heap[g]? = some (.map #[] 0) := by rw [e0, hg]; exact (MapKept.heap_alloc w _).1
  have Z0 : g < v0.heap.size := by rw [e0, hg]; simp
  obtain ⟨v1, e1⟩ : ∃ v, v = mput v0 g (.map #[{ key := .int .i64 1, val := .func (.func 41) #[] #[], born := 0 }] 1) := ⟨_, rfl⟩
  have r1 : (Instr.mapUpdate 46 (.map (some g)) (.int .i64 1) (.func (.func 41) #[] #[])).run Tryd.prog v0 = .ok () v1 := by rw [e1]; exact run_putI v0 46 3 31 g 0 1 (.func (.func 41) #[] #[]) #[] Tryd.underlying46 Tryd.underlying3 G0 rfl
  have B1 : Below w.heap.size w v1 := by rw [e1]; exact mput_below B0 (by rw [hg]; exact Nat.le_refl _)
  have G1 : v1.heap[g]? = some (.map #[{ key := .int .i64 1, val := .func (.func 41) #[] #[], born := 0 }] 1) := by rw [e1]; exact mput_at Z0
  have Z1 : g < v1.heap.size := by rw [e1, mput_size]; exact Z0
  clear e1 B0 G0 Z0
  obtain ⟨v2, e2⟩ : ∃ v, v = mput v1 g (.map #[{ key := .int .i64 1, val := .func (.func 41) #[] #[], born := 0 }, { key := .int .i64 2, val := .func (.func 42) #[] #[], born := 1 }] 2) := ⟨_, rfl⟩
  have r2 : (Instr.mapUpdate 46 (.map (some g)) (.int .i64 2) (.func (.func 42) #[] #[])).run Tryd.prog v1 = .ok () v2 := by rw [e2]; exact run_putI v1 46 3 31 g 1 2 (.func (.func 42) #[] #[]) #[{ key := .int .i64 1, val := .func (.func 41) #[] #[], born := 0 }] Tryd.underlying46 Tryd.underlying3 G1 rfl
  have B2 : Below w.heap.size w v2 := by rw [e2]; exact mput_below B1 (by rw [hg]; exact Nat.le_refl _)
  have G2 : v2.heap[g]? = some (.map #[{ key := .int .i64 1, val := .func (.func 41) #[] #[], born := 0 }, { key := .int .i64 2, val := .func (.func 42) #[] #[], born := 1 }] 2) := by rw [e2]; exact mput_at Z1
  have Z2 : g < v2.heap.size := by rw [e2, mput_size]; exact Z1
  clear e2 B1 G1 Z1
  obtain ⟨v3, e3⟩ : ∃ v, v = mput v2 g (.map #[{ key := .int .i64 1, val := .func (.func 41) #[] #[], born := 0 }, { key := .int .i64 2, val := .func (.func 42) #[] #[], born := 1 }, { key := .int .i64 3, val := .func (.func 43) #[] #[], born := 2 }] 3) := ⟨_, rfl⟩
  have r3 : (Instr.mapUpdate 46 (.map (some g)) (.int .i64 3) (.func (.func 43) #[] #[])).run Tryd.prog v2 = .ok () v3 := by rw [e3]; exact run_putI v2 46 3 31 g 2 3 (.func (.func 43) #[] #[]) #[{ key := .int .i64 1, val := .func (.func 41) #[] #[], born := 0 }, { key := .int .i64 2, val := .func (.func 42) #[] #[], born := 1 }] Tryd.underlying46 Tryd.underlying3 G2 rfl
  have B3 : Below w.heap.size w v3 := by rw [e3]; exact mput_below B2 (by rw [hg]; exact Nat.le_refl _)
  have G3 : v3.heap[g]? = some (.map #[{ key := .int .i64 1, val := .func (.func 41) #[] #[], born := 0 }, { key := .int .i64 2, val := .func (.func 42) #[] #[], born := 1 }, { key := .int .i64 3, val := .func (.func 43) #[] #[], born := 2 }] 3) := by rw [e3]; exact mput_at Z2
  have Z3 : g < v3.heap.size := by rw [e3, mput_size]; exact Z2
  clear e3 B2 G2 Z2
  obtain ⟨v4, e4⟩ : ∃ v, v = mput v3 g (.map #[{ key := .int .i64 1, val := .func (.func 41) #[] #[], born := 0 }, { key := .int .i64 2, val := .func (.func 42) #[] #[], born := 1 }, { key := .int .i64 3, val := .func (.func 43) #[] #[], born := 2 }, { key := .int .i64 4, val := .func (.func 44) #[] #[], born := 3 }] 4) := ⟨_, rfl⟩
  have r4 : (Instr.mapUpdate 46 (.map (some g)) (.int .i64 4) (.func (.func 44) #[] #[])).run Tryd.prog v3 = .ok () v4 := by rw [e4]; exact run_putI v3 46 3 31 g 3 4 (.func (.func 44) #[] #[]) #[{ key := .int .i64 1, val := .func (.func 41) #[] #[], born := 0 }, { key := .int .i64 2, val := .func (.func 42) #[] #[], born := 1 }, { key := .int .i64 3, val := .func (.func 43) #[] #[], born := 2 }] Tryd.underlying46 Tryd.underlying3 G3 rfl
  have B4 : Below w.heap.size w v4 := by rw [e4]; exact mput_below B3 (by rw [hg]; exact Nat.le_refl _)
  have G4 : v4.heap[g]? = some (.map #[{ key := .int .i64 1, val := .func (.func 41) #[] #[], born := 0 }, { key := .int .i64 2, val := .func (.func 42) #[] #[], born := 1 }, { key := .int .i64 3, val := .func (.func 43) #[] #[], born := 2 }, { key := .int .i64 4, val := .func (.func 44) #[] #[], born := 3 }] 4) := by rw [e4]; exact mput_at Z3
  have Z4 : g < v4.heap.size := by rw [e4, mput_size]; exact Z3
  clear e4 B3 G3 Z3
  obtain ⟨v5, e5⟩ : ∃ v, v = mput v4 g (.map #[{ key := .int .i64 1, val := .func (.func 41) #[] #[], born := 0 }, { key := .int .i64 2, val := .func (.func 42) #[] #[], born := 1 }, { key := .int .i64 3, val := .func (.func 43) #[] #[], born := 2 }, { key := .int .i64 4, val := .func (.func 44) #[] #[], born := 3 }, { key := .int .i64 5, val := .func (.func 45) #[] #[], born := 4 }] 5) := ⟨_, rfl⟩
  have r5 : (Instr.mapUpdate 46 (.map (some g)) (.int .i64 5) (.func (.func 45) #[] #[])).run Tryd.prog v4 = .ok () v5 := by rw [e5]; exact run_putI v4 46 3 31 g 4 5 (.func (.func 45) #[] #[]) #[{ key := .int .i64 1, val := .func (.func 41) #[] #[], born := 0 }, { key := .int .i64 2, val := .func (.func 42) #[] #[], born := 1 }, { key := .int .i64 3, val := .func (.func 43) #[] #[], born := 2 }, { key := .int .i64 4, val := .func (.func 44) #[] #[], born := 3 }] Tryd.underlying46 Tryd.underlying3 G4 rfl
  have B5 : Below w.heap.size w v5 := by rw [e5]; exact mput_below B4 (by rw [hg]; exact Nat.le_refl _)
  have G5 : v5.heap[g]? = some (.map #[{ key := .int .i64 1, val := .func (.func 41) #[] #[], born := 0 }, { key := .int .i64 2, val := .func (.func 42) #[] #[], born := 1 }, { key := .int .i64 3, val := .func (.func 43) #[] #[], born := 2 }, { key := .int .i64 4, val := .func (.func 44) #[] #[], born := 3 }, { key := .int .i64 5, val := .func (.func 45) #[] #[], born := 4 }] 5) := by rw [e5]; exact mput_at Z4
  have Z5 : g < v5.heap.size := by rw [e5, mput_size]; exact Z4
  clear e5 B4 G4 Z4
  obtain ⟨v6, e6⟩ : ∃ v, v = mput v5 g (.map #[{ key := .int .i64 1, val := .func (.func 41) #[] #[], born := 0 }, { key := .int .i64 2, val := .func (.func 42) #[] #[], born := 1 }, { key := .int .i64 3, val := .func (.func 43) #[] #[], born := 2 }, { key := .int .i64 4, val := .func (.func 44) #[] #[], born := 3 }, { key := .int .i64 5, val := .func (.func 45) #[] #[], born := 4 }, { key := .int .i64 6, val := .func (.func 46) #[] #[], born := 5 }] 6) := ⟨_, rfl⟩
  have r6 : (Instr.mapUpdate 46 (.map (some g)) (.int .i64 6) (.func (.func 46) #[] #[])).run Tryd.prog v5 = .ok () v6 := by rw [e6]; exact run_putI v5 46 3 31 g 5 6 (.func (.func 46) #[] #[]) #[{ key := .int .i64 1, val := .func (.func 41) #[] #[], born := 0 }, { key := .int .i64 2, val := .func (.func 42) #[] #[], born := 1 }, { key := .int .i64 3, val := .func (.func 43) #[] #[], born := 2 }, { key := .int .i64 4, val := .func (.func 44) #[] #[], born := 3 }, { key := .int .i64 5, val := .func (.func 45) #[] #[], born := 4 }] Tryd.underlying46 Tryd.underlying3 G5 rfl
  have B6 : Below w.heap.size w v6 := by rw [e6]; exact mput_below B5 (by rw [hg]; exact Nat.le_refl _)
  have G6 : v6.heap[g]? = some (.map #[{ key := .int .i64 1, val := .func (.func 41) #[] #[], born := 0 }, { key := .int .i64 2, val := .func (.func 42) #[] #[], born := 1 }, { key := .int .i64 3, val := .func (.func 43) #[] #[], born := 2 }, { key := .int .i64 4, val := .func (.func 44) #[] #[], born := 3 }, { key := .int .i64 5, val := .func (.func 45) #[] #[], born := 4 }, { key := .int .i64 6, val := .func (.func 46) #[] #[], born := 5 }] 6) := by rw [e6]; exact mput_at Z5
  have Z6 : g < v6.heap.size := by rw [e6, mput_size]; exact Z5
  clear e6 B5 G5 Z5
  obtain ⟨v7, e7⟩ : ∃ v, v = mput v6 g (.map #[{ key := .int .i64 1, val := .func (.func 41) #[] #[], born := 0 }, { key := .int .i64 2, val := .func (.func 42) #[] #[], born := 1 }, { key := .int .i64 3, val := .func (.func 43) #[] #[], born := 2 }, { key := .int .i64 4, val := .func (.func 44) #[] #[], born := 3 }, { key := .int .i64 5, val := .func (.func 45) #[] #[], born := 4 }, { key := .int .i64 6, val := .func (.func 46) #[] #[], born := 5 }, { key := .int .i64 7, val := .func (.func 47) #[] #[], born := 6 }] 7) := ⟨_, rfl⟩
  have r7 : (Instr.mapUpdate 46 (.map (some g)) (.int .i64 7) (.func (.func 47) #[] #[])).run Tryd.prog v6 = .ok () v7 := by rw [e7]; exact run_putI v6 46 3 31 g 6 7 (.func (.func 47) #[] #[]) #[{ key := .int .i64 1, val := .func (.func 41) #[] #[], born := 0 }, { key := .int .i64 2, val := .func (.func 42) #[] #[], born := 1 }, { key := .int .i64 3, val := .func (.func 43) #[] #[], born := 2 }, { key := .int .i64 4, val := .func (.func 44) #[] #[], born := 3 }, { key := .int .i64 5, val := .func (.func 45) #[] #[], born := 4 }, { key := .int .i64 6, val := .func (.func 46) #[] #[], born := 5 }] Tryd.underlying46 Tryd.underlying3 G6 rfl
  have B7 : Below w.heap.size w v7 := by rw [e7]; exact mput_below B6 (by rw [hg]; exact Nat.le_refl _)
  have G7 : v7.heap[g]? = some (.map #[{ key := .int .i64 1, val := .func (.func 41) #[] #[], born := 0 }, { key := .int .i64 2, val := .func (.func 42) #[] #[], born := 1 }, { key := .int .i64 3, val := .func (.func 43) #[] #[], born := 2 }, { key := .int .i64 4, val := .func (.func 44) #[] #[], born := 3 }, { key := .int .i64 5, val := .func (.func 45) #[] #[], born := 4 }, { key := .int .i64 6, val := .func (.func 46) #[] #[], born := 5 }, { key := .int .i64 7, val := .func (.func 47) #[] #[], born := 6 }] 7) := by rw [e7]; exact mput_at Z6
  have Z7 : g < v7.heap.size := by rw [e7, mput_size]; exact Z6
  clear e7 B6 G6 Z6
  obtain ⟨v8, e8⟩ : ∃ v, v = mput v7 g (.map #[{ key := .int .i64 1, val := .func (.func 41) #[] #[], born := 0 }, { key := .int .i64 2, val := .func (.func 42) #[] #[], born := 1 }, { key := .int .i64 3, val := .func (.func 43) #[] #[], born := 2 }, { key := .int .i64 4, val := .func (.func 44) #[] #[], born := 3 }, { key := .int .i64 5, val := .func (.func 45) #[] #[], born := 4 }, { key := .int .i64 6, val := .func (.func 46) #[] #[], born := 5 }, { key := .int .i64 7, val := .func (.func 47) #[] #[], born := 6 }, { key := .int .i64 8, val := .func (.func 48) #[] #[], born := 7 }] 8) := ⟨_, rfl⟩
  have r8 : (Instr.mapUpdate 46 (.map (some g)) (.int .i64 8) (.func (.func 48) #[] #[])).run Tryd.prog v7 = .ok () v8 := by rw [e8]; exact run_putI v7 46 3 31 g 7 8 (.func (.func 48) #[] #[]) #[{ key := .int .i64 1, val := .func (.func 41) #[] #[], born := 0 }, { key := .int .i64 2, val := .func (.func 42) #[] #[], born := 1 }, { key := .int .i64 3, val := .func (.func 43) #[] #[], born := 2 }, { key := .int .i64 4, val := .func (.func 44) #[] #[], born := 3 }, { key := .int .i64 5, val := .func (.func 45) #[] #[], born := 4 }, { key := .int .i64 6, val := .func (.func 46) #[] #[], born := 5 }, { key := .int .i64 7, val := .func (.func 47) #[] #[], born := 6 }] Tryd.underlying46 Tryd.underlying3 G7 rfl
  have B8 : Below w.heap.size w v8 := by rw [e8]; exact mput_below B7 (by rw [hg]; exact Nat.le_refl _)
  have G8 : v8.heap[g]? = some (.map #[{ key := .int .i64 1, val := .func (.func 41) #[] #[], born := 0 }, { key := .int .i64 2, val := .func (.func 42) #[] #[], born := 1 }, { key := .int .i64 3, val := .func (.func 43) #[] #[], born := 2 }, { key := .int .i64 4, val := .func (.func 44) #[] #[], born := 3 }, { key := .int .i64 5, val := .func (.func 45) #[] #[], born := 4 }, { key := .int .i64 6, val := .func (.func 46) #[] #[], born := 5 }, { key := .int .i64 7, val := .func (.func 47) #[] #[], born := 6 }, { key := .int .i64 8, val := .func (.func 48) #[] #[], born := 7 }] 8) := by rw [e8]; exact mput_at Z7
  have Z8 : g < v8.heap.size := by rw [e8, mput_size]; exact Z7
  clear e8 B7 G7 Z7
  have HB := hide B8
  have HG := hide G8
  have HLE : Hid (w.heap.size ≤ g) := by show _ ≤ _; omega
  clear B8 G8 Z8
  have hmm2 : (Instr.makeMap 46 none).run Tryd.prog w = .ok (.map (some g)) v0 := by rw [e0, hg]; exact hmm _ _
  clear hmm e0 hg
  go_enter Tryd.func21, Tryd.ntmps21
  go_wp2_with fail
  go_ret
  exact ⟨g, rfl, unhide HG, unhide HLE, unhide HB⟩
theorem below_undrewX {w w' : World} (h : Below w.drew.heap.size w.drew w') : Below w.heap.size w w' := ⟨h.os, h.tape, h.output, h.size, h.block⟩
set_option maxHeartbeats 1000000 in
set_option maxRecDepth 100000 in
theorem icmd_isWindow (cl sq p n ep : Int) (r : Bool) (nm dt : ByteArray) (HNM : Hid (nm.size ≤ 1048576)) (HDT : Hid (dt.size ≤ 1048576)) (R : Bool) (HR : Hid (R = (inB cl 0 200 && (inB sq 1 60000 && isWindowB p n ep r nm dt)))) (w : World) : Calls Tryd.prog 9 #[.agg #[.int .i64 1, .int .i64 cl, .int .i64 sq, .int .i64 p, .int .i64 n, .int .i64 ep, .bool r, .string nm, .string dt]] w fun e w' => e = .returned (.bool R) ∧ Below w.heap.size w w' := by
  have HB := hide (Go.Joins.below_alloc1 w (.cells #[.int .i64 1, .int .i64 cl, .int .i64 sq, .int .i64 p, .int .i64 n, .int .i64 ep, .bool r, .string nm, .string dt] 24))
  have BX := hide (BF.new w #[.int .i64 1, .int .i64 cl, .int .i64 sq, .int .i64 p, .int .i64 n, .int .i64 ep, .bool r, .string nm, .string dt] 24)
  obtain ⟨U, hU⟩ : ∃ U, U = inB cl 0 200 := ⟨_, rfl⟩
  obtain ⟨V, hV⟩ : ∃ V, V = inB sq 1 60000 := ⟨_, rfl⟩
  obtain ⟨X, hX⟩ : ∃ X, X = isWindowB p n ep r nm dt := ⟨_, rfl⟩
  have hR := unhide HR
  rw [← hU, ← hV, ← hX] at hR
  have HRR := hide hR
  have HU := hide hU
  have HV := hide hV
  have HX := hide hX
  clear HR hR hU hV hX
  have c0 := (unhide BX).S
  go_enter Tryd.func9, Tryd.ntmps9
  go_wp2_with fail
  generalize hw0 : w.alloc (.cells #[.int .i64 1, .int .i64 cl, .int .i64 sq, .int .i64 p, .int .i64 n, .int .i64 ep, .bool r, .string nm, .string dt] 24) = w0 at c0 BX HB ⊢
  refine wp_region_held_drew (S := fun w' => ∀ o, w'.cell? ⟨w.heap.size, o, none⟩ = (#[.int .i64 1, .int .i64 cl, .int .i64 sq, .int .i64 p, .int .i64 n, .int .i64 ep, .bool r, .string nm, .string dt] : Array Value)[o]?) (by kernel_rfl) c0 (fun hHeld => ?_)
  refine wpAnyH_take (i := 1) (oi := { dst := some 7, op := .fieldAddr 24 (.tmp 1) 0, type := 0, pos := "l06_mux.go:184", after := #[], guard := none }) (v := ?_) rfl (by kernel_rfl) (by kernel_rfl) (by kernel_rfl) (fun _ _ _ h => h) (Or.inl ⟨by rfl, ?_⟩) (by assumption) ?_
  rotate_left 1
  · (intro w' hSw; (try dsimp only at hSw); go_simp; try with_reducible rfl)
  try simp only [Act.put, List.setIfInBounds_toArray, List.set_cons_zero, List.set_cons_succ]
  refine wpAnyH_take (i := 2) (oi := { dst := some 8, op := .load 3 (.tmp 7), type := 3, pos := "l06_mux.go:184", after := #[{ on := 1, ground := .data }], guard := none }) (v := ?_) rfl (by kernel_rfl) (by kernel_rfl) (by kernel_rfl) (fun _ _ _ h => h) (Or.inl ⟨by rfl, ?_⟩) (by assumption) ?_
  rotate_left 1
  · (intro w' hSw; (try dsimp only at hSw); go_simp; try with_reducible rfl)
  try simp only [Act.put, List.setIfInBounds_toArray, List.set_cons_zero, List.set_cons_succ]
  refine wpAnyH_ready (rs := [0]) (by kernel_rfl) (by simp) ?_
  refine AllReadyH.cons (o := { dst := some 6, op := .call { callee := .value (.func 21), args := #[], argTypes := #[] }, type := 46, pos := "l06_mux.go:184", after := #[], guard := none }) rfl (fun K hK => ?_) AllReadyH.nil
  go_simp
  refine (irules _).mono ?_
  rintro e w1 ⟨g, rfl, hg1, hge1, hb1⟩
  have BX1 := hide ((unhide BX).drew.below hb1)
  have HB1 := hide ((unhide HB).trans ((below_undrew hb1).mono (unhide HB).size))
  have c1 := (unhide BX1).S
  have hlk := run_hasI w1 46 3 31 g 8 1 (.func (.func 41) #[] #[]) 0 ruleE Tryd.underlying46 Tryd.underlying3 hg1 rfl
  clear hb1 hg1
  go_wp2_with fail
  refine hK.out _ _ ?_ (fun hHeld0 => ?_)
  · exact c1
  clear hK K
  try simp only [Act.put, List.setIfInBounds_toArray, List.set_cons_zero, List.set_cons_succ]
  refine wpAnyH_ready (rs := [3]) (by kernel_rfl) (by simp) ?_
  refine AllReadyH.cons (o := { dst := some 9, op := .lookup 46 (.tmp 6) (.tmp 8) true, type := 45, pos := "l06_mux.go:184", after := #[{ on := 0, ground := .data }, { on := 2, ground := .data }], guard := none }) rfl (fun K hK => ?_) AllReadyH.nil
  go_simp
  refine hK.out _ _ ?_ (fun hHeld3 => ?_)
  · exact c1
  clear hK K
  try simp only [Act.put, List.setIfInBounds_toArray, List.set_cons_zero, List.set_cons_succ]
  refine wpAnyH_take (i := 4) (oi := { dst := some 5, op := .move (.tmp 9), type := 45, pos := "l06_mux.go:184", after := #[{ on := 3, ground := .data }], guard := none }) (v := ?_) rfl (by kernel_rfl) (by kernel_rfl) (by kernel_rfl) (fun _ _ _ h => h) (Or.inl ⟨by rfl, ?_⟩) (by assumption) ?_
  rotate_left 1
  · (intro w' hSw; (try dsimp only at hSw); go_simp; try with_reducible rfl)
  try simp only [Act.put, List.setIfInBounds_toArray, List.set_cons_zero, List.set_cons_succ]
  refine wpAnyH_take (i := 5) (oi := { dst := some 10, op := .extract (.tmp 5) 0, type := 31, pos := "l06_mux.go:184", after := #[{ on := 4, ground := .data }], guard := none }) (v := ?_) rfl (by kernel_rfl) (by kernel_rfl) (by kernel_rfl) (fun _ _ _ h => h) (Or.inl ⟨by rfl, ?_⟩) (by assumption) ?_
  rotate_left 1
  · (intro w' hSw; (try dsimp only at hSw); go_simp; try with_reducible rfl)
  try simp only [Act.put, List.setIfInBounds_toArray, List.set_cons_zero, List.set_cons_succ]
  refine wpAnyH_take (i := 6) (oi := { dst := some 11, op := .extract (.tmp 5) 1, type := 4, pos := "l06_mux.go:184", after := #[{ on := 4, ground := .data }, { on := 7, ground := .gcOnly Go.Departure.lateStores }], guard := none }) (v := ?_) rfl (by kernel_rfl) (by kernel_rfl) (by kernel_rfl) (fun _ _ _ h => h) (Or.inl ⟨by rfl, ?_⟩) (by assumption) ?_
  rotate_left 1
  · (intro w' hSw; (try dsimp only at hSw); go_simp; try with_reducible rfl)
  try simp only [Act.put, List.setIfInBounds_toArray, List.set_cons_zero, List.set_cons_succ]
  refine wpAnyH_take (i := 7) (oi := { dst := some 3, op := .assign (.tmp 10), type := 31, pos := "l06_mux.go:184", after := #[{ on := 5, ground := .data }, { on := 0, ground := .chain }, { on := 0, ground := .phase }, { on := 1, ground := .phase }, { on := 2, ground := .phase }, { on := 3, ground := .phase }, { on := 4, ground := .phase }, { on := 5, ground := .phase }, { on := 6, ground := .textOnly Go.Departure.lateStores }], guard := none }) (v := ?_) rfl (by kernel_rfl) (by kernel_rfl) (by kernel_rfl) (fun _ _ _ h => h) (Or.inl ⟨by rfl, ?_⟩) (by assumption) ?_
  rotate_left 1
  · (intro w' hSw; (try dsimp only at hSw); go_simp; try with_reducible rfl)
  try simp only [Act.put, List.setIfInBounds_toArray, List.set_cons_zero, List.set_cons_succ]
  refine wpAnyH_take (i := 8) (oi := { dst := some 4, op := .assign (.tmp 11), type := 4, pos := "l06_mux.go:184", after := #[{ on := 6, ground := .data }, { on := 7, ground := .chain }, { on := 0, ground := .phase }, { on := 1, ground := .phase }, { on := 2, ground := .phase }, { on := 3, ground := .phase }, { on := 4, ground := .phase }, { on := 5, ground := .phase }, { on := 6, ground := .phase }, { on := 7, ground := .phase }], guard := none }) (v := ?_) rfl (by kernel_rfl) (by kernel_rfl) (by kernel_rfl) (fun _ _ _ h => h) (Or.inl ⟨by rfl, ?_⟩) (by assumption) ?_
  rotate_left 1
  · (intro w' hSw; (try dsimp only at hSw); go_simp; try with_reducible rfl)
  try simp only [Act.put, List.setIfInBounds_toArray, List.set_cons_zero, List.set_cons_succ]
  refine wpAnyH_done (by kernel_rfl) ?_ _
  cases U
  · go_wp2_with (first | (go_at_call 22; refine (icl cl _ HU _).mono ?_; rintro e w2 ⟨rfl, rfl⟩) | (go_at_call 23; refine (isq sq _ HV _).mono ?_; rintro e w2 ⟨rfl, rfl⟩))
    go_ret
    exact ⟨ret_bool (by rw [unhide HRR]; rfl), unhide HB1⟩
  cases V
  · go_wp2_with (first | (go_at_call 22; refine (icl cl _ HU _).mono ?_; rintro e w2 ⟨rfl, rfl⟩) | (go_at_call 23; refine (isq sq _ HV _).mono ?_; rintro e w2 ⟨rfl, rfl⟩))
    go_ret
    exact ⟨ret_bool (by rw [unhide HRR]; rfl), unhide HB1⟩
  have hR : R = X := unhide HRR
  subst hR
  clear HRR
  go_wp2_with (first | (go_at_call 22; refine (icl cl _ HU _).mono ?_; rintro e w2 ⟨rfl, rfl⟩) | (go_at_call 23; refine (isq sq _ HV _).mono ?_; rintro e w2 ⟨rfl, rfl⟩))
  refine (iisWindow 1 cl sq p n ep r nm dt HNM HDT R HX _).mono ?_
  rintro e w3 ⟨rfl, hb3⟩
  have HB3 := hide ((unhide HB1).trans (hb3.mono (unhide HB1).size))
  clear hb3
  go_wp2_with fail
  go_ret
  exact ⟨rfl, unhide HB3⟩
set_option maxHeartbeats 1000000 in
set_option maxRecDepth 100000 in
theorem icmd_isSplit (cl sq p n ep : Int) (r : Bool) (nm dt : ByteArray) (HNM : Hid (nm.size ≤ 1048576)) (HDT : Hid (dt.size ≤ 1048576)) (R : Bool) (HR : Hid (R = (inB cl 0 200 && (inB sq 1 60000 && isSplitB p n ep r nm dt)))) (w : World) : Calls Tryd.prog 9 #[.agg #[.int .i64 2, .int .i64 cl, .int .i64 sq, .int .i64 p, .int .i64 n, .int .i64 ep, .bool r, .string nm, .string dt]] w fun e w' => e = .returned (.bool R) ∧ Below w.heap.size w w' := by
  have HB := hide (Go.Joins.below_alloc1 w (.cells #[.int .i64 2, .int .i64 cl, .int .i64 sq, .int .i64 p, .int .i64 n, .int .i64 ep, .bool r, .string nm, .string dt] 24))
  have BX := hide (BF.new w #[.int .i64 2, .int .i64 cl, .int .i64 sq, .int .i64 p, .int .i64 n, .int .i64 ep, .bool r, .string nm, .string dt] 24)
  obtain ⟨U, hU⟩ : ∃ U, U = inB cl 0 200 := ⟨_, rfl⟩
  obtain ⟨V, hV⟩ : ∃ V, V = inB sq 1 60000 := ⟨_, rfl⟩
  obtain ⟨X, hX⟩ : ∃ X, X = isSplitB p n ep r nm dt := ⟨_, rfl⟩
  have hR := unhide HR
  rw [← hU, ← hV, ← hX] at hR
  have HRR := hide hR
  have HU := hide hU
  have HV := hide hV
  have HX := hide hX
  clear HR hR hU hV hX
  have c0 := (unhide BX).S
  go_enter Tryd.func9, Tryd.ntmps9
  go_wp2_with fail
  generalize hw0 : w.alloc (.cells #[.int .i64 2, .int .i64 cl, .int .i64 sq, .int .i64 p, .int .i64 n, .int .i64 ep, .bool r, .string nm, .string dt] 24) = w0 at c0 BX HB ⊢
  refine wp_region_held_drew (S := fun w' => ∀ o, w'.cell? ⟨w.heap.size, o, none⟩ = (#[.int .i64 2, .int .i64 cl, .int .i64 sq, .int .i64 p, .int .i64 n, .int .i64 ep, .bool r, .string nm, .string dt] : Array Value)[o]?) (by kernel_rfl) c0 (fun hHeld => ?_)
  refine wpAnyH_take (i := 1) (oi := { dst := some 7, op := .fieldAddr 24 (.tmp 1) 0, type := 0, pos := "l06_mux.go:184", after := #[], guard := none }) (v := ?_) rfl (by kernel_rfl) (by kernel_rfl) (by kernel_rfl) (fun _ _ _ h => h) (Or.inl ⟨by rfl, ?_⟩) (by assumption) ?_
  rotate_left 1
  · (intro w' hSw; (try dsimp only at hSw); go_simp; try with_reducible rfl)
  try simp only [Act.put, List.setIfInBounds_toArray, List.set_cons_zero, List.set_cons_succ]
  refine wpAnyH_take (i := 2) (oi := { dst := some 8, op := .load 3 (.tmp 7), type := 3, pos := "l06_mux.go:184", after := #[{ on := 1, ground := .data }], guard := none }) (v := ?_) rfl (by kernel_rfl) (by kernel_rfl) (by kernel_rfl) (fun _ _ _ h => h) (Or.inl ⟨by rfl, ?_⟩) (by assumption) ?_
  rotate_left 1
  · (intro w' hSw; (try dsimp only at hSw); go_simp; try with_reducible rfl)
  try simp only [Act.put, List.setIfInBounds_toArray, List.set_cons_zero, List.set_cons_succ]
  refine wpAnyH_ready (rs := [0]) (by kernel_rfl) (by simp) ?_
  refine AllReadyH.cons (o := { dst := some 6, op := .call { callee := .value (.func 21), args := #[], argTypes := #[] }, type := 46, pos := "l06_mux.go:184", after := #[], guard := none }) rfl (fun K hK => ?_) AllReadyH.nil
  go_simp
  refine (irules _).mono ?_
  rintro e w1 ⟨g, rfl, hg1, hge1, hb1⟩
  have BX1 := hide ((unhide BX).drew.below hb1)
  have HB1 := hide ((unhide HB).trans ((below_undrew hb1).mono (unhide HB).size))
  have c1 := (unhide BX1).S
  have hlk := run_hasI w1 46 3 31 g 8 2 (.func (.func 42) #[] #[]) 1 ruleE Tryd.underlying46 Tryd.underlying3 hg1 rfl
  clear hb1 hg1
  go_wp2_with fail
  refine hK.out _ _ ?_ (fun hHeld0 => ?_)
  · exact c1
  clear hK K
  try simp only [Act.put, List.setIfInBounds_toArray, List.set_cons_zero, List.set_cons_succ]
  refine wpAnyH_ready (rs := [3]) (by kernel_rfl) (by simp) ?_
  refine AllReadyH.cons (o := { dst := some 9, op := .lookup 46 (.tmp 6) (.tmp 8) true, type := 45, pos := "l06_mux.go:184", after := #[{ on := 0, ground := .data }, { on := 2, ground := .data }], guard := none }) rfl (fun K hK => ?_) AllReadyH.nil
  go_simp
  refine hK.out _ _ ?_ (fun hHeld3 => ?_)
  · exact c1
  clear hK K
  try simp only [Act.put, List.setIfInBounds_toArray, List.set_cons_zero, List.set_cons_succ]
  refine wpAnyH_take (i := 4) (oi := { dst := some 5, op := .move (.tmp 9), type := 45, pos := "l06_mux.go:184", after := #[{ on := 3, ground := .data }], guard := none }) (v := ?_) rfl (by kernel_rfl) (by kernel_rfl) (by kernel_rfl) (fun _ _ _ h => h) (Or.inl ⟨by rfl, ?_⟩) (by assumption) ?_
  rotate_left 1
  · (intro w' hSw; (try dsimp only at hSw); go_simp; try with_reducible rfl)
  try simp only [Act.put, List.setIfInBounds_toArray, List.set_cons_zero, List.set_cons_succ]
  refine wpAnyH_take (i := 5) (oi := { dst := some 10, op := .extract (.tmp 5) 0, type := 31, pos := "l06_mux.go:184", after := #[{ on := 4, ground := .data }], guard := none }) (v := ?_) rfl (by kernel_rfl) (by kernel_rfl) (by kernel_rfl) (fun _ _ _ h => h) (Or.inl ⟨by rfl, ?_⟩) (by assumption) ?_
  rotate_left 1
  · (intro w' hSw; (try dsimp only at hSw); go_simp; try with_reducible rfl)
  try simp only [Act.put, List.setIfInBounds_toArray, List.set_cons_zero, List.set_cons_succ]
  refine wpAnyH_take (i := 6) (oi := { dst := some 11, op := .extract (.tmp 5) 1, type := 4, pos := "l06_mux.go:184", after := #[{ on := 4, ground := .data }, { on := 7, ground := .gcOnly Go.Departure.lateStores }], guard := none }) (v := ?_) rfl (by kernel_rfl) (by kernel_rfl) (by kernel_rfl) (fun _ _ _ h => h) (Or.inl ⟨by rfl, ?_⟩) (by assumption) ?_
  rotate_left 1
  · (intro w' hSw; (try dsimp only at hSw); go_simp; try with_reducible rfl)
  try simp only [Act.put, List.setIfInBounds_toArray, List.set_cons_zero, List.set_cons_succ]
  refine wpAnyH_take (i := 7) (oi := { dst := some 3, op := .assign (.tmp 10), type := 31, pos := "l06_mux.go:184", after := #[{ on := 5, ground := .data }, { on := 0, ground := .chain }, { on := 0, ground := .phase }, { on := 1, ground := .phase }, { on := 2, ground := .phase }, { on := 3, ground := .phase }, { on := 4, ground := .phase }, { on := 5, ground := .phase }, { on := 6, ground := .textOnly Go.Departure.lateStores }], guard := none }) (v := ?_) rfl (by kernel_rfl) (by kernel_rfl) (by kernel_rfl) (fun _ _ _ h => h) (Or.inl ⟨by rfl, ?_⟩) (by assumption) ?_
  rotate_left 1
  · (intro w' hSw; (try dsimp only at hSw); go_simp; try with_reducible rfl)
  try simp only [Act.put, List.setIfInBounds_toArray, List.set_cons_zero, List.set_cons_succ]
  refine wpAnyH_take (i := 8) (oi := { dst := some 4, op := .assign (.tmp 11), type := 4, pos := "l06_mux.go:184", after := #[{ on := 6, ground := .data }, { on := 7, ground := .chain }, { on := 0, ground := .phase }, { on := 1, ground := .phase }, { on := 2, ground := .phase }, { on := 3, ground := .phase }, { on := 4, ground := .phase }, { on := 5, ground := .phase }, { on := 6, ground := .phase }, { on := 7, ground := .phase }], guard := none }) (v := ?_) rfl (by kernel_rfl) (by kernel_rfl) (by kernel_rfl) (fun _ _ _ h => h) (Or.inl ⟨by rfl, ?_⟩) (by assumption) ?_
  rotate_left 1
  · (intro w' hSw; (try dsimp only at hSw); go_simp; try with_reducible rfl)
  try simp only [Act.put, List.setIfInBounds_toArray, List.set_cons_zero, List.set_cons_succ]
  refine wpAnyH_done (by kernel_rfl) ?_ _
  cases U
  · go_wp2_with (first | (go_at_call 22; refine (icl cl _ HU _).mono ?_; rintro e w2 ⟨rfl, rfl⟩) | (go_at_call 23; refine (isq sq _ HV _).mono ?_; rintro e w2 ⟨rfl, rfl⟩))
    go_ret
    exact ⟨ret_bool (by rw [unhide HRR]; rfl), unhide HB1⟩
  cases V
  · go_wp2_with (first | (go_at_call 22; refine (icl cl _ HU _).mono ?_; rintro e w2 ⟨rfl, rfl⟩) | (go_at_call 23; refine (isq sq _ HV _).mono ?_; rintro e w2 ⟨rfl, rfl⟩))
    go_ret
    exact ⟨ret_bool (by rw [unhide HRR]; rfl), unhide HB1⟩
  have hR : R = X := unhide HRR
  subst hR
  clear HRR
  go_wp2_with (first | (go_at_call 22; refine (icl cl _ HU _).mono ?_; rintro e w2 ⟨rfl, rfl⟩) | (go_at_call 23; refine (isq sq _ HV _).mono ?_; rintro e w2 ⟨rfl, rfl⟩))
  refine (iisSplit 2 cl sq p n ep r nm dt HNM HDT R HX _).mono ?_
  rintro e w3 ⟨rfl, hb3⟩
  have HB3 := hide ((unhide HB1).trans (hb3.mono (unhide HB1).size))
  clear hb3
  go_wp2_with fail
  go_ret
  exact ⟨rfl, unhide HB3⟩
set_option maxHeartbeats 1000000 in
set_option maxRecDepth 100000 in
theorem icmd_isKill (cl sq p n ep : Int) (r : Bool) (nm dt : ByteArray) (HNM : Hid (nm.size ≤ 1048576)) (HDT : Hid (dt.size ≤ 1048576)) (R : Bool) (HR : Hid (R = (inB cl 0 200 && (inB sq 1 60000 && isKillB p n ep r nm dt)))) (w : World) : Calls Tryd.prog 9 #[.agg #[.int .i64 3, .int .i64 cl, .int .i64 sq, .int .i64 p, .int .i64 n, .int .i64 ep, .bool r, .string nm, .string dt]] w fun e w' => e = .returned (.bool R) ∧ Below w.heap.size w w' := by
  have HB := hide (Go.Joins.below_alloc1 w (.cells #[.int .i64 3, .int .i64 cl, .int .i64 sq, .int .i64 p, .int .i64 n, .int .i64 ep, .bool r, .string nm, .string dt] 24))
  have BX := hide (BF.new w #[.int .i64 3, .int .i64 cl, .int .i64 sq, .int .i64 p, .int .i64 n, .int .i64 ep, .bool r, .string nm, .string dt] 24)
  obtain ⟨U, hU⟩ : ∃ U, U = inB cl 0 200 := ⟨_, rfl⟩
  obtain ⟨V, hV⟩ : ∃ V, V = inB sq 1 60000 := ⟨_, rfl⟩
  obtain ⟨X, hX⟩ : ∃ X, X = isKillB p n ep r nm dt := ⟨_, rfl⟩
  have hR := unhide HR
  rw [← hU, ← hV, ← hX] at hR
  have HRR := hide hR
  have HU := hide hU
  have HV := hide hV
  have HX := hide hX
  clear HR hR hU hV hX
  have c0 := (unhide BX).S
  go_enter Tryd.func9, Tryd.ntmps9
  go_wp2_with fail
  generalize hw0 : w.alloc (.cells #[.int .i64 3, .int .i64 cl, .int .i64 sq, .int .i64 p, .int .i64 n, .int .i64 ep, .bool r, .string nm, .string dt] 24) = w0 at c0 BX HB ⊢
  refine wp_region_held_drew (S := fun w' => ∀ o, w'.cell? ⟨w.heap.size, o, none⟩ = (#[.int .i64 3, .int .i64 cl, .int .i64 sq, .int .i64 p, .int .i64 n, .int .i64 ep, .bool r, .string nm, .string dt] : Array Value)[o]?) (by kernel_rfl) c0 (fun hHeld => ?_)
  refine wpAnyH_take (i := 1) (oi := { dst := some 7, op := .fieldAddr 24 (.tmp 1) 0, type := 0, pos := "l06_mux.go:184", after := #[], guard := none }) (v := ?_) rfl (by kernel_rfl) (by kernel_rfl) (by kernel_rfl) (fun _ _ _ h => h) (Or.inl ⟨by rfl, ?_⟩) (by assumption) ?_
  rotate_left 1
  · (intro w' hSw; (try dsimp only at hSw); go_simp; try with_reducible rfl)
  try simp only [Act.put, List.setIfInBounds_toArray, List.set_cons_zero, List.set_cons_succ]
  refine wpAnyH_take (i := 2) (oi := { dst := some 8, op := .load 3 (.tmp 7), type := 3, pos := "l06_mux.go:184", after := #[{ on := 1, ground := .data }], guard := none }) (v := ?_) rfl (by kernel_rfl) (by kernel_rfl) (by kernel_rfl) (fun _ _ _ h => h) (Or.inl ⟨by rfl, ?_⟩) (by assumption) ?_
  rotate_left 1
  · (intro w' hSw; (try dsimp only at hSw); go_simp; try with_reducible rfl)
  try simp only [Act.put, List.setIfInBounds_toArray, List.set_cons_zero, List.set_cons_succ]
  refine wpAnyH_ready (rs := [0]) (by kernel_rfl) (by simp) ?_
  refine AllReadyH.cons (o := { dst := some 6, op := .call { callee := .value (.func 21), args := #[], argTypes := #[] }, type := 46, pos := "l06_mux.go:184", after := #[], guard := none }) rfl (fun K hK => ?_) AllReadyH.nil
  go_simp
  refine (irules _).mono ?_
  rintro e w1 ⟨g, rfl, hg1, hge1, hb1⟩
  have BX1 := hide ((unhide BX).drew.below hb1)
  have HB1 := hide ((unhide HB).trans ((below_undrew hb1).mono (unhide HB).size))
  have c1 := (unhide BX1).S
  have hlk := run_hasI w1 46 3 31 g 8 3 (.func (.func 43) #[] #[]) 2 ruleE Tryd.underlying46 Tryd.underlying3 hg1 rfl
  clear hb1 hg1
  go_wp2_with fail
  refine hK.out _ _ ?_ (fun hHeld0 => ?_)
  · exact c1
  clear hK K
  try simp only [Act.put, List.setIfInBounds_toArray, List.set_cons_zero, List.set_cons_succ]
  refine wpAnyH_ready (rs := [3]) (by kernel_rfl) (by simp) ?_
  refine AllReadyH.cons (o := { dst := some 9, op := .lookup 46 (.tmp 6) (.tmp 8) true, type := 45, pos := "l06_mux.go:184", after := #[{ on := 0, ground := .data }, { on := 2, ground := .data }], guard := none }) rfl (fun K hK => ?_) AllReadyH.nil
  go_simp
  refine hK.out _ _ ?_ (fun hHeld3 => ?_)
  · exact c1
  clear hK K
  try simp only [Act.put, List.setIfInBounds_toArray, List.set_cons_zero, List.set_cons_succ]
  refine wpAnyH_take (i := 4) (oi := { dst := some 5, op := .move (.tmp 9), type := 45, pos := "l06_mux.go:184", after := #[{ on := 3, ground := .data }], guard := none }) (v := ?_) rfl (by kernel_rfl) (by kernel_rfl) (by kernel_rfl) (fun _ _ _ h => h) (Or.inl ⟨by rfl, ?_⟩) (by assumption) ?_
  rotate_left 1
  · (intro w' hSw; (try dsimp only at hSw); go_simp; try with_reducible rfl)
  try simp only [Act.put, List.setIfInBounds_toArray, List.set_cons_zero, List.set_cons_succ]
  refine wpAnyH_take (i := 5) (oi := { dst := some 10, op := .extract (.tmp 5) 0, type := 31, pos := "l06_mux.go:184", after := #[{ on := 4, ground := .data }], guard := none }) (v := ?_) rfl (by kernel_rfl) (by kernel_rfl) (by kernel_rfl) (fun _ _ _ h => h) (Or.inl ⟨by rfl, ?_⟩) (by assumption) ?_
  rotate_left 1
  · (intro w' hSw; (try dsimp only at hSw); go_simp; try with_reducible rfl)
  try simp only [Act.put, List.setIfInBounds_toArray, List.set_cons_zero, List.set_cons_succ]
  refine wpAnyH_take (i := 6) (oi := { dst := some 11, op := .extract (.tmp 5) 1, type := 4, pos := "l06_mux.go:184", after := #[{ on := 4, ground := .data }, { on := 7, ground := .gcOnly Go.Departure.lateStores }], guard := none }) (v := ?_) rfl (by kernel_rfl) (by kernel_rfl) (by kernel_rfl) (fun _ _ _ h => h) (Or.inl ⟨by rfl, ?_⟩) (by assumption) ?_
  rotate_left 1
  · (intro w' hSw; (try dsimp only at hSw); go_simp; try with_reducible rfl)
  try simp only [Act.put, List.setIfInBounds_toArray, List.set_cons_zero, List.set_cons_succ]
  refine wpAnyH_take (i := 7) (oi := { dst := some 3, op := .assign (.tmp 10), type := 31, pos := "l06_mux.go:184", after := #[{ on := 5, ground := .data }, { on := 0, ground := .chain }, { on := 0, ground := .phase }, { on := 1, ground := .phase }, { on := 2, ground := .phase }, { on := 3, ground := .phase }, { on := 4, ground := .phase }, { on := 5, ground := .phase }, { on := 6, ground := .textOnly Go.Departure.lateStores }], guard := none }) (v := ?_) rfl (by kernel_rfl) (by kernel_rfl) (by kernel_rfl) (fun _ _ _ h => h) (Or.inl ⟨by rfl, ?_⟩) (by assumption) ?_
  rotate_left 1
  · (intro w' hSw; (try dsimp only at hSw); go_simp; try with_reducible rfl)
  try simp only [Act.put, List.setIfInBounds_toArray, List.set_cons_zero, List.set_cons_succ]
  refine wpAnyH_take (i := 8) (oi := { dst := some 4, op := .assign (.tmp 11), type := 4, pos := "l06_mux.go:184", after := #[{ on := 6, ground := .data }, { on := 7, ground := .chain }, { on := 0, ground := .phase }, { on := 1, ground := .phase }, { on := 2, ground := .phase }, { on := 3, ground := .phase }, { on := 4, ground := .phase }, { on := 5, ground := .phase }, { on := 6, ground := .phase }, { on := 7, ground := .phase }], guard := none }) (v := ?_) rfl (by kernel_rfl) (by kernel_rfl) (by kernel_rfl) (fun _ _ _ h => h) (Or.inl ⟨by rfl, ?_⟩) (by assumption) ?_
  rotate_left 1
  · (intro w' hSw; (try dsimp only at hSw); go_simp; try with_reducible rfl)
  try simp only [Act.put, List.setIfInBounds_toArray, List.set_cons_zero, List.set_cons_succ]
  refine wpAnyH_done (by kernel_rfl) ?_ _
  cases U
  · go_wp2_with (first | (go_at_call 22; refine (icl cl _ HU _).mono ?_; rintro e w2 ⟨rfl, rfl⟩) | (go_at_call 23; refine (isq sq _ HV _).mono ?_; rintro e w2 ⟨rfl, rfl⟩))
    go_ret
    exact ⟨ret_bool (by rw [unhide HRR]; rfl), unhide HB1⟩
  cases V
  · go_wp2_with (first | (go_at_call 22; refine (icl cl _ HU _).mono ?_; rintro e w2 ⟨rfl, rfl⟩) | (go_at_call 23; refine (isq sq _ HV _).mono ?_; rintro e w2 ⟨rfl, rfl⟩))
    go_ret
    exact ⟨ret_bool (by rw [unhide HRR]; rfl), unhide HB1⟩
  have hR : R = X := unhide HRR
  subst hR
  clear HRR
  go_wp2_with (first | (go_at_call 22; refine (icl cl _ HU _).mono ?_; rintro e w2 ⟨rfl, rfl⟩) | (go_at_call 23; refine (isq sq _ HV _).mono ?_; rintro e w2 ⟨rfl, rfl⟩))
  refine (iisKill 3 cl sq p n ep r nm dt HNM HDT R HX _).mono ?_
  rintro e w3 ⟨rfl, hb3⟩
  have HB3 := hide ((unhide HB1).trans (hb3.mono (unhide HB1).size))
  clear hb3
  go_wp2_with fail
  go_ret
  exact ⟨rfl, unhide HB3⟩
set_option maxHeartbeats 1000000 in
set_option maxRecDepth 100000 in
theorem icmd_isMove (cl sq p n ep : Int) (r : Bool) (nm dt : ByteArray) (HNM : Hid (nm.size ≤ 1048576)) (HDT : Hid (dt.size ≤ 1048576)) (R : Bool) (HR : Hid (R = (inB cl 0 200 && (inB sq 1 60000 && isMoveB p n ep r nm dt)))) (w : World) : Calls Tryd.prog 9 #[.agg #[.int .i64 4, .int .i64 cl, .int .i64 sq, .int .i64 p, .int .i64 n, .int .i64 ep, .bool r, .string nm, .string dt]] w fun e w' => e = .returned (.bool R) ∧ Below w.heap.size w w' := by
  have HB := hide (Go.Joins.below_alloc1 w (.cells #[.int .i64 4, .int .i64 cl, .int .i64 sq, .int .i64 p, .int .i64 n, .int .i64 ep, .bool r, .string nm, .string dt] 24))
  have BX := hide (BF.new w #[.int .i64 4, .int .i64 cl, .int .i64 sq, .int .i64 p, .int .i64 n, .int .i64 ep, .bool r, .string nm, .string dt] 24)
  obtain ⟨U, hU⟩ : ∃ U, U = inB cl 0 200 := ⟨_, rfl⟩
  obtain ⟨V, hV⟩ : ∃ V, V = inB sq 1 60000 := ⟨_, rfl⟩
  obtain ⟨X, hX⟩ : ∃ X, X = isMoveB p n ep r nm dt := ⟨_, rfl⟩
  have hR := unhide HR
  rw [← hU, ← hV, ← hX] at hR
  have HRR := hide hR
  have HU := hide hU
  have HV := hide hV
  have HX := hide hX
  clear HR hR hU hV hX
  have c0 := (unhide BX).S
  go_enter Tryd.func9, Tryd.ntmps9
  go_wp2_with fail
  generalize hw0 : w.alloc (.cells #[.int .i64 4, .int .i64 cl, .int .i64 sq, .int .i64 p, .int .i64 n, .int .i64 ep, .bool r, .string nm, .string dt] 24) = w0 at c0 BX HB ⊢
  refine wp_region_held_drew (S := fun w' => ∀ o, w'.cell? ⟨w.heap.size, o, none⟩ = (#[.int .i64 4, .int .i64 cl, .int .i64 sq, .int .i64 p, .int .i64 n, .int .i64 ep, .bool r, .string nm, .string dt] : Array Value)[o]?) (by kernel_rfl) c0 (fun hHeld => ?_)
  refine wpAnyH_take (i := 1) (oi := { dst := some 7, op := .fieldAddr 24 (.tmp 1) 0, type := 0, pos := "l06_mux.go:184", after := #[], guard := none }) (v := ?_) rfl (by kernel_rfl) (by kernel_rfl) (by kernel_rfl) (fun _ _ _ h => h) (Or.inl ⟨by rfl, ?_⟩) (by assumption) ?_
  rotate_left 1
  · (intro w' hSw; (try dsimp only at hSw); go_simp; try with_reducible rfl)
  try simp only [Act.put, List.setIfInBounds_toArray, List.set_cons_zero, List.set_cons_succ]
  refine wpAnyH_take (i := 2) (oi := { dst := some 8, op := .load 3 (.tmp 7), type := 3, pos := "l06_mux.go:184", after := #[{ on := 1, ground := .data }], guard := none }) (v := ?_) rfl (by kernel_rfl) (by kernel_rfl) (by kernel_rfl) (fun _ _ _ h => h) (Or.inl ⟨by rfl, ?_⟩) (by assumption) ?_
  rotate_left 1
  · (intro w' hSw; (try dsimp only at hSw); go_simp; try with_reducible rfl)
  try simp only [Act.put, List.setIfInBounds_toArray, List.set_cons_zero, List.set_cons_succ]
  refine wpAnyH_ready (rs := [0]) (by kernel_rfl) (by simp) ?_
  refine AllReadyH.cons (o := { dst := some 6, op := .call { callee := .value (.func 21), args := #[], argTypes := #[] }, type := 46, pos := "l06_mux.go:184", after := #[], guard := none }) rfl (fun K hK => ?_) AllReadyH.nil
  go_simp
  refine (irules _).mono ?_
  rintro e w1 ⟨g, rfl, hg1, hge1, hb1⟩
  have BX1 := hide ((unhide BX).drew.below hb1)
  have HB1 := hide ((unhide HB).trans ((below_undrew hb1).mono (unhide HB).size))
  have c1 := (unhide BX1).S
  have hlk := run_hasI w1 46 3 31 g 8 4 (.func (.func 44) #[] #[]) 3 ruleE Tryd.underlying46 Tryd.underlying3 hg1 rfl
  clear hb1 hg1
  go_wp2_with fail
  refine hK.out _ _ ?_ (fun hHeld0 => ?_)
  · exact c1
  clear hK K
  try simp only [Act.put, List.setIfInBounds_toArray, List.set_cons_zero, List.set_cons_succ]
  refine wpAnyH_ready (rs := [3]) (by kernel_rfl) (by simp) ?_
  refine AllReadyH.cons (o := { dst := some 9, op := .lookup 46 (.tmp 6) (.tmp 8) true, type := 45, pos := "l06_mux.go:184", after := #[{ on := 0, ground := .data }, { on := 2, ground := .data }], guard := none }) rfl (fun K hK => ?_) AllReadyH.nil
  go_simp
  refine hK.out _ _ ?_ (fun hHeld3 => ?_)
  · exact c1
  clear hK K
  try simp only [Act.put, List.setIfInBounds_toArray, List.set_cons_zero, List.set_cons_succ]
  refine wpAnyH_take (i := 4) (oi := { dst := some 5, op := .move (.tmp 9), type := 45, pos := "l06_mux.go:184", after := #[{ on := 3, ground := .data }], guard := none }) (v := ?_) rfl (by kernel_rfl) (by kernel_rfl) (by kernel_rfl) (fun _ _ _ h => h) (Or.inl ⟨by rfl, ?_⟩) (by assumption) ?_
  rotate_left 1
  · (intro w' hSw; (try dsimp only at hSw); go_simp; try with_reducible rfl)
  try simp only [Act.put, List.setIfInBounds_toArray, List.set_cons_zero, List.set_cons_succ]
  refine wpAnyH_take (i := 5) (oi := { dst := some 10, op := .extract (.tmp 5) 0, type := 31, pos := "l06_mux.go:184", after := #[{ on := 4, ground := .data }], guard := none }) (v := ?_) rfl (by kernel_rfl) (by kernel_rfl) (by kernel_rfl) (fun _ _ _ h => h) (Or.inl ⟨by rfl, ?_⟩) (by assumption) ?_
  rotate_left 1
  · (intro w' hSw; (try dsimp only at hSw); go_simp; try with_reducible rfl)
  try simp only [Act.put, List.setIfInBounds_toArray, List.set_cons_zero, List.set_cons_succ]
  refine wpAnyH_take (i := 6) (oi := { dst := some 11, op := .extract (.tmp 5) 1, type := 4, pos := "l06_mux.go:184", after := #[{ on := 4, ground := .data }, { on := 7, ground := .gcOnly Go.Departure.lateStores }], guard := none }) (v := ?_) rfl (by kernel_rfl) (by kernel_rfl) (by kernel_rfl) (fun _ _ _ h => h) (Or.inl ⟨by rfl, ?_⟩) (by assumption) ?_
  rotate_left 1
  · (intro w' hSw; (try dsimp only at hSw); go_simp; try with_reducible rfl)
  try simp only [Act.put, List.setIfInBounds_toArray, List.set_cons_zero, List.set_cons_succ]
  refine wpAnyH_take (i := 7) (oi := { dst := some 3, op := .assign (.tmp 10), type := 31, pos := "l06_mux.go:184", after := #[{ on := 5, ground := .data }, { on := 0, ground := .chain }, { on := 0, ground := .phase }, { on := 1, ground := .phase }, { on := 2, ground := .phase }, { on := 3, ground := .phase }, { on := 4, ground := .phase }, { on := 5, ground := .phase }, { on := 6, ground := .textOnly Go.Departure.lateStores }], guard := none }) (v := ?_) rfl (by kernel_rfl) (by kernel_rfl) (by kernel_rfl) (fun _ _ _ h => h) (Or.inl ⟨by rfl, ?_⟩) (by assumption) ?_
  rotate_left 1
  · (intro w' hSw; (try dsimp only at hSw); go_simp; try with_reducible rfl)
  try simp only [Act.put, List.setIfInBounds_toArray, List.set_cons_zero, List.set_cons_succ]
  refine wpAnyH_take (i := 8) (oi := { dst := some 4, op := .assign (.tmp 11), type := 4, pos := "l06_mux.go:184", after := #[{ on := 6, ground := .data }, { on := 7, ground := .chain }, { on := 0, ground := .phase }, { on := 1, ground := .phase }, { on := 2, ground := .phase }, { on := 3, ground := .phase }, { on := 4, ground := .phase }, { on := 5, ground := .phase }, { on := 6, ground := .phase }, { on := 7, ground := .phase }], guard := none }) (v := ?_) rfl (by kernel_rfl) (by kernel_rfl) (by kernel_rfl) (fun _ _ _ h => h) (Or.inl ⟨by rfl, ?_⟩) (by assumption) ?_
  rotate_left 1
  · (intro w' hSw; (try dsimp only at hSw); go_simp; try with_reducible rfl)
  try simp only [Act.put, List.setIfInBounds_toArray, List.set_cons_zero, List.set_cons_succ]
  refine wpAnyH_done (by kernel_rfl) ?_ _
  cases U
  · go_wp2_with (first | (go_at_call 22; refine (icl cl _ HU _).mono ?_; rintro e w2 ⟨rfl, rfl⟩) | (go_at_call 23; refine (isq sq _ HV _).mono ?_; rintro e w2 ⟨rfl, rfl⟩))
    go_ret
    exact ⟨ret_bool (by rw [unhide HRR]; rfl), unhide HB1⟩
  cases V
  · go_wp2_with (first | (go_at_call 22; refine (icl cl _ HU _).mono ?_; rintro e w2 ⟨rfl, rfl⟩) | (go_at_call 23; refine (isq sq _ HV _).mono ?_; rintro e w2 ⟨rfl, rfl⟩))
    go_ret
    exact ⟨ret_bool (by rw [unhide HRR]; rfl), unhide HB1⟩
  have hR : R = X := unhide HRR
  subst hR
  clear HRR
  go_wp2_with (first | (go_at_call 22; refine (icl cl _ HU _).mono ?_; rintro e w2 ⟨rfl, rfl⟩) | (go_at_call 23; refine (isq sq _ HV _).mono ?_; rintro e w2 ⟨rfl, rfl⟩))
  refine (iisMove 4 cl sq p n ep r nm dt HNM HDT R HX _).mono ?_
  rintro e w3 ⟨rfl, hb3⟩
  have HB3 := hide ((unhide HB1).trans (hb3.mono (unhide HB1).size))
  clear hb3
  go_wp2_with fail
  go_ret
  exact ⟨rfl, unhide HB3⟩
set_option maxHeartbeats 1000000 in
set_option maxRecDepth 100000 in
theorem icmd_isOutput (cl sq p n ep : Int) (r : Bool) (nm dt : ByteArray) (HNM : Hid (nm.size ≤ 1048576)) (HDT : Hid (dt.size ≤ 1048576)) (R : Bool) (HR : Hid (R = (inB cl 0 200 && (inB sq 1 60000 && isOutputB p n ep r nm dt)))) (w : World) : Calls Tryd.prog 9 #[.agg #[.int .i64 5, .int .i64 cl, .int .i64 sq, .int .i64 p, .int .i64 n, .int .i64 ep, .bool r, .string nm, .string dt]] w fun e w' => e = .returned (.bool R) ∧ Below w.heap.size w w' := by
  have HB := hide (Go.Joins.below_alloc1 w (.cells #[.int .i64 5, .int .i64 cl, .int .i64 sq, .int .i64 p, .int .i64 n, .int .i64 ep, .bool r, .string nm, .string dt] 24))
  have BX := hide (BF.new w #[.int .i64 5, .int .i64 cl, .int .i64 sq, .int .i64 p, .int .i64 n, .int .i64 ep, .bool r, .string nm, .string dt] 24)
  obtain ⟨U, hU⟩ : ∃ U, U = inB cl 0 200 := ⟨_, rfl⟩
  obtain ⟨V, hV⟩ : ∃ V, V = inB sq 1 60000 := ⟨_, rfl⟩
  obtain ⟨X, hX⟩ : ∃ X, X = isOutputB p n ep r nm dt := ⟨_, rfl⟩
  have hR := unhide HR
  rw [← hU, ← hV, ← hX] at hR
  have HRR := hide hR
  have HU := hide hU
  have HV := hide hV
  have HX := hide hX
  clear HR hR hU hV hX
  have c0 := (unhide BX).S
  go_enter Tryd.func9, Tryd.ntmps9
  go_wp2_with fail
  generalize hw0 : w.alloc (.cells #[.int .i64 5, .int .i64 cl, .int .i64 sq, .int .i64 p, .int .i64 n, .int .i64 ep, .bool r, .string nm, .string dt] 24) = w0 at c0 BX HB ⊢
  refine wp_region_held_drew (S := fun w' => ∀ o, w'.cell? ⟨w.heap.size, o, none⟩ = (#[.int .i64 5, .int .i64 cl, .int .i64 sq, .int .i64 p, .int .i64 n, .int .i64 ep, .bool r, .string nm, .string dt] : Array Value)[o]?) (by kernel_rfl) c0 (fun hHeld => ?_)
  refine wpAnyH_take (i := 1) (oi := { dst := some 7, op := .fieldAddr 24 (.tmp 1) 0, type := 0, pos := "l06_mux.go:184", after := #[], guard := none }) (v := ?_) rfl (by kernel_rfl) (by kernel_rfl) (by kernel_rfl) (fun _ _ _ h => h) (Or.inl ⟨by rfl, ?_⟩) (by assumption) ?_
  rotate_left 1
  · (intro w' hSw; (try dsimp only at hSw); go_simp; try with_reducible rfl)
  try simp only [Act.put, List.setIfInBounds_toArray, List.set_cons_zero, List.set_cons_succ]
  refine wpAnyH_take (i := 2) (oi := { dst := some 8, op := .load 3 (.tmp 7), type := 3, pos := "l06_mux.go:184", after := #[{ on := 1, ground := .data }], guard := none }) (v := ?_) rfl (by kernel_rfl) (by kernel_rfl) (by kernel_rfl) (fun _ _ _ h => h) (Or.inl ⟨by rfl, ?_⟩) (by assumption) ?_
  rotate_left 1
  · (intro w' hSw; (try dsimp only at hSw); go_simp; try with_reducible rfl)
  try simp only [Act.put, List.setIfInBounds_toArray, List.set_cons_zero, List.set_cons_succ]
  refine wpAnyH_ready (rs := [0]) (by kernel_rfl) (by simp) ?_
  refine AllReadyH.cons (o := { dst := some 6, op := .call { callee := .value (.func 21), args := #[], argTypes := #[] }, type := 46, pos := "l06_mux.go:184", after := #[], guard := none }) rfl (fun K hK => ?_) AllReadyH.nil
  go_simp
  refine (irules _).mono ?_
  rintro e w1 ⟨g, rfl, hg1, hge1, hb1⟩
  have BX1 := hide ((unhide BX).drew.below hb1)
  have HB1 := hide ((unhide HB).trans ((below_undrew hb1).mono (unhide HB).size))
  have c1 := (unhide BX1).S
  have hlk := run_hasI w1 46 3 31 g 8 5 (.func (.func 45) #[] #[]) 4 ruleE Tryd.underlying46 Tryd.underlying3 hg1 rfl
  clear hb1 hg1
  go_wp2_with fail
  refine hK.out _ _ ?_ (fun hHeld0 => ?_)
  · exact c1
  clear hK K
  try simp only [Act.put, List.setIfInBounds_toArray, List.set_cons_zero, List.set_cons_succ]
  refine wpAnyH_ready (rs := [3]) (by kernel_rfl) (by simp) ?_
  refine AllReadyH.cons (o := { dst := some 9, op := .lookup 46 (.tmp 6) (.tmp 8) true, type := 45, pos := "l06_mux.go:184", after := #[{ on := 0, ground := .data }, { on := 2, ground := .data }], guard := none }) rfl (fun K hK => ?_) AllReadyH.nil
  go_simp
  refine hK.out _ _ ?_ (fun hHeld3 => ?_)
  · exact c1
  clear hK K
  try simp only [Act.put, List.setIfInBounds_toArray, List.set_cons_zero, List.set_cons_succ]
  refine wpAnyH_take (i := 4) (oi := { dst := some 5, op := .move (.tmp 9), type := 45, pos := "l06_mux.go:184", after := #[{ on := 3, ground := .data }], guard := none }) (v := ?_) rfl (by kernel_rfl) (by kernel_rfl) (by kernel_rfl) (fun _ _ _ h => h) (Or.inl ⟨by rfl, ?_⟩) (by assumption) ?_
  rotate_left 1
  · (intro w' hSw; (try dsimp only at hSw); go_simp; try with_reducible rfl)
  try simp only [Act.put, List.setIfInBounds_toArray, List.set_cons_zero, List.set_cons_succ]
  refine wpAnyH_take (i := 5) (oi := { dst := some 10, op := .extract (.tmp 5) 0, type := 31, pos := "l06_mux.go:184", after := #[{ on := 4, ground := .data }], guard := none }) (v := ?_) rfl (by kernel_rfl) (by kernel_rfl) (by kernel_rfl) (fun _ _ _ h => h) (Or.inl ⟨by rfl, ?_⟩) (by assumption) ?_
  rotate_left 1
  · (intro w' hSw; (try dsimp only at hSw); go_simp; try with_reducible rfl)
  try simp only [Act.put, List.setIfInBounds_toArray, List.set_cons_zero, List.set_cons_succ]
  refine wpAnyH_take (i := 6) (oi := { dst := some 11, op := .extract (.tmp 5) 1, type := 4, pos := "l06_mux.go:184", after := #[{ on := 4, ground := .data }, { on := 7, ground := .gcOnly Go.Departure.lateStores }], guard := none }) (v := ?_) rfl (by kernel_rfl) (by kernel_rfl) (by kernel_rfl) (fun _ _ _ h => h) (Or.inl ⟨by rfl, ?_⟩) (by assumption) ?_
  rotate_left 1
  · (intro w' hSw; (try dsimp only at hSw); go_simp; try with_reducible rfl)
  try simp only [Act.put, List.setIfInBounds_toArray, List.set_cons_zero, List.set_cons_succ]
  refine wpAnyH_take (i := 7) (oi := { dst := some 3, op := .assign (.tmp 10), type := 31, pos := "l06_mux.go:184", after := #[{ on := 5, ground := .data }, { on := 0, ground := .chain }, { on := 0, ground := .phase }, { on := 1, ground := .phase }, { on := 2, ground := .phase }, { on := 3, ground := .phase }, { on := 4, ground := .phase }, { on := 5, ground := .phase }, { on := 6, ground := .textOnly Go.Departure.lateStores }], guard := none }) (v := ?_) rfl (by kernel_rfl) (by kernel_rfl) (by kernel_rfl) (fun _ _ _ h => h) (Or.inl ⟨by rfl, ?_⟩) (by assumption) ?_
  rotate_left 1
  · (intro w' hSw; (try dsimp only at hSw); go_simp; try with_reducible rfl)
  try simp only [Act.put, List.setIfInBounds_toArray, List.set_cons_zero, List.set_cons_succ]
  refine wpAnyH_take (i := 8) (oi := { dst := some 4, op := .assign (.tmp 11), type := 4, pos := "l06_mux.go:184", after := #[{ on := 6, ground := .data }, { on := 7, ground := .chain }, { on := 0, ground := .phase }, { on := 1, ground := .phase }, { on := 2, ground := .phase }, { on := 3, ground := .phase }, { on := 4, ground := .phase }, { on := 5, ground := .phase }, { on := 6, ground := .phase }, { on := 7, ground := .phase }], guard := none }) (v := ?_) rfl (by kernel_rfl) (by kernel_rfl) (by kernel_rfl) (fun _ _ _ h => h) (Or.inl ⟨by rfl, ?_⟩) (by assumption) ?_
  rotate_left 1
  · (intro w' hSw; (try dsimp only at hSw); go_simp; try with_reducible rfl)
  try simp only [Act.put, List.setIfInBounds_toArray, List.set_cons_zero, List.set_cons_succ]
  refine wpAnyH_done (by kernel_rfl) ?_ _
  cases U
  · go_wp2_with (first | (go_at_call 22; refine (icl cl _ HU _).mono ?_; rintro e w2 ⟨rfl, rfl⟩) | (go_at_call 23; refine (isq sq _ HV _).mono ?_; rintro e w2 ⟨rfl, rfl⟩))
    go_ret
    exact ⟨ret_bool (by rw [unhide HRR]; rfl), unhide HB1⟩
  cases V
  · go_wp2_with (first | (go_at_call 22; refine (icl cl _ HU _).mono ?_; rintro e w2 ⟨rfl, rfl⟩) | (go_at_call 23; refine (isq sq _ HV _).mono ?_; rintro e w2 ⟨rfl, rfl⟩))
    go_ret
    exact ⟨ret_bool (by rw [unhide HRR]; rfl), unhide HB1⟩
  have hR : R = X := unhide HRR
  subst hR
  clear HRR
  go_wp2_with (first | (go_at_call 22; refine (icl cl _ HU _).mono ?_; rintro e w2 ⟨rfl, rfl⟩) | (go_at_call 23; refine (isq sq _ HV _).mono ?_; rintro e w2 ⟨rfl, rfl⟩))
  refine (iisOutput 5 cl sq p n ep r nm dt HNM HDT R HX _).mono ?_
  rintro e w3 ⟨rfl, hb3⟩
  have HB3 := hide ((unhide HB1).trans (hb3.mono (unhide HB1).size))
  clear hb3
  go_wp2_with fail
  go_ret
  exact ⟨rfl, unhide HB3⟩
set_option maxHeartbeats 1000000 in
set_option maxRecDepth 100000 in
theorem icmd_isOwn (cl sq p n ep : Int) (r : Bool) (nm dt : ByteArray) (HNM : Hid (nm.size ≤ 1048576)) (HDT : Hid (dt.size ≤ 1048576)) (R : Bool) (HR : Hid (R = (inB cl 0 200 && (inB sq 1 60000 && isOwnB p n ep r nm dt)))) (w : World) : Calls Tryd.prog 9 #[.agg #[.int .i64 6, .int .i64 cl, .int .i64 sq, .int .i64 p, .int .i64 n, .int .i64 ep, .bool r, .string nm, .string dt]] w fun e w' => e = .returned (.bool R) ∧ Below w.heap.size w w' := by
  have HB := hide (Go.Joins.below_alloc1 w (.cells #[.int .i64 6, .int .i64 cl, .int .i64 sq, .int .i64 p, .int .i64 n, .int .i64 ep, .bool r, .string nm, .string dt] 24))
  have BX := hide (BF.new w #[.int .i64 6, .int .i64 cl, .int .i64 sq, .int .i64 p, .int .i64 n, .int .i64 ep, .bool r, .string nm, .string dt] 24)
  obtain ⟨U, hU⟩ : ∃ U, U = inB cl 0 200 := ⟨_, rfl⟩
  obtain ⟨V, hV⟩ : ∃ V, V = inB sq 1 60000 := ⟨_, rfl⟩
  obtain ⟨X, hX⟩ : ∃ X, X = isOwnB p n ep r nm dt := ⟨_, rfl⟩
  have hR := unhide HR
  rw [← hU, ← hV, ← hX] at hR
  have HRR := hide hR
  have HU := hide hU
  have HV := hide hV
  have HX := hide hX
  clear HR hR hU hV hX
  have c0 := (unhide BX).S
  go_enter Tryd.func9, Tryd.ntmps9
  go_wp2_with fail
  generalize hw0 : w.alloc (.cells #[.int .i64 6, .int .i64 cl, .int .i64 sq, .int .i64 p, .int .i64 n, .int .i64 ep, .bool r, .string nm, .string dt] 24) = w0 at c0 BX HB ⊢
  refine wp_region_held_drew (S := fun w' => ∀ o, w'.cell? ⟨w.heap.size, o, none⟩ = (#[.int .i64 6, .int .i64 cl, .int .i64 sq, .int .i64 p, .int .i64 n, .int .i64 ep, .bool r, .string nm, .string dt] : Array Value)[o]?) (by kernel_rfl) c0 (fun hHeld => ?_)
  refine wpAnyH_take (i := 1) (oi := { dst := some 7, op := .fieldAddr 24 (.tmp 1) 0, type := 0, pos := "l06_mux.go:184", after := #[], guard := none }) (v := ?_) rfl (by kernel_rfl) (by kernel_rfl) (by kernel_rfl) (fun _ _ _ h => h) (Or.inl ⟨by rfl, ?_⟩) (by assumption) ?_
  rotate_left 1
  · (intro w' hSw; (try dsimp only at hSw); go_simp; try with_reducible rfl)
  try simp only [Act.put, List.setIfInBounds_toArray, List.set_cons_zero, List.set_cons_succ]
  refine wpAnyH_take (i := 2) (oi := { dst := some 8, op := .load 3 (.tmp 7), type := 3, pos := "l06_mux.go:184", after := #[{ on := 1, ground := .data }], guard := none }) (v := ?_) rfl (by kernel_rfl) (by kernel_rfl) (by kernel_rfl) (fun _ _ _ h => h) (Or.inl ⟨by rfl, ?_⟩) (by assumption) ?_
  rotate_left 1
  · (intro w' hSw; (try dsimp only at hSw); go_simp; try with_reducible rfl)
  try simp only [Act.put, List.setIfInBounds_toArray, List.set_cons_zero, List.set_cons_succ]
  refine wpAnyH_ready (rs := [0]) (by kernel_rfl) (by simp) ?_
  refine AllReadyH.cons (o := { dst := some 6, op := .call { callee := .value (.func 21), args := #[], argTypes := #[] }, type := 46, pos := "l06_mux.go:184", after := #[], guard := none }) rfl (fun K hK => ?_) AllReadyH.nil
  go_simp
  refine (irules _).mono ?_
  rintro e w1 ⟨g, rfl, hg1, hge1, hb1⟩
  have BX1 := hide ((unhide BX).drew.below hb1)
  have HB1 := hide ((unhide HB).trans ((below_undrew hb1).mono (unhide HB).size))
  have c1 := (unhide BX1).S
  have hlk := run_hasI w1 46 3 31 g 8 6 (.func (.func 46) #[] #[]) 5 ruleE Tryd.underlying46 Tryd.underlying3 hg1 rfl
  clear hb1 hg1
  go_wp2_with fail
  refine hK.out _ _ ?_ (fun hHeld0 => ?_)
  · exact c1
  clear hK K
  try simp only [Act.put, List.setIfInBounds_toArray, List.set_cons_zero, List.set_cons_succ]
  refine wpAnyH_ready (rs := [3]) (by kernel_rfl) (by simp) ?_
  refine AllReadyH.cons (o := { dst := some 9, op := .lookup 46 (.tmp 6) (.tmp 8) true, type := 45, pos := "l06_mux.go:184", after := #[{ on := 0, ground := .data }, { on := 2, ground := .data }], guard := none }) rfl (fun K hK => ?_) AllReadyH.nil
  go_simp
  refine hK.out _ _ ?_ (fun hHeld3 => ?_)
  · exact c1
  clear hK K
  try simp only [Act.put, List.setIfInBounds_toArray, List.set_cons_zero, List.set_cons_succ]
  refine wpAnyH_take (i := 4) (oi := { dst := some 5, op := .move (.tmp 9), type := 45, pos := "l06_mux.go:184", after := #[{ on := 3, ground := .data }], guard := none }) (v := ?_) rfl (by kernel_rfl) (by kernel_rfl) (by kernel_rfl) (fun _ _ _ h => h) (Or.inl ⟨by rfl, ?_⟩) (by assumption) ?_
  rotate_left 1
  · (intro w' hSw; (try dsimp only at hSw); go_simp; try with_reducible rfl)
  try simp only [Act.put, List.setIfInBounds_toArray, List.set_cons_zero, List.set_cons_succ]
  refine wpAnyH_take (i := 5) (oi := { dst := some 10, op := .extract (.tmp 5) 0, type := 31, pos := "l06_mux.go:184", after := #[{ on := 4, ground := .data }], guard := none }) (v := ?_) rfl (by kernel_rfl) (by kernel_rfl) (by kernel_rfl) (fun _ _ _ h => h) (Or.inl ⟨by rfl, ?_⟩) (by assumption) ?_
  rotate_left 1
  · (intro w' hSw; (try dsimp only at hSw); go_simp; try with_reducible rfl)
  try simp only [Act.put, List.setIfInBounds_toArray, List.set_cons_zero, List.set_cons_succ]
  refine wpAnyH_take (i := 6) (oi := { dst := some 11, op := .extract (.tmp 5) 1, type := 4, pos := "l06_mux.go:184", after := #[{ on := 4, ground := .data }, { on := 7, ground := .gcOnly Go.Departure.lateStores }], guard := none }) (v := ?_) rfl (by kernel_rfl) (by kernel_rfl) (by kernel_rfl) (fun _ _ _ h => h) (Or.inl ⟨by rfl, ?_⟩) (by assumption) ?_
  rotate_left 1
  · (intro w' hSw; (try dsimp only at hSw); go_simp; try with_reducible rfl)
  try simp only [Act.put, List.setIfInBounds_toArray, List.set_cons_zero, List.set_cons_succ]
  refine wpAnyH_take (i := 7) (oi := { dst := some 3, op := .assign (.tmp 10), type := 31, pos := "l06_mux.go:184", after := #[{ on := 5, ground := .data }, { on := 0, ground := .chain }, { on := 0, ground := .phase }, { on := 1, ground := .phase }, { on := 2, ground := .phase }, { on := 3, ground := .phase }, { on := 4, ground := .phase }, { on := 5, ground := .phase }, { on := 6, ground := .textOnly Go.Departure.lateStores }], guard := none }) (v := ?_) rfl (by kernel_rfl) (by kernel_rfl) (by kernel_rfl) (fun _ _ _ h => h) (Or.inl ⟨by rfl, ?_⟩) (by assumption) ?_
  rotate_left 1
  · (intro w' hSw; (try dsimp only at hSw); go_simp; try with_reducible rfl)
  try simp only [Act.put, List.setIfInBounds_toArray, List.set_cons_zero, List.set_cons_succ]
  refine wpAnyH_take (i := 8) (oi := { dst := some 4, op := .assign (.tmp 11), type := 4, pos := "l06_mux.go:184", after := #[{ on := 6, ground := .data }, { on := 7, ground := .chain }, { on := 0, ground := .phase }, { on := 1, ground := .phase }, { on := 2, ground := .phase }, { on := 3, ground := .phase }, { on := 4, ground := .phase }, { on := 5, ground := .phase }, { on := 6, ground := .phase }, { on := 7, ground := .phase }], guard := none }) (v := ?_) rfl (by kernel_rfl) (by kernel_rfl) (by kernel_rfl) (fun _ _ _ h => h) (Or.inl ⟨by rfl, ?_⟩) (by assumption) ?_
  rotate_left 1
  · (intro w' hSw; (try dsimp only at hSw); go_simp; try with_reducible rfl)
  try simp only [Act.put, List.setIfInBounds_toArray, List.set_cons_zero, List.set_cons_succ]
  refine wpAnyH_done (by kernel_rfl) ?_ _
  cases U
  · go_wp2_with (first | (go_at_call 22; refine (icl cl _ HU _).mono ?_; rintro e w2 ⟨rfl, rfl⟩) | (go_at_call 23; refine (isq sq _ HV _).mono ?_; rintro e w2 ⟨rfl, rfl⟩))
    go_ret
    exact ⟨ret_bool (by rw [unhide HRR]; rfl), unhide HB1⟩
  cases V
  · go_wp2_with (first | (go_at_call 22; refine (icl cl _ HU _).mono ?_; rintro e w2 ⟨rfl, rfl⟩) | (go_at_call 23; refine (isq sq _ HV _).mono ?_; rintro e w2 ⟨rfl, rfl⟩))
    go_ret
    exact ⟨ret_bool (by rw [unhide HRR]; rfl), unhide HB1⟩
  have hR : R = X := unhide HRR
  subst hR
  clear HRR
  go_wp2_with (first | (go_at_call 22; refine (icl cl _ HU _).mono ?_; rintro e w2 ⟨rfl, rfl⟩) | (go_at_call 23; refine (isq sq _ HV _).mono ?_; rintro e w2 ⟨rfl, rfl⟩))
  refine (iisOwn 6 cl sq p n ep r nm dt HNM HDT R HX _).mono ?_
  rintro e w3 ⟨rfl, hb3⟩
  have HB3 := hide ((unhide HB1).trans (hb3.mono (unhide HB1).size))
  clear hb3
  go_wp2_with fail
  go_ret
  exact ⟨rfl, unhide HB3⟩
set_option maxHeartbeats 1000000 in
set_option maxRecDepth 100000 in
theorem icmd_isResize (cl sq p n ep : Int) (r : Bool) (nm dt : ByteArray) (HNM : Hid (nm.size ≤ 1048576)) (HDT : Hid (dt.size ≤ 1048576)) (R : Bool) (HR : Hid (R = (inB cl 0 200 && (inB sq 1 60000 && isResizeB p n ep r nm dt)))) (w : World) : Calls Tryd.prog 9 #[.agg #[.int .i64 7, .int .i64 cl, .int .i64 sq, .int .i64 p, .int .i64 n, .int .i64 ep, .bool r, .string nm, .string dt]] w fun e w' => e = .returned (.bool R) ∧ Below w.heap.size w w' := by
  have HB := hide (Go.Joins.below_alloc1 w (.cells #[.int .i64 7, .int .i64 cl, .int .i64 sq, .int .i64 p, .int .i64 n, .int .i64 ep, .bool r, .string nm, .string dt] 24))
  have BX := hide (BF.new w #[.int .i64 7, .int .i64 cl, .int .i64 sq, .int .i64 p, .int .i64 n, .int .i64 ep, .bool r, .string nm, .string dt] 24)
  obtain ⟨U, hU⟩ : ∃ U, U = inB cl 0 200 := ⟨_, rfl⟩
  obtain ⟨V, hV⟩ : ∃ V, V = inB sq 1 60000 := ⟨_, rfl⟩
  obtain ⟨X, hX⟩ : ∃ X, X = isResizeB p n ep r nm dt := ⟨_, rfl⟩
  have hR := unhide HR
  rw [← hU, ← hV, ← hX] at hR
  have HRR := hide hR
  have HU := hide hU
  have HV := hide hV
  have HX := hide hX
  clear HR hR hU hV hX
  have c0 := (unhide BX).S
  go_enter Tryd.func9, Tryd.ntmps9
  go_wp2_with fail
  generalize hw0 : w.alloc (.cells #[.int .i64 7, .int .i64 cl, .int .i64 sq, .int .i64 p, .int .i64 n, .int .i64 ep, .bool r, .string nm, .string dt] 24) = w0 at c0 BX HB ⊢
  refine wp_region_held_drew (S := fun w' => ∀ o, w'.cell? ⟨w.heap.size, o, none⟩ = (#[.int .i64 7, .int .i64 cl, .int .i64 sq, .int .i64 p, .int .i64 n, .int .i64 ep, .bool r, .string nm, .string dt] : Array Value)[o]?) (by kernel_rfl) c0 (fun hHeld => ?_)
  refine wpAnyH_take (i := 1) (oi := { dst := some 7, op := .fieldAddr 24 (.tmp 1) 0, type := 0, pos := "l06_mux.go:184", after := #[], guard := none }) (v := ?_) rfl (by kernel_rfl) (by kernel_rfl) (by kernel_rfl) (fun _ _ _ h => h) (Or.inl ⟨by rfl, ?_⟩) (by assumption) ?_
  rotate_left 1
  · (intro w' hSw; (try dsimp only at hSw); go_simp; try with_reducible rfl)
  try simp only [Act.put, List.setIfInBounds_toArray, List.set_cons_zero, List.set_cons_succ]
  refine wpAnyH_take (i := 2) (oi := { dst := some 8, op := .load 3 (.tmp 7), type := 3, pos := "l06_mux.go:184", after := #[{ on := 1, ground := .data }], guard := none }) (v := ?_) rfl (by kernel_rfl) (by kernel_rfl) (by kernel_rfl) (fun _ _ _ h => h) (Or.inl ⟨by rfl, ?_⟩) (by assumption) ?_
  rotate_left 1
  · (intro w' hSw; (try dsimp only at hSw); go_simp; try with_reducible rfl)
  try simp only [Act.put, List.setIfInBounds_toArray, List.set_cons_zero, List.set_cons_succ]
  refine wpAnyH_ready (rs := [0]) (by kernel_rfl) (by simp) ?_
  refine AllReadyH.cons (o := { dst := some 6, op := .call { callee := .value (.func 21), args := #[], argTypes := #[] }, type := 46, pos := "l06_mux.go:184", after := #[], guard := none }) rfl (fun K hK => ?_) AllReadyH.nil
  go_simp
  refine (irules _).mono ?_
  rintro e w1 ⟨g, rfl, hg1, hge1, hb1⟩
  have BX1 := hide ((unhide BX).drew.below hb1)
  have HB1 := hide ((unhide HB).trans ((below_undrew hb1).mono (unhide HB).size))
  have c1 := (unhide BX1).S
  have hlk := run_hasI w1 46 3 31 g 8 7 (.func (.func 47) #[] #[]) 6 ruleE Tryd.underlying46 Tryd.underlying3 hg1 rfl
  clear hb1 hg1
  go_wp2_with fail
  refine hK.out _ _ ?_ (fun hHeld0 => ?_)
  · exact c1
  clear hK K
  try simp only [Act.put, List.setIfInBounds_toArray, List.set_cons_zero, List.set_cons_succ]
  refine wpAnyH_ready (rs := [3]) (by kernel_rfl) (by simp) ?_
  refine AllReadyH.cons (o := { dst := some 9, op := .lookup 46 (.tmp 6) (.tmp 8) true, type := 45, pos := "l06_mux.go:184", after := #[{ on := 0, ground := .data }, { on := 2, ground := .data }], guard := none }) rfl (fun K hK => ?_) AllReadyH.nil
  go_simp
  refine hK.out _ _ ?_ (fun hHeld3 => ?_)
  · exact c1
  clear hK K
  try simp only [Act.put, List.setIfInBounds_toArray, List.set_cons_zero, List.set_cons_succ]
  refine wpAnyH_take (i := 4) (oi := { dst := some 5, op := .move (.tmp 9), type := 45, pos := "l06_mux.go:184", after := #[{ on := 3, ground := .data }], guard := none }) (v := ?_) rfl (by kernel_rfl) (by kernel_rfl) (by kernel_rfl) (fun _ _ _ h => h) (Or.inl ⟨by rfl, ?_⟩) (by assumption) ?_
  rotate_left 1
  · (intro w' hSw; (try dsimp only at hSw); go_simp; try with_reducible rfl)
  try simp only [Act.put, List.setIfInBounds_toArray, List.set_cons_zero, List.set_cons_succ]
  refine wpAnyH_take (i := 5) (oi := { dst := some 10, op := .extract (.tmp 5) 0, type := 31, pos := "l06_mux.go:184", after := #[{ on := 4, ground := .data }], guard := none }) (v := ?_) rfl (by kernel_rfl) (by kernel_rfl) (by kernel_rfl) (fun _ _ _ h => h) (Or.inl ⟨by rfl, ?_⟩) (by assumption) ?_
  rotate_left 1
  · (intro w' hSw; (try dsimp only at hSw); go_simp; try with_reducible rfl)
  try simp only [Act.put, List.setIfInBounds_toArray, List.set_cons_zero, List.set_cons_succ]
  refine wpAnyH_take (i := 6) (oi := { dst := some 11, op := .extract (.tmp 5) 1, type := 4, pos := "l06_mux.go:184", after := #[{ on := 4, ground := .data }, { on := 7, ground := .gcOnly Go.Departure.lateStores }], guard := none }) (v := ?_) rfl (by kernel_rfl) (by kernel_rfl) (by kernel_rfl) (fun _ _ _ h => h) (Or.inl ⟨by rfl, ?_⟩) (by assumption) ?_
  rotate_left 1
  · (intro w' hSw; (try dsimp only at hSw); go_simp; try with_reducible rfl)
  try simp only [Act.put, List.setIfInBounds_toArray, List.set_cons_zero, List.set_cons_succ]
  refine wpAnyH_take (i := 7) (oi := { dst := some 3, op := .assign (.tmp 10), type := 31, pos := "l06_mux.go:184", after := #[{ on := 5, ground := .data }, { on := 0, ground := .chain }, { on := 0, ground := .phase }, { on := 1, ground := .phase }, { on := 2, ground := .phase }, { on := 3, ground := .phase }, { on := 4, ground := .phase }, { on := 5, ground := .phase }, { on := 6, ground := .textOnly Go.Departure.lateStores }], guard := none }) (v := ?_) rfl (by kernel_rfl) (by kernel_rfl) (by kernel_rfl) (fun _ _ _ h => h) (Or.inl ⟨by rfl, ?_⟩) (by assumption) ?_
  rotate_left 1
  · (intro w' hSw; (try dsimp only at hSw); go_simp; try with_reducible rfl)
  try simp only [Act.put, List.setIfInBounds_toArray, List.set_cons_zero, List.set_cons_succ]
  refine wpAnyH_take (i := 8) (oi := { dst := some 4, op := .assign (.tmp 11), type := 4, pos := "l06_mux.go:184", after := #[{ on := 6, ground := .data }, { on := 7, ground := .chain }, { on := 0, ground := .phase }, { on := 1, ground := .phase }, { on := 2, ground := .phase }, { on := 3, ground := .phase }, { on := 4, ground := .phase }, { on := 5, ground := .phase }, { on := 6, ground := .phase }, { on := 7, ground := .phase }], guard := none }) (v := ?_) rfl (by kernel_rfl) (by kernel_rfl) (by kernel_rfl) (fun _ _ _ h => h) (Or.inl ⟨by rfl, ?_⟩) (by assumption) ?_
  rotate_left 1
  · (intro w' hSw; (try dsimp only at hSw); go_simp; try with_reducible rfl)
  try simp only [Act.put, List.setIfInBounds_toArray, List.set_cons_zero, List.set_cons_succ]
  refine wpAnyH_done (by kernel_rfl) ?_ _
  cases U
  · go_wp2_with (first | (go_at_call 22; refine (icl cl _ HU _).mono ?_; rintro e w2 ⟨rfl, rfl⟩) | (go_at_call 23; refine (isq sq _ HV _).mono ?_; rintro e w2 ⟨rfl, rfl⟩))
    go_ret
    exact ⟨ret_bool (by rw [unhide HRR]; rfl), unhide HB1⟩
  cases V
  · go_wp2_with (first | (go_at_call 22; refine (icl cl _ HU _).mono ?_; rintro e w2 ⟨rfl, rfl⟩) | (go_at_call 23; refine (isq sq _ HV _).mono ?_; rintro e w2 ⟨rfl, rfl⟩))
    go_ret
    exact ⟨ret_bool (by rw [unhide HRR]; rfl), unhide HB1⟩
  have hR : R = X := unhide HRR
  subst hR
  clear HRR
  go_wp2_with (first | (go_at_call 22; refine (icl cl _ HU _).mono ?_; rintro e w2 ⟨rfl, rfl⟩) | (go_at_call 23; refine (isq sq _ HV _).mono ?_; rintro e w2 ⟨rfl, rfl⟩))
  refine (iisResize 7 cl sq p n ep r nm dt HNM HDT R HX _).mono ?_
  rintro e w3 ⟨rfl, hb3⟩
  have HB3 := hide ((unhide HB1).trans (hb3.mono (unhide HB1).size))
  clear hb3
  go_wp2_with fail
  go_ret
  exact ⟨rfl, unhide HB3⟩
set_option maxHeartbeats 1000000 in
set_option maxRecDepth 100000 in
theorem icmd_isRename (cl sq p n ep : Int) (r : Bool) (nm dt : ByteArray) (HNM : Hid (nm.size ≤ 1048576)) (HDT : Hid (dt.size ≤ 1048576)) (R : Bool) (HR : Hid (R = (inB cl 0 200 && (inB sq 1 60000 && isRenameB p n ep r nm dt)))) (w : World) : Calls Tryd.prog 9 #[.agg #[.int .i64 8, .int .i64 cl, .int .i64 sq, .int .i64 p, .int .i64 n, .int .i64 ep, .bool r, .string nm, .string dt]] w fun e w' => e = .returned (.bool R) ∧ Below w.heap.size w w' := by
  have HB := hide (Go.Joins.below_alloc1 w (.cells #[.int .i64 8, .int .i64 cl, .int .i64 sq, .int .i64 p, .int .i64 n, .int .i64 ep, .bool r, .string nm, .string dt] 24))
  have BX := hide (BF.new w #[.int .i64 8, .int .i64 cl, .int .i64 sq, .int .i64 p, .int .i64 n, .int .i64 ep, .bool r, .string nm, .string dt] 24)
  obtain ⟨U, hU⟩ : ∃ U, U = inB cl 0 200 := ⟨_, rfl⟩
  obtain ⟨V, hV⟩ : ∃ V, V = inB sq 1 60000 := ⟨_, rfl⟩
  obtain ⟨X, hX⟩ : ∃ X, X = isRenameB p n ep r nm dt := ⟨_, rfl⟩
  have hR := unhide HR
  rw [← hU, ← hV, ← hX] at hR
  have HRR := hide hR
  have HU := hide hU
  have HV := hide hV
  have HX := hide hX
  clear HR hR hU hV hX
  have c0 := (unhide BX).S
  go_enter Tryd.func9, Tryd.ntmps9
  go_wp2_with fail
  generalize hw0 : w.alloc (.cells #[.int .i64 8, .int .i64 cl, .int .i64 sq, .int .i64 p, .int .i64 n, .int .i64 ep, .bool r, .string nm, .string dt] 24) = w0 at c0 BX HB ⊢
  refine wp_region_held_drew (S := fun w' => ∀ o, w'.cell? ⟨w.heap.size, o, none⟩ = (#[.int .i64 8, .int .i64 cl, .int .i64 sq, .int .i64 p, .int .i64 n, .int .i64 ep, .bool r, .string nm, .string dt] : Array Value)[o]?) (by kernel_rfl) c0 (fun hHeld => ?_)
  refine wpAnyH_take (i := 1) (oi := { dst := some 7, op := .fieldAddr 24 (.tmp 1) 0, type := 0, pos := "l06_mux.go:184", after := #[], guard := none }) (v := ?_) rfl (by kernel_rfl) (by kernel_rfl) (by kernel_rfl) (fun _ _ _ h => h) (Or.inl ⟨by rfl, ?_⟩) (by assumption) ?_
  rotate_left 1
  · (intro w' hSw; (try dsimp only at hSw); go_simp; try with_reducible rfl)
  try simp only [Act.put, List.setIfInBounds_toArray, List.set_cons_zero, List.set_cons_succ]
  refine wpAnyH_take (i := 2) (oi := { dst := some 8, op := .load 3 (.tmp 7), type := 3, pos := "l06_mux.go:184", after := #[{ on := 1, ground := .data }], guard := none }) (v := ?_) rfl (by kernel_rfl) (by kernel_rfl) (by kernel_rfl) (fun _ _ _ h => h) (Or.inl ⟨by rfl, ?_⟩) (by assumption) ?_
  rotate_left 1
  · (intro w' hSw; (try dsimp only at hSw); go_simp; try with_reducible rfl)
  try simp only [Act.put, List.setIfInBounds_toArray, List.set_cons_zero, List.set_cons_succ]
  refine wpAnyH_ready (rs := [0]) (by kernel_rfl) (by simp) ?_
  refine AllReadyH.cons (o := { dst := some 6, op := .call { callee := .value (.func 21), args := #[], argTypes := #[] }, type := 46, pos := "l06_mux.go:184", after := #[], guard := none }) rfl (fun K hK => ?_) AllReadyH.nil
  go_simp
  refine (irules _).mono ?_
  rintro e w1 ⟨g, rfl, hg1, hge1, hb1⟩
  have BX1 := hide ((unhide BX).drew.below hb1)
  have HB1 := hide ((unhide HB).trans ((below_undrew hb1).mono (unhide HB).size))
  have c1 := (unhide BX1).S
  have hlk := run_hasI w1 46 3 31 g 8 8 (.func (.func 48) #[] #[]) 7 ruleE Tryd.underlying46 Tryd.underlying3 hg1 rfl
  clear hb1 hg1
  go_wp2_with fail
  refine hK.out _ _ ?_ (fun hHeld0 => ?_)
  · exact c1
  clear hK K
  try simp only [Act.put, List.setIfInBounds_toArray, List.set_cons_zero, List.set_cons_succ]
  refine wpAnyH_ready (rs := [3]) (by kernel_rfl) (by simp) ?_
  refine AllReadyH.cons (o := { dst := some 9, op := .lookup 46 (.tmp 6) (.tmp 8) true, type := 45, pos := "l06_mux.go:184", after := #[{ on := 0, ground := .data }, { on := 2, ground := .data }], guard := none }) rfl (fun K hK => ?_) AllReadyH.nil
  go_simp
  refine hK.out _ _ ?_ (fun hHeld3 => ?_)
  · exact c1
  clear hK K
  try simp only [Act.put, List.setIfInBounds_toArray, List.set_cons_zero, List.set_cons_succ]
  refine wpAnyH_take (i := 4) (oi := { dst := some 5, op := .move (.tmp 9), type := 45, pos := "l06_mux.go:184", after := #[{ on := 3, ground := .data }], guard := none }) (v := ?_) rfl (by kernel_rfl) (by kernel_rfl) (by kernel_rfl) (fun _ _ _ h => h) (Or.inl ⟨by rfl, ?_⟩) (by assumption) ?_
  rotate_left 1
  · (intro w' hSw; (try dsimp only at hSw); go_simp; try with_reducible rfl)
  try simp only [Act.put, List.setIfInBounds_toArray, List.set_cons_zero, List.set_cons_succ]
  refine wpAnyH_take (i := 5) (oi := { dst := some 10, op := .extract (.tmp 5) 0, type := 31, pos := "l06_mux.go:184", after := #[{ on := 4, ground := .data }], guard := none }) (v := ?_) rfl (by kernel_rfl) (by kernel_rfl) (by kernel_rfl) (fun _ _ _ h => h) (Or.inl ⟨by rfl, ?_⟩) (by assumption) ?_
  rotate_left 1
  · (intro w' hSw; (try dsimp only at hSw); go_simp; try with_reducible rfl)
  try simp only [Act.put, List.setIfInBounds_toArray, List.set_cons_zero, List.set_cons_succ]
  refine wpAnyH_take (i := 6) (oi := { dst := some 11, op := .extract (.tmp 5) 1, type := 4, pos := "l06_mux.go:184", after := #[{ on := 4, ground := .data }, { on := 7, ground := .gcOnly Go.Departure.lateStores }], guard := none }) (v := ?_) rfl (by kernel_rfl) (by kernel_rfl) (by kernel_rfl) (fun _ _ _ h => h) (Or.inl ⟨by rfl, ?_⟩) (by assumption) ?_
  rotate_left 1
  · (intro w' hSw; (try dsimp only at hSw); go_simp; try with_reducible rfl)
  try simp only [Act.put, List.setIfInBounds_toArray, List.set_cons_zero, List.set_cons_succ]
  refine wpAnyH_take (i := 7) (oi := { dst := some 3, op := .assign (.tmp 10), type := 31, pos := "l06_mux.go:184", after := #[{ on := 5, ground := .data }, { on := 0, ground := .chain }, { on := 0, ground := .phase }, { on := 1, ground := .phase }, { on := 2, ground := .phase }, { on := 3, ground := .phase }, { on := 4, ground := .phase }, { on := 5, ground := .phase }, { on := 6, ground := .textOnly Go.Departure.lateStores }], guard := none }) (v := ?_) rfl (by kernel_rfl) (by kernel_rfl) (by kernel_rfl) (fun _ _ _ h => h) (Or.inl ⟨by rfl, ?_⟩) (by assumption) ?_
  rotate_left 1
  · (intro w' hSw; (try dsimp only at hSw); go_simp; try with_reducible rfl)
  try simp only [Act.put, List.setIfInBounds_toArray, List.set_cons_zero, List.set_cons_succ]
  refine wpAnyH_take (i := 8) (oi := { dst := some 4, op := .assign (.tmp 11), type := 4, pos := "l06_mux.go:184", after := #[{ on := 6, ground := .data }, { on := 7, ground := .chain }, { on := 0, ground := .phase }, { on := 1, ground := .phase }, { on := 2, ground := .phase }, { on := 3, ground := .phase }, { on := 4, ground := .phase }, { on := 5, ground := .phase }, { on := 6, ground := .phase }, { on := 7, ground := .phase }], guard := none }) (v := ?_) rfl (by kernel_rfl) (by kernel_rfl) (by kernel_rfl) (fun _ _ _ h => h) (Or.inl ⟨by rfl, ?_⟩) (by assumption) ?_
  rotate_left 1
  · (intro w' hSw; (try dsimp only at hSw); go_simp; try with_reducible rfl)
  try simp only [Act.put, List.setIfInBounds_toArray, List.set_cons_zero, List.set_cons_succ]
  refine wpAnyH_done (by kernel_rfl) ?_ _
  cases U
  · go_wp2_with (first | (go_at_call 22; refine (icl cl _ HU _).mono ?_; rintro e w2 ⟨rfl, rfl⟩) | (go_at_call 23; refine (isq sq _ HV _).mono ?_; rintro e w2 ⟨rfl, rfl⟩))
    go_ret
    exact ⟨ret_bool (by rw [unhide HRR]; rfl), unhide HB1⟩
  cases V
  · go_wp2_with (first | (go_at_call 22; refine (icl cl _ HU _).mono ?_; rintro e w2 ⟨rfl, rfl⟩) | (go_at_call 23; refine (isq sq _ HV _).mono ?_; rintro e w2 ⟨rfl, rfl⟩))
    go_ret
    exact ⟨ret_bool (by rw [unhide HRR]; rfl), unhide HB1⟩
  have hR : R = X := unhide HRR
  subst hR
  clear HRR
  go_wp2_with (first | (go_at_call 22; refine (icl cl _ HU _).mono ?_; rintro e w2 ⟨rfl, rfl⟩) | (go_at_call 23; refine (isq sq _ HV _).mono ?_; rintro e w2 ⟨rfl, rfl⟩))
  refine (iisRename 8 cl sq p n ep r nm dt HNM HDT R HX _).mono ?_
  rintro e w3 ⟨rfl, hb3⟩
  have HB3 := hide ((unhide HB1).trans (hb3.mono (unhide HB1).size))
  clear hb3
  go_wp2_with fail
  go_ret
  exact ⟨rfl, unhide HB3⟩
set_option maxHeartbeats 1000000 in
set_option maxRecDepth 100000 in
theorem icmd_none (k cl sq p n ep : Int) (r : Bool) (nm dt : ByteArray) (n1 : ¬ k = 1) (n2 : ¬ k = 2) (n3 : ¬ k = 3) (n4 : ¬ k = 4) (n5 : ¬ k = 5) (n6 : ¬ k = 6) (n7 : ¬ k = 7) (n8 : ¬ k = 8) (HNM : Hid (nm.size ≤ 1048576)) (HDT : Hid (dt.size ≤ 1048576)) (R : Bool) (HR : Hid (R = false)) (w : World) : Calls Tryd.prog 9 #[.agg #[.int .i64 k, .int .i64 cl, .int .i64 sq, .int .i64 p, .int .i64 n, .int .i64 ep, .bool r, .string nm, .string dt]] w fun e w' => e = .returned (.bool R) ∧ Below w.heap.size w w' := by
  have HB := hide (Go.Joins.below_alloc1 w (.cells #[.int .i64 k, .int .i64 cl, .int .i64 sq, .int .i64 p, .int .i64 n, .int .i64 ep, .bool r, .string nm, .string dt] 24))
  have BX := hide (BF.new w #[.int .i64 k, .int .i64 cl, .int .i64 sq, .int .i64 p, .int .i64 n, .int .i64 ep, .bool r, .string nm, .string dt] 24)
  have c0 := (unhide BX).S
  go_enter Tryd.func9, Tryd.ntmps9
  go_wp2_with fail
  generalize hw0 : w.alloc (.cells #[.int .i64 k, .int .i64 cl, .int .i64 sq, .int .i64 p, .int .i64 n, .int .i64 ep, .bool r, .string nm, .string dt] 24) = w0 at c0 BX HB ⊢
  refine wp_region_held_drew (S := fun w' => ∀ o, w'.cell? ⟨w.heap.size, o, none⟩ = (#[.int .i64 k, .int .i64 cl, .int .i64 sq, .int .i64 p, .int .i64 n, .int .i64 ep, .bool r, .string nm, .string dt] : Array Value)[o]?) (by kernel_rfl) c0 (fun hHeld => ?_)
  refine wpAnyH_take (i := 1) (oi := { dst := some 7, op := .fieldAddr 24 (.tmp 1) 0, type := 0, pos := "l06_mux.go:184", after := #[], guard := none }) (v := ?_) rfl (by kernel_rfl) (by kernel_rfl) (by kernel_rfl) (fun _ _ _ h => h) (Or.inl ⟨by rfl, ?_⟩) (by assumption) ?_
  rotate_left 1
  · (intro w' hSw; (try dsimp only at hSw); go_simp; try with_reducible rfl)
  try simp only [Act.put, List.setIfInBounds_toArray, List.set_cons_zero, List.set_cons_succ]
  refine wpAnyH_take (i := 2) (oi := { dst := some 8, op := .load 3 (.tmp 7), type := 3, pos := "l06_mux.go:184", after := #[{ on := 1, ground := .data }], guard := none }) (v := ?_) rfl (by kernel_rfl) (by kernel_rfl) (by kernel_rfl) (fun _ _ _ h => h) (Or.inl ⟨by rfl, ?_⟩) (by assumption) ?_
  rotate_left 1
  · (intro w' hSw; (try dsimp only at hSw); go_simp; try with_reducible rfl)
  try simp only [Act.put, List.setIfInBounds_toArray, List.set_cons_zero, List.set_cons_succ]
  refine wpAnyH_ready (rs := [0]) (by kernel_rfl) (by simp) ?_
  refine AllReadyH.cons (o := { dst := some 6, op := .call { callee := .value (.func 21), args := #[], argTypes := #[] }, type := 46, pos := "l06_mux.go:184", after := #[], guard := none }) rfl (fun K hK => ?_) AllReadyH.nil
  go_simp
  refine (irules _).mono ?_
  rintro e w1 ⟨g, rfl, hg1, hge1, hb1⟩
  have BX1 := hide ((unhide BX).drew.below hb1)
  have HB1 := hide ((unhide HB).trans ((below_undrew hb1).mono (unhide HB).size))
  have c1 := (unhide BX1).S
  have hlk := run_lackI w1 46 3 31 g 8 k .nilFunc ruleE Tryd.underlying46 Tryd.underlying3 (by kernel_rfl) hg1 (rule_none k n1 n2 n3 n4 n5 n6 n7 n8)
  clear hb1 hg1
  go_wp2_with fail
  refine hK.out _ _ ?_ (fun hHeld0 => ?_)
  · exact c1
  clear hK K
  try simp only [Act.put, List.setIfInBounds_toArray, List.set_cons_zero, List.set_cons_succ]
  refine wpAnyH_ready (rs := [3]) (by kernel_rfl) (by simp) ?_
  refine AllReadyH.cons (o := { dst := some 9, op := .lookup 46 (.tmp 6) (.tmp 8) true, type := 45, pos := "l06_mux.go:184", after := #[{ on := 0, ground := .data }, { on := 2, ground := .data }], guard := none }) rfl (fun K hK => ?_) AllReadyH.nil
  go_simp
  refine hK.out _ _ ?_ (fun hHeld3 => ?_)
  · exact c1
  clear hK K
  try simp only [Act.put, List.setIfInBounds_toArray, List.set_cons_zero, List.set_cons_succ]
  refine wpAnyH_take (i := 4) (oi := { dst := some 5, op := .move (.tmp 9), type := 45, pos := "l06_mux.go:184", after := #[{ on := 3, ground := .data }], guard := none }) (v := ?_) rfl (by kernel_rfl) (by kernel_rfl) (by kernel_rfl) (fun _ _ _ h => h) (Or.inl ⟨by rfl, ?_⟩) (by assumption) ?_
  rotate_left 1
  · (intro w' hSw; (try dsimp only at hSw); go_simp; try with_reducible rfl)
  try simp only [Act.put, List.setIfInBounds_toArray, List.set_cons_zero, List.set_cons_succ]
  refine wpAnyH_take (i := 5) (oi := { dst := some 10, op := .extract (.tmp 5) 0, type := 31, pos := "l06_mux.go:184", after := #[{ on := 4, ground := .data }], guard := none }) (v := ?_) rfl (by kernel_rfl) (by kernel_rfl) (by kernel_rfl) (fun _ _ _ h => h) (Or.inl ⟨by rfl, ?_⟩) (by assumption) ?_
  rotate_left 1
  · (intro w' hSw; (try dsimp only at hSw); go_simp; try with_reducible rfl)
  try simp only [Act.put, List.setIfInBounds_toArray, List.set_cons_zero, List.set_cons_succ]
  refine wpAnyH_take (i := 6) (oi := { dst := some 11, op := .extract (.tmp 5) 1, type := 4, pos := "l06_mux.go:184", after := #[{ on := 4, ground := .data }, { on := 7, ground := .gcOnly Go.Departure.lateStores }], guard := none }) (v := ?_) rfl (by kernel_rfl) (by kernel_rfl) (by kernel_rfl) (fun _ _ _ h => h) (Or.inl ⟨by rfl, ?_⟩) (by assumption) ?_
  rotate_left 1
  · (intro w' hSw; (try dsimp only at hSw); go_simp; try with_reducible rfl)
  try simp only [Act.put, List.setIfInBounds_toArray, List.set_cons_zero, List.set_cons_succ]
  refine wpAnyH_take (i := 7) (oi := { dst := some 3, op := .assign (.tmp 10), type := 31, pos := "l06_mux.go:184", after := #[{ on := 5, ground := .data }, { on := 0, ground := .chain }, { on := 0, ground := .phase }, { on := 1, ground := .phase }, { on := 2, ground := .phase }, { on := 3, ground := .phase }, { on := 4, ground := .phase }, { on := 5, ground := .phase }, { on := 6, ground := .textOnly Go.Departure.lateStores }], guard := none }) (v := ?_) rfl (by kernel_rfl) (by kernel_rfl) (by kernel_rfl) (fun _ _ _ h => h) (Or.inl ⟨by rfl, ?_⟩) (by assumption) ?_
  rotate_left 1
  · (intro w' hSw; (try dsimp only at hSw); go_simp; try with_reducible rfl)
  try simp only [Act.put, List.setIfInBounds_toArray, List.set_cons_zero, List.set_cons_succ]
  refine wpAnyH_take (i := 8) (oi := { dst := some 4, op := .assign (.tmp 11), type := 4, pos := "l06_mux.go:184", after := #[{ on := 6, ground := .data }, { on := 7, ground := .chain }, { on := 0, ground := .phase }, { on := 1, ground := .phase }, { on := 2, ground := .phase }, { on := 3, ground := .phase }, { on := 4, ground := .phase }, { on := 5, ground := .phase }, { on := 6, ground := .phase }, { on := 7, ground := .phase }], guard := none }) (v := ?_) rfl (by kernel_rfl) (by kernel_rfl) (by kernel_rfl) (fun _ _ _ h => h) (Or.inl ⟨by rfl, ?_⟩) (by assumption) ?_
  rotate_left 1
  · (intro w' hSw; (try dsimp only at hSw); go_simp; try with_reducible rfl)
  try simp only [Act.put, List.setIfInBounds_toArray, List.set_cons_zero, List.set_cons_succ]
  refine wpAnyH_done (by kernel_rfl) ?_ _
  go_wp2_with fail
  go_ret
  exact ⟨ret_bool (by rw [unhide HR]), unhide HB1⟩
theorem icmd (k cl sq p n ep : Int) (r : Bool) (nm dt : ByteArray) (HNM : Hid (nm.size ≤ 1048576)) (HDT : Hid (dt.size ≤ 1048576)) (R : Bool) (HR : Hid (R = cmdB k cl sq p n ep r nm dt)) (w : World) : Calls Tryd.prog 9 #[.agg #[.int .i64 k, .int .i64 cl, .int .i64 sq, .int .i64 p, .int .i64 n, .int .i64 ep, .bool r, .string nm, .string dt]] w fun e w' => e = .returned (.bool R) ∧ Below w.heap.size w w' := by
  have hR := unhide HR
  unfold cmdB kindB at hR
  by_cases h1 : k = 1
  · subst h1
    exact icmd_isWindow cl sq p n ep r nm dt HNM HDT R (show R = _ from by simpa using hR) w
  by_cases h2 : k = 2
  · subst h2
    exact icmd_isSplit cl sq p n ep r nm dt HNM HDT R (show R = _ from by simpa using hR) w
  by_cases h3 : k = 3
  · subst h3
    exact icmd_isKill cl sq p n ep r nm dt HNM HDT R (show R = _ from by simpa using hR) w
  by_cases h4 : k = 4
  · subst h4
    exact icmd_isMove cl sq p n ep r nm dt HNM HDT R (show R = _ from by simpa using hR) w
  by_cases h5 : k = 5
  · subst h5
    exact icmd_isOutput cl sq p n ep r nm dt HNM HDT R (show R = _ from by simpa using hR) w
  by_cases h6 : k = 6
  · subst h6
    exact icmd_isOwn cl sq p n ep r nm dt HNM HDT R (show R = _ from by simpa using hR) w
  by_cases h7 : k = 7
  · subst h7
    exact icmd_isResize cl sq p n ep r nm dt HNM HDT R (show R = _ from by simpa using hR) w
  by_cases h8 : k = 8
  · subst h8
    exact icmd_isRename cl sq p n ep r nm dt HNM HDT R (show R = _ from by simpa using hR) w
  exact icmd_none k cl sq p n ep r nm dt h1 h2 h3 h4 h5 h6 h7 h8 HNM HDT R (show R = _ from by simpa [h1, h2, h3, h4, h5, h6, h7, h8] using hR) w
end Go.Proofs.YtoplijjddhecgaaDoor
