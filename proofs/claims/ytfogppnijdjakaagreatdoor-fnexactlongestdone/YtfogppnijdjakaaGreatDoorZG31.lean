/- Texts put together: ClkS InS. -/
import Derived.Test.YtfogppnijdjakaaGreatDoorZG18
import Derived.Test.YtfogppnijdjakaaGreatDoorZG30
import Derived.Test.YtfogppnijdjakaaGreatDoorZG2
import Derived.Deep.Cut
import Derived.Test.YtfogppnijdjakaaGreatDoorZG1
/- spec.l09Same. -/
namespace Go.Proofs.YtfogppnijdjakaaGreatDoor
open Go.ChangeShapes Go.WideShapes Go.ChangeAt Go.RowKit
set_option linter.unusedVariables false
abbrev oClkS0 : Oper := { dst := some 5, op := .fieldAddr 76 (.tmp 2) 0, type := 0, pos := "l09_cluster.go:24", after := #[], guard := none }
abbrev oClkS1 : Oper := { dst := some 6, op := .load 3 (.tmp 5), type := 3, pos := "l09_cluster.go:24", after := #[{ on := 0, ground := .data }], guard := none }
abbrev oClkS2 : Oper := { dst := some 7, op := .fieldAddr 76 (.tmp 3) 0, type := 0, pos := "l09_cluster.go:24", after := #[], guard := none }
abbrev oClkS3 : Oper := { dst := some 8, op := .load 3 (.tmp 7), type := 3, pos := "l09_cluster.go:24", after := #[{ on := 2, ground := .data }], guard := none }
abbrev oClkS4 : Oper := { dst := some 9, op := .binOp .eql 3 (.tmp 6) (.tmp 8) 3, type := 4, pos := "l09_cluster.go:24", after := #[{ on := 1, ground := .data }, { on := 3, ground := .data }], guard := none }
abbrev oClkS5 : Oper := { dst := some 10, op := .move (.tmp 9), type := 4, pos := "l09_cluster.go:24", after := #[{ on := 4, ground := .data }], guard := none }
abbrev oClkS6 : Oper := { dst := some 11, op := .fieldAddr 76 (.tmp 2) 1, type := 0, pos := "l09_cluster.go:24", after := #[{ on := 5, ground := .guard }], guard := some (5, true) }
abbrev oClkS7 : Oper := { dst := some 12, op := .load 3 (.tmp 11), type := 3, pos := "l09_cluster.go:24", after := #[{ on := 6, ground := .data }, { on := 5, ground := .guard }], guard := some (5, true) }
abbrev oClkS8 : Oper := { dst := some 13, op := .fieldAddr 76 (.tmp 3) 1, type := 0, pos := "l09_cluster.go:24", after := #[{ on := 5, ground := .guard }], guard := some (5, true) }
abbrev oClkS9 : Oper := { dst := some 14, op := .load 3 (.tmp 13), type := 3, pos := "l09_cluster.go:24", after := #[{ on := 8, ground := .data }, { on := 5, ground := .guard }], guard := some (5, true) }
abbrev oClkS10 : Oper := { dst := some 15, op := .binOp .eql 3 (.tmp 12) (.tmp 14) 3, type := 4, pos := "l09_cluster.go:24", after := #[{ on := 7, ground := .data }, { on := 9, ground := .data }, { on := 5, ground := .guard }], guard := some (5, true) }
abbrev oClkS11 : Oper := { dst := some 16, op := .pick (.tmp 10) (.tmp 15) (.const (.bool false)), type := 4, pos := "l09_cluster.go:24", after := #[{ on := 5, ground := .data }, { on := 10, ground := .data }], guard := none }
abbrev oClkS12 : Oper := { dst := some 17, op := .move (.tmp 16), type := 4, pos := "l09_cluster.go:24", after := #[{ on := 11, ground := .data }, { on := 5, ground := .chain }], guard := none }
abbrev oClkS13 : Oper := { dst := some 18, op := .fieldAddr 76 (.tmp 2) 2, type := 0, pos := "l09_cluster.go:24", after := #[{ on := 12, ground := .guard }], guard := some (12, true) }
abbrev oClkS14 : Oper := { dst := some 19, op := .load 69 (.tmp 18), type := 69, pos := "l09_cluster.go:24", after := #[{ on := 13, ground := .data }, { on := 12, ground := .guard }], guard := some (12, true) }
abbrev oClkS15 : Oper := { dst := some 20, op := .call { callee := .builtin Go.Builtin.len, args := #[.tmp 19], argTypes := #[69] }, type := 3, pos := "l09_cluster.go:24", after := #[{ on := 14, ground := .data }, { on := 12, ground := .guard }], guard := some (12, true) }
abbrev oClkS16 : Oper := { dst := some 21, op := .fieldAddr 76 (.tmp 3) 2, type := 0, pos := "l09_cluster.go:24", after := #[{ on := 12, ground := .guard }], guard := some (12, true) }
abbrev oClkS17 : Oper := { dst := some 22, op := .load 69 (.tmp 21), type := 69, pos := "l09_cluster.go:24", after := #[{ on := 16, ground := .data }, { on := 12, ground := .guard }], guard := some (12, true) }
abbrev oClkS18 : Oper := { dst := some 23, op := .call { callee := .builtin Go.Builtin.len, args := #[.tmp 22], argTypes := #[69] }, type := 3, pos := "l09_cluster.go:24", after := #[{ on := 17, ground := .data }, { on := 12, ground := .guard }], guard := some (12, true) }
abbrev oClkS19 : Oper := { dst := some 24, op := .binOp .eql 3 (.tmp 20) (.tmp 23) 3, type := 4, pos := "l09_cluster.go:24", after := #[{ on := 15, ground := .data }, { on := 18, ground := .data }, { on := 12, ground := .guard }], guard := some (12, true) }
abbrev oClkS20 : Oper := { dst := some 25, op := .pick (.tmp 17) (.tmp 24) (.const (.bool false)), type := 4, pos := "l09_cluster.go:24", after := #[{ on := 12, ground := .data }, { on := 19, ground := .data }], guard := none }
abbrev oClkS21 : Oper := { dst := some 26, op := .move (.tmp 25), type := 4, pos := "l09_cluster.go:24", after := #[{ on := 20, ground := .data }, { on := 12, ground := .chain }], guard := none }
abbrev oClkS22 : Oper := { dst := some 27, op := .fieldAddr 76 (.tmp 2) 2, type := 0, pos := "l09_cluster.go:24", after := #[{ on := 21, ground := .guard }], guard := some (21, true) }
abbrev oClkS23 : Oper := { dst := some 28, op := .load 69 (.tmp 27), type := 69, pos := "l09_cluster.go:24", after := #[{ on := 22, ground := .data }, { on := 21, ground := .guard }], guard := some (21, true) }
abbrev oClkS24 : Oper := { dst := some 29, op := .fieldAddr 76 (.tmp 3) 2, type := 0, pos := "l09_cluster.go:24", after := #[{ on := 21, ground := .guard }], guard := some (21, true) }
abbrev oClkS25 : Oper := { dst := some 30, op := .load 69 (.tmp 29), type := 69, pos := "l09_cluster.go:24", after := #[{ on := 24, ground := .data }, { on := 21, ground := .guard }], guard := some (21, true) }
abbrev oClkS26 : Oper := { dst := some 32, op := .fieldAddr 76 (.tmp 2) 2, type := 0, pos := "l09_cluster.go:24", after := #[{ on := 21, ground := .guard }], guard := some (21, true) }
abbrev oClkS27 : Oper := { dst := some 33, op := .load 69 (.tmp 32), type := 69, pos := "l09_cluster.go:24", after := #[{ on := 27, ground := .data }, { on := 21, ground := .guard }], guard := some (21, true) }
abbrev oClkS28 : Oper := { dst := some 34, op := .call { callee := .builtin Go.Builtin.len, args := #[.tmp 33], argTypes := #[69] }, type := 3, pos := "l09_cluster.go:24", after := #[{ on := 28, ground := .data }, { on := 21, ground := .guard }], guard := some (21, true) }
abbrev oClkS29 : Oper := { dst := some 31, op := .call { callee := .value (.func 60), args := #[.tmp 28, .tmp 30], argTypes := #[69, 69] }, type := 3, pos := "l09_cluster.go:24", after := #[{ on := 23, ground := .data }, { on := 25, ground := .data }, { on := 21, ground := .chain }, { on := 21, ground := .guard }], guard := some (21, true) }
abbrev oClkS30 : Oper := { dst := some 35, op := .binOp .eql 3 (.tmp 31) (.tmp 34) 3, type := 4, pos := "l09_cluster.go:24", after := #[{ on := 26, ground := .data }, { on := 29, ground := .data }, { on := 21, ground := .guard }], guard := some (21, true) }
abbrev oClkS31 : Oper := { dst := some 36, op := .pick (.tmp 26) (.tmp 35) (.const (.bool false)), type := 4, pos := "l09_cluster.go:24", after := #[{ on := 21, ground := .data }, { on := 30, ground := .data }], guard := none }
abbrev oClkS32 : Oper := { dst := some 4, op := .assign (.tmp 36), type := 4, pos := "l09_cluster.go:24", after := #[{ on := 31, ground := .data }, { on := 26, ground := .chain }, { on := 0, ground := .phase }, { on := 1, ground := .phase }, { on := 2, ground := .phase }, { on := 3, ground := .phase }, { on := 4, ground := .phase }, { on := 5, ground := .phase }, { on := 6, ground := .phase }, { on := 7, ground := .phase }, { on := 8, ground := .phase }, { on := 9, ground := .phase }, { on := 10, ground := .phase }, { on := 11, ground := .phase }, { on := 12, ground := .phase }, { on := 13, ground := .phase }, { on := 14, ground := .phase }, { on := 15, ground := .phase }, { on := 16, ground := .phase }, { on := 17, ground := .phase }, { on := 18, ground := .phase }, { on := 19, ground := .phase }, { on := 20, ground := .phase }, { on := 21, ground := .phase }, { on := 22, ground := .phase }, { on := 23, ground := .phase }, { on := 24, ground := .phase }, { on := 25, ground := .phase }, { on := 26, ground := .phase }, { on := 27, ground := .phase }, { on := 28, ground := .phase }, { on := 29, ground := .phase }, { on := 30, ground := .phase }, { on := 31, ground := .phase }], guard := none }
set_option maxHeartbeats 4000000 in
set_option maxRecDepth 100000 in
theorem ssame09 (tm' vt' : Int) (a' : Option Addr) (k' n' : Nat) (l' : List Ent) (HN' : Hid (l'.length = n')) (hn' : n' ≤ 60) (tm vt : Int) (a : Option Addr) (cap n : Nat) (l : List Ent) (HN : Hid (l.length = n)) (hn : n ≤ 60) (R : Bool) (HR : Hid (R = decide (tm' = tm ∧ vt' = vt ∧ l' = l))) (w : World) (hr' : RowV w a' (cE l')) (hr : RowV w a (cE l)) :
  Calls Tryz.prog 39 #[.agg #[.int .i64 tm', .int .i64 vt', .slice a' n' k'], .agg #[.int .i64 tm, .int .i64 vt, .slice a n cap]] w fun e w' => e = .returned (.bool R) ∧ Below w.heap.size w w' := by
 have B0 := hide (Go.Joins.below_alloc2 w (Obj.cells #[.int .i64 tm', .int .i64 vt', .slice a' n' k'] 76) (Obj.cells #[.int .i64 tm, .int .i64 vt, .slice a n cap] 76))
 have A0 := hide ((BF.new w #[.int .i64 tm', .int .i64 vt', .slice a' n' k'] 76).alloc (Obj.cells #[.int .i64 tm, .int .i64 vt, .slice a n cap] 76))
 have C0 := hide (BF.new (w.alloc (Obj.cells #[.int .i64 tm', .int .i64 vt', .slice a' n' k'] 76)) #[.int .i64 tm, .int .i64 vt, .slice a n cap] 76)
 simp only [World.size_alloc] at C0
 have H1 := hide (hr'.below (unhide B0))
 have H2 := hide (hr.below (unhide B0))
 clear hr hr'
 go_enter Tryz.func39, Tryz.ntmps39
 go_wp2_with fail
 obtain ⟨ab, hab⟩ : ∃ ab, ab = w.heap.size := ⟨_, rfl⟩
 obtain ⟨bb, hbb⟩ : ∃ bb, bb = w.heap.size + 1 := ⟨_, rfl⟩
 rw [← hbb] at C0 ⊢
 rw [← hab] at A0 ⊢
 generalize (w.alloc (Obj.cells #[.int .i64 tm', .int .i64 vt', .slice a' n' k'] 76)).alloc (Obj.cells #[.int .i64 tm, .int .i64 vt, .slice a n cap] 76) = wa at B0 A0 C0 H1 H2 ⊢
 have SK : Hid (∀ w2, Below wa.heap.size wa w2 → (fun w' => (∀ o, w'.cell? ⟨ab, o, none⟩ = (#[.int .i64 tm', .int .i64 vt', .slice a' n' k'] : Array Value)[o]?) ∧ (∀ o, w'.cell? ⟨bb, o, none⟩ = (#[.int .i64 tm, .int .i64 vt, .slice a n cap] : Array Value)[o]?)) w2) := fun w2 hb => ⟨((unhide A0).below hb).S, ((unhide C0).below hb).S⟩
 have TD : Hid (Below wa.heap.size wa wa.drew) := (Below.refl _ _).drew

 clear hbb hab A0 C0
 by_cases q1 : tm' = tm
 ·have g1 : (tm' == tm) = true := by simpa using q1
  by_cases q2 : vt' = vt
  ·have g2 : (vt' == vt) = true := by simpa using q2
   by_cases q3 : n' = n
   ·obtain rfl := q3
    have g3 : ((n' : Int) == (n' : Int)) = true := by simp
    obtain ⟨Kc, hKc⟩ : ∃ Kc, comN l' l = Kc := ⟨_, rfl⟩
    have HK := hide hKc
    have g4 : ((Kc : Int) == (n' : Int)) = R := by
     have e : Kc = n' ↔ l' = l := by rw [← hKc, ← unhide HN']; exact comN_eq l' l (by rw [unhide HN', unhide HN])
     rw [unhide HR]
     by_cases q : l' = l
     ·rw [decide_eq_true ⟨q1, q2, q⟩, e.2 q]; simp
     ·rw [decide_eq_false (fun x => q x.2.2)]
      have : ¬ Kc = n' := fun x => q (e.1 x)
      simpa using (fun x : (Kc : Int) = (n' : Int) => this (by omega))
    clear q1 q2 hKc
    refine wp_region_held_drew (S := fun w' => (∀ o, w'.cell? ⟨ab, o, none⟩ = (#[.int .i64 tm', .int .i64 vt', .slice a' n' k'] : Array Value)[o]?) ∧ (∀ o, w'.cell? ⟨bb, o, none⟩ = (#[.int .i64 tm, .int .i64 vt, .slice a n' cap] : Array Value)[o]?)) (by kernel_rfl) (unhide SK _ (unhide TD)) (fun hHeld => ?_)
    generalize wa.drew = wd at TD hHeld ⊢
    refine wtv 0 (oi := oClkS0) ?_
    refine wtv 1 (oi := oClkS1) ?_
    refine wtv 2 (oi := oClkS2) ?_
    refine wtv 3 (oi := oClkS3) ?_
    refine wtv 4 (oi := oClkS4) ?_
    refine wtv 5 (oi := oClkS5) ?_
    refine wtv 6 (oi := oClkS6) ?_
    refine wtv 7 (oi := oClkS7) ?_
    refine wtv 8 (oi := oClkS8) ?_
    refine wtv 9 (oi := oClkS9) ?_
    refine wtv 10 (oi := oClkS10) ?_
    refine wtv 11 (oi := oClkS11) ?_
    refine wtv 12 (oi := oClkS12) ?_
    refine wtv 13 (oi := oClkS13) ?_
    refine wtv 14 (oi := oClkS14) ?_
    refine wtv 15 (oi := oClkS15) ?_
    refine wtv 16 (oi := oClkS16) ?_
    refine wtv 17 (oi := oClkS17) ?_
    refine wtv 18 (oi := oClkS18) ?_
    refine wtv 19 (oi := oClkS19) ?_
    refine wtv 20 (oi := oClkS20) ?_
    refine wtv 21 (oi := oClkS21) ?_
    refine wtv 22 (oi := oClkS22) ?_
    refine wtv 23 (oi := oClkS23) ?_
    refine wtv 24 (oi := oClkS24) ?_
    refine wtv 25 (oi := oClkS25) ?_
    refine wtv 27 (oi := oClkS26) ?_
    refine wtv 28 (oi := oClkS27) ?_
    refine wtv 29 (oi := oClkS28) ?_
    refine wpAnyH_ready (rs := [26]) (by kernel_rfl) (by simp) ?_
    refine AllReadyH.cons (o := oClkS29) rfl (fun K hK => ?_) AllReadyH.nil
    go_simp
    refine (scommon a' a k' cap n' n' l' l HN' HN hn' hn' Kc HK _ ((unhide H1).below (unhide TD)) ((unhide H2).below (unhide TD))).mono ?_
    rintro e w2 ⟨rfl, hb2⟩
    have T2 := hide ((unhide TD).trans (hb2.mono (unhide TD).size))
    clear hb2
    go_wp2_with fail
    refine hK.out _ _ ?_ (fun hHeld26 => ?_)
    ·exact unhide SK _ (unhide T2)
    clear hK K
    try simp only [Act.put, qqA, qqB, qqC]
    refine wtv 30 (oi := oClkS30) ?_
    refine wtv 31 (oi := oClkS31) ?_
    refine wtv 32 (oi := oClkS32) ?_
    refine wpAnyH_done (by kernel_rfl) ?_ _
    have BR := hide ((unhide B0).trans ((unhide T2).mono (unhide B0).size))
    clear SK TD T2 hHeld hHeld26 B0
    go_wp2_with fail
    go_ret
    exact ⟨rfl, unhide BR⟩
   ·have HD : Hid (R = false) := by show _ = _; rw [unhide HR]; exact decide_eq_false fun x => q3 (by rw [← unhide HN', ← unhide HN, x.2.2])
    have g3 : ((n' : Int) == (n : Int)) = false := by simpa using (fun x : (n' : Int) = (n : Int) => q3 (by omega))
    clear q1 q2 q3
    refine wp_region_held_drew (S := fun w' => (∀ o, w'.cell? ⟨ab, o, none⟩ = (#[.int .i64 tm', .int .i64 vt', .slice a' n' k'] : Array Value)[o]?) ∧ (∀ o, w'.cell? ⟨bb, o, none⟩ = (#[.int .i64 tm, .int .i64 vt, .slice a n cap] : Array Value)[o]?)) (by kernel_rfl) (unhide SK _ (unhide TD)) (fun hHeld => ?_)
    generalize wa.drew = wd at TD hHeld ⊢
    refine wtv 0 (oi := oClkS0) ?_
    refine wtv 1 (oi := oClkS1) ?_
    refine wtv 2 (oi := oClkS2) ?_
    refine wtv 3 (oi := oClkS3) ?_
    refine wtv 4 (oi := oClkS4) ?_
    refine wtv 5 (oi := oClkS5) ?_
    refine wtv 6 (oi := oClkS6) ?_
    refine wtv 7 (oi := oClkS7) ?_
    refine wtv 8 (oi := oClkS8) ?_
    refine wtv 9 (oi := oClkS9) ?_
    refine wtv 10 (oi := oClkS10) ?_
    refine wtv 11 (oi := oClkS11) ?_
    refine wtv 12 (oi := oClkS12) ?_
    refine wtv 13 (oi := oClkS13) ?_
    refine wtv 14 (oi := oClkS14) ?_
    refine wtv 15 (oi := oClkS15) ?_
    refine wtv 16 (oi := oClkS16) ?_
    refine wtv 17 (oi := oClkS17) ?_
    refine wtv 18 (oi := oClkS18) ?_
    refine wtv 19 (oi := oClkS19) ?_
    refine wtv 20 (oi := oClkS20) ?_
    refine wtv 21 (oi := oClkS21) ?_
    refine wtu 22 (oi := oClkS22) ?_
    refine wtu 23 (oi := oClkS23) ?_
    refine wtu 24 (oi := oClkS24) ?_
    refine wtu 25 (oi := oClkS25) ?_
    refine wtu 26 (oi := oClkS29) ?_
    refine wtu 27 (oi := oClkS26) ?_
    refine wtu 28 (oi := oClkS27) ?_
    refine wtu 29 (oi := oClkS28) ?_
    refine wtu 30 (oi := oClkS30) ?_
    refine wtv 31 (oi := oClkS31) ?_
    refine wtv 32 (oi := oClkS32) ?_
    refine wpAnyH_done (by kernel_rfl) ?_ _
    have BR := hide ((unhide B0).trans ((unhide TD).mono (unhide B0).size))
    clear SK TD hHeld B0
    go_wp2_with fail
    go_ret
    exact ⟨by rw [unhide HD]; rfl, unhide BR⟩
  ·have HD : Hid (R = false) := by show _ = _; rw [unhide HR]; exact decide_eq_false fun x => q2 x.2.1
   have g2 : (vt' == vt) = false := by simpa using q2
   clear q1 q2
   refine wp_region_held_drew (S := fun w' => (∀ o, w'.cell? ⟨ab, o, none⟩ = (#[.int .i64 tm', .int .i64 vt', .slice a' n' k'] : Array Value)[o]?) ∧ (∀ o, w'.cell? ⟨bb, o, none⟩ = (#[.int .i64 tm, .int .i64 vt, .slice a n cap] : Array Value)[o]?)) (by kernel_rfl) (unhide SK _ (unhide TD)) (fun hHeld => ?_)
   generalize wa.drew = wd at TD hHeld ⊢
   refine wtv 0 (oi := oClkS0) ?_
   refine wtv 1 (oi := oClkS1) ?_
   refine wtv 2 (oi := oClkS2) ?_
   refine wtv 3 (oi := oClkS3) ?_
   refine wtv 4 (oi := oClkS4) ?_
   refine wtv 5 (oi := oClkS5) ?_
   refine wtv 6 (oi := oClkS6) ?_
   refine wtv 7 (oi := oClkS7) ?_
   refine wtv 8 (oi := oClkS8) ?_
   refine wtv 9 (oi := oClkS9) ?_
   refine wtv 10 (oi := oClkS10) ?_
   refine wtv 11 (oi := oClkS11) ?_
   refine wtv 12 (oi := oClkS12) ?_
   refine wtu 13 (oi := oClkS13) ?_
   refine wtu 14 (oi := oClkS14) ?_
   refine wtu 15 (oi := oClkS15) ?_
   refine wtu 16 (oi := oClkS16) ?_
   refine wtu 17 (oi := oClkS17) ?_
   refine wtu 18 (oi := oClkS18) ?_
   refine wtu 19 (oi := oClkS19) ?_
   refine wtv 20 (oi := oClkS20) ?_
   refine wtv 21 (oi := oClkS21) ?_
   refine wtu 22 (oi := oClkS22) ?_
   refine wtu 23 (oi := oClkS23) ?_
   refine wtu 24 (oi := oClkS24) ?_
   refine wtu 25 (oi := oClkS25) ?_
   refine wtu 26 (oi := oClkS29) ?_
   refine wtu 27 (oi := oClkS26) ?_
   refine wtu 28 (oi := oClkS27) ?_
   refine wtu 29 (oi := oClkS28) ?_
   refine wtu 30 (oi := oClkS30) ?_
   refine wtv 31 (oi := oClkS31) ?_
   refine wtv 32 (oi := oClkS32) ?_
   refine wpAnyH_done (by kernel_rfl) ?_ _
   have BR := hide ((unhide B0).trans ((unhide TD).mono (unhide B0).size))
   clear SK TD hHeld B0
   go_wp2_with fail
   go_ret
   exact ⟨by rw [unhide HD]; rfl, unhide BR⟩
 ·have HD : Hid (R = false) := by show _ = _; rw [unhide HR]; exact decide_eq_false fun x => q1 x.1
  have g1 : (tm' == tm) = false := by simpa using q1
  clear q1
  refine wp_region_held_drew (S := fun w' => (∀ o, w'.cell? ⟨ab, o, none⟩ = (#[.int .i64 tm', .int .i64 vt', .slice a' n' k'] : Array Value)[o]?) ∧ (∀ o, w'.cell? ⟨bb, o, none⟩ = (#[.int .i64 tm, .int .i64 vt, .slice a n cap] : Array Value)[o]?)) (by kernel_rfl) (unhide SK _ (unhide TD)) (fun hHeld => ?_)
  generalize wa.drew = wd at TD hHeld ⊢
  refine wtv 0 (oi := oClkS0) ?_
  refine wtv 1 (oi := oClkS1) ?_
  refine wtv 2 (oi := oClkS2) ?_
  refine wtv 3 (oi := oClkS3) ?_
  refine wtv 4 (oi := oClkS4) ?_
  refine wtv 5 (oi := oClkS5) ?_
  refine wtu 6 (oi := oClkS6) ?_
  refine wtu 7 (oi := oClkS7) ?_
  refine wtu 8 (oi := oClkS8) ?_
  refine wtu 9 (oi := oClkS9) ?_
  refine wtu 10 (oi := oClkS10) ?_
  refine wtv 11 (oi := oClkS11) ?_
  refine wtv 12 (oi := oClkS12) ?_
  refine wtu 13 (oi := oClkS13) ?_
  refine wtu 14 (oi := oClkS14) ?_
  refine wtu 15 (oi := oClkS15) ?_
  refine wtu 16 (oi := oClkS16) ?_
  refine wtu 17 (oi := oClkS17) ?_
  refine wtu 18 (oi := oClkS18) ?_
  refine wtu 19 (oi := oClkS19) ?_
  refine wtv 20 (oi := oClkS20) ?_
  refine wtv 21 (oi := oClkS21) ?_
  refine wtu 22 (oi := oClkS22) ?_
  refine wtu 23 (oi := oClkS23) ?_
  refine wtu 24 (oi := oClkS24) ?_
  refine wtu 25 (oi := oClkS25) ?_
  refine wtu 26 (oi := oClkS29) ?_
  refine wtu 27 (oi := oClkS26) ?_
  refine wtu 28 (oi := oClkS27) ?_
  refine wtu 29 (oi := oClkS28) ?_
  refine wtu 30 (oi := oClkS30) ?_
  refine wtv 31 (oi := oClkS31) ?_
  refine wtv 32 (oi := oClkS32) ?_
  refine wpAnyH_done (by kernel_rfl) ?_ _
  have BR := hide ((unhide B0).trans ((unhide TD).mono (unhide B0).size))
  clear SK TD hHeld B0
  go_wp2_with fail
  go_ret
  exact ⟨by rw [unhide HD]; rfl, unhide BR⟩
end Go.Proofs.YtfogppnijdjakaaGreatDoor

/- l01In, l03RuneOK: what the specification answers. -/
namespace Go.Proofs.YtfogppnijdjakaaGreatDoor
open Go.ChangeShapes Go.WideShapes Go.ChangeAt Go.RowKit
set_option linter.unusedVariables false
set_option maxHeartbeats 400000 in
set_option maxRecDepth 100000 in
theorem sin (n a b : Int) (w : World) : Calls Tryz.prog 56 #[.int .i64 n, .int .i64 a, .int .i64 b] w fun e w' => e = .returned (.bool (inB n a b)) ∧ w' = w := by
 by_cases h : a ≤ n
 ·by_cases h2 : n ≤ b
  ·go_enter Tryz.func56, Tryz.ntmps56
   go_wp2_with fail
   go_ret
   exact ⟨ret_bool (b_true ⟨h, h2⟩), rfl⟩
  ·go_enter Tryz.func56, Tryz.ntmps56
   go_wp2_with fail
   go_ret
   exact ⟨ret_bool (b_false (by omega)), rfl⟩
 ·go_enter Tryz.func56, Tryz.ntmps56
  go_wp2_with fail
  go_ret
  exact ⟨ret_bool (b_false (by omega)), rfl⟩
end Go.Proofs.YtfogppnijdjakaaGreatDoor
