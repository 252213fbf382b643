/- ClientOK: what the specification answers. -/
import Derived.Test.YtmmnoepcklfonaaGreatDoorZG18
import Derived.Test.YtmmnoepcklfonaaGreatDoorZG37
import Derived.Test.YtmmnoepcklfonaaGreatDoorZMrS
namespace Go.Proofs.YtmmnoepcklfonaaGreatDoor
open Go.ChangeShapes Go.WideShapes Go.ChangeAt Go.RowKit
set_option linter.unusedVariables false
abbrev oCkS0 : Oper := { dst := some 8, op := .move (.tmp 0), type := 9, pos := "l13_client.go:24", after := #[], guard := none }
abbrev oCkS1 : Oper := { dst := some 9, op := .call { callee := .builtin Go.Builtin.len, args := #[.tmp 8], argTypes := #[9] }, type := 3, pos := "l13_client.go:24", after := #[{ on := 0, ground := .data }], guard := none }
abbrev oCkS2 : Oper := { dst := some 10, op := .binOp .leq 3 (.tmp 9) (.const (.int .i64 65536)) 3, type := 4, pos := "l13_client.go:24", after := #[{ on := 1, ground := .data }], guard := none }
abbrev oCkS3 : Oper := { dst := some 11, op := .move (.tmp 10), type := 4, pos := "l13_client.go:24", after := #[{ on := 2, ground := .data }], guard := none }
abbrev oCkS4 : Oper := { dst := some 12, op := .fieldAddr 34 (.tmp 3) 0, type := 0, pos := "l13_client.go:24", after := #[{ on := 3, ground := .guard }], guard := some (3, true) }
abbrev oCkS5 : Oper := { dst := some 13, op := .load 3 (.tmp 12), type := 3, pos := "l13_client.go:24", after := #[{ on := 4, ground := .data }, { on := 3, ground := .guard }], guard := some (3, true) }
abbrev oCkS6 : Oper := { dst := some 14, op := .fieldAddr 34 (.tmp 3) 1, type := 0, pos := "l13_client.go:24", after := #[{ on := 3, ground := .guard }], guard := some (3, true) }
abbrev oCkS7 : Oper := { dst := some 15, op := .load 9 (.tmp 14), type := 9, pos := "l13_client.go:24", after := #[{ on := 6, ground := .data }, { on := 3, ground := .guard }], guard := some (3, true) }
abbrev oCkS8 : Oper := { dst := some 16, op := .call { callee := .value (.func 35), args := #[.tmp 13, .tmp 15, .const (.int .i64 0)], argTypes := #[3, 9, 3] }, type := 4, pos := "l13_client.go:24", after := #[{ on := 5, ground := .data }, { on := 7, ground := .data }, { on := 3, ground := .chain }, { on := 3, ground := .guard }], guard := some (3, true) }
abbrev oCkS9 : Oper := { dst := some 17, op := .pick (.tmp 11) (.tmp 16) (.const (.bool false)), type := 4, pos := "l13_client.go:24", after := #[{ on := 3, ground := .data }, { on := 8, ground := .data }], guard := none }
abbrev oCkS10 : Oper := { dst := some 18, op := .move (.tmp 17), type := 4, pos := "l13_client.go:24", after := #[{ on := 9, ground := .data }, { on := 8, ground := .chain }], guard := none }
abbrev oCkS11 : Oper := { dst := some 19, op := .fieldAddr 34 (.tmp 3) 3, type := 0, pos := "l13_client.go:24", after := #[{ on := 10, ground := .guard }], guard := some (10, true) }
abbrev oCkS12 : Oper := { dst := some 20, op := .load 32 (.tmp 19), type := 32, pos := "l13_client.go:24", after := #[{ on := 11, ground := .data }, { on := 10, ground := .guard }], guard := some (10, true) }
abbrev oCkS13 : Oper := { dst := some 21, op := .call { callee := .value (.func 36), args := #[.tmp 20], argTypes := #[32] }, type := 4, pos := "l13_client.go:24", after := #[{ on := 12, ground := .data }, { on := 10, ground := .chain }, { on := 10, ground := .guard }], guard := some (10, true) }
abbrev oCkS14 : Oper := { dst := some 22, op := .pick (.tmp 18) (.tmp 21) (.const (.bool false)), type := 4, pos := "l13_client.go:24", after := #[{ on := 10, ground := .data }, { on := 13, ground := .data }], guard := none }
abbrev oCkS15 : Oper := { dst := some 23, op := .move (.tmp 22), type := 4, pos := "l13_client.go:24", after := #[{ on := 14, ground := .data }, { on := 13, ground := .chain }], guard := none }
abbrev oCkS16 : Oper := { dst := some 24, op := .fieldAddr 34 (.tmp 3) 2, type := 0, pos := "l13_client.go:24", after := #[{ on := 15, ground := .guard }], guard := some (15, true) }
abbrev oCkS17 : Oper := { dst := some 25, op := .load 9 (.tmp 24), type := 9, pos := "l13_client.go:24", after := #[{ on := 16, ground := .data }, { on := 15, ground := .guard }], guard := some (15, true) }
abbrev oCkS18 : Oper := { dst := some 26, op := .move (.tmp 0), type := 9, pos := "l13_client.go:24", after := #[{ on := 15, ground := .guard }], guard := some (15, true) }
abbrev oCkS19 : Oper := { dst := some 27, op := .fieldAddr 34 (.tmp 3) 0, type := 0, pos := "l13_client.go:24", after := #[{ on := 15, ground := .guard }], guard := some (15, true) }
abbrev oCkS20 : Oper := { dst := some 28, op := .load 3 (.tmp 27), type := 3, pos := "l13_client.go:24", after := #[{ on := 19, ground := .data }, { on := 15, ground := .guard }], guard := some (15, true) }
abbrev oCkS21 : Oper := { dst := some 29, op := .fieldAddr 34 (.tmp 3) 1, type := 0, pos := "l13_client.go:24", after := #[{ on := 15, ground := .guard }], guard := some (15, true) }
abbrev oCkS22 : Oper := { dst := some 30, op := .load 9 (.tmp 29), type := 9, pos := "l13_client.go:24", after := #[{ on := 21, ground := .data }, { on := 15, ground := .guard }], guard := some (15, true) }
abbrev oCkS23 : Oper := { dst := some 31, op := .fieldAddr 34 (.tmp 3) 3, type := 0, pos := "l13_client.go:24", after := #[{ on := 15, ground := .guard }], guard := some (15, true) }
abbrev oCkS24 : Oper := { dst := some 32, op := .fieldAddr 32 (.tmp 31) 0, type := 0, pos := "l13_client.go:24", after := #[{ on := 23, ground := .data }, { on := 15, ground := .guard }], guard := some (15, true) }
abbrev oCkS25 : Oper := { dst := some 33, op := .load 3 (.tmp 32), type := 3, pos := "l13_client.go:24", after := #[{ on := 24, ground := .data }, { on := 15, ground := .guard }], guard := some (15, true) }
abbrev oCkS26 : Oper := { dst := some 34, op := .call { callee := .value (.func 37), args := #[.tmp 26, .tmp 28, .tmp 30, .tmp 33], argTypes := #[9, 3, 9, 3] }, type := 9, pos := "l13_client.go:24", after := #[{ on := 18, ground := .data }, { on := 20, ground := .data }, { on := 22, ground := .data }, { on := 25, ground := .data }, { on := 15, ground := .chain }, { on := 15, ground := .guard }], guard := some (15, true) }
abbrev oCkS27 : Oper := { dst := some 35, op := .binOp .eql 9 (.tmp 25) (.tmp 34) 9, type := 4, pos := "l13_client.go:24", after := #[{ on := 17, ground := .data }, { on := 26, ground := .data }, { on := 15, ground := .guard }], guard := some (15, true) }
abbrev oCkS28 : Oper := { dst := some 36, op := .pick (.tmp 23) (.tmp 35) (.const (.bool false)), type := 4, pos := "l13_client.go:24", after := #[{ on := 15, ground := .data }, { on := 27, ground := .data }], guard := none }
abbrev oCkS29 : Oper := { dst := some 4, op := .assign (.tmp 36), type := 4, pos := "l13_client.go:24", after := #[{ on := 28, ground := .data }, { on := 26, ground := .chain }, { on := 0, ground := .phase }, { on := 1, ground := .phase }, { on := 2, ground := .phase }, { on := 3, ground := .phase }, { on := 4, ground := .phase }, { on := 5, ground := .phase }, { on := 6, ground := .phase }, { on := 7, ground := .phase }, { on := 8, ground := .phase }, { on := 9, ground := .phase }, { on := 10, ground := .phase }, { on := 11, ground := .phase }, { on := 12, ground := .phase }, { on := 13, ground := .phase }, { on := 14, ground := .phase }, { on := 15, ground := .phase }, { on := 16, ground := .phase }, { on := 17, ground := .phase }, { on := 18, ground := .phase }, { on := 19, ground := .phase }, { on := 20, ground := .phase }, { on := 21, ground := .phase }, { on := 22, ground := .phase }, { on := 23, ground := .phase }, { on := 24, ground := .phase }, { on := 25, ground := .phase }, { on := 26, ground := .phase }, { on := 27, ground := .phase }, { on := 28, ground := .phase }], guard := none }
theorem below_drewW (w : World) : Below w.heap.size w w.drew := (Below.refl w.heap.size w).drew
set_option maxHeartbeats 4000000 in
set_option maxRecDepth 100000 in
theorem scliok (key : ByteArray) (id : Int) (win tok : ByteArray) (nb vw vh : Int) (a : Option Addr) (cap n : Nat) (l : List ByteArray) (HN : Hid (l.length = n)) (hn : n ≤ 1048576) (HSZ : Hid (∀ k (h : k < l.length), l[k].size ≤ 1048576)) (HKS : Hid (key.size ≤ 1048576)) (HWS : Hid (win.size ≤ 1048576)) (R : Bool) (HR : Hid (R = clB key id win tok nb vw vh l)) (w : World) (hr : RowV w a (cS l)) :
    Calls Tryz.prog 17 #[.string key, .agg #[.int .i64 id, .string win, .string tok, .int .i64 nb, .int .i64 vw, .int .i64 vh, .slice a n cap]] w fun e w' => e = .returned (.bool R) ∧ Below w.heap.size w w' := by
  have B0 := hide (Go.Joins.below_alloc1 w (.cells #[.int .i64 id, .string win, .string tok, .int .i64 nb, .int .i64 vw, .int .i64 vh, .slice a n cap] 34))
  have Z0 := hide (BF.new w #[.int .i64 id, .string win, .string tok, .int .i64 nb, .int .i64 vw, .int .i64 vh, .slice a n cap] 34)
  have HRW := hide (hr.below (unhide B0))
  have HNI := hide hn
  clear hr hn
  by_cases b : 65536 < key.size
  · obtain rfl : R = false := by rw [unhide HR]; exact cl_long b _ _ _ _ _ _ _
    have b0 : (65536 : Int) < (key.size : Int) := by omega
    clear b HR
    go_enter Tryz.func17, Tryz.ntmps17
    go_wp2_with fail
    go_ret
    exact ⟨rfl, unhide B0⟩
  · have HK6 : Hid (key.size ≤ 65536) := by show _ ≤ _; omega
    have b0 : ¬ (65536 : Int) < (key.size : Int) := by omega
    have b1 : (key.size : Int) ≤ 65536 := by omega
    have d1 : decide ((key.size : Int) ≤ 65536) = true := decide_eq_true b1
    obtain ⟨k, hk⟩ : ∃ k, k = tokB id win 0 := ⟨_, rfl⟩
    have HKB := hide hk
    clear b
    cases k with
    | false =>
      obtain rfl : R = false := by rw [unhide HR]; exact cl_ask hk.symm _ _ _ _ _
      clear hk HR
      go_enter Tryz.func17, Tryz.ntmps17
      go_wp2_with fail
      refine wp_region_held_drew (S := (fun w' => ∀ o, w'.cell? ⟨w.heap.size, o, none⟩ = (#[.int .i64 id, .string win, .string tok, .int .i64 nb, .int .i64 vw, .int .i64 vh, .slice a n cap] : Array Value)[o]?)) (by kernel_rfl) (unhide Z0).S (fun hHeld => ?_)
      have B1 := hide ((unhide B0).drew)
      have Z1 := hide ((unhide Z0).drew)
      have R1 := hide ((unhide HRW).below (below_drewW _))
      clear B0 Z0 HRW
      generalize (w.alloc (.cells #[.int .i64 id, .string win, .string tok, .int .i64 nb, .int .i64 vw, .int .i64 vh, .slice a n cap] 34)).drew = w1 at B1 Z1 R1 hHeld ⊢
      refine wtk (i := 0) (oi := oCkS0) (v := ?_) rfl (Or.inl ⟨by rfl, ?_⟩) (by assumption) ?_
      rotate_left 1
      · (intro w' hSw; (try dsimp only at hSw); go_simp; try with_reducible rfl)
      try simp only [Act.put, qqA, qqB, qqC]
      refine wtk (i := 1) (oi := oCkS1) (v := ?_) rfl (Or.inl ⟨by rfl, ?_⟩) (by assumption) ?_
      rotate_left 1
      · (intro w' hSw; (try dsimp only at hSw); go_simp; try with_reducible rfl)
      try simp only [Act.put, qqA, qqB, qqC]
      refine wtk (i := 2) (oi := oCkS2) (v := ?_) rfl (Or.inl ⟨by rfl, ?_⟩) (by assumption) ?_
      rotate_left 1
      · (intro w' hSw; (try dsimp only at hSw); go_simp; try with_reducible rfl)
      try simp only [Act.put, qqA, qqB, qqC]
      refine wtk (i := 3) (oi := oCkS3) (v := ?_) rfl (Or.inl ⟨by rfl, ?_⟩) (by assumption) ?_
      rotate_left 1
      · (intro w' hSw; (try dsimp only at hSw); go_simp; try with_reducible rfl)
      try simp only [Act.put, qqA, qqB, qqC]
      refine wtk (i := 4) (oi := oCkS4) (v := ?_) rfl (Or.inl ⟨by rfl, ?_⟩) (by assumption) ?_
      rotate_left 1
      · (intro w' hSw; (try dsimp only at hSw); go_simp; try with_reducible rfl)
      try simp only [Act.put, qqA, qqB, qqC]
      refine wtk (i := 5) (oi := oCkS5) (v := ?_) rfl (Or.inl ⟨by rfl, ?_⟩) (by assumption) ?_
      rotate_left 1
      · (intro w' hSw; (try dsimp only at hSw); go_simp; try with_reducible rfl)
      try simp only [Act.put, qqA, qqB, qqC]
      refine wtk (i := 6) (oi := oCkS6) (v := ?_) rfl (Or.inl ⟨by rfl, ?_⟩) (by assumption) ?_
      rotate_left 1
      · (intro w' hSw; (try dsimp only at hSw); go_simp; try with_reducible rfl)
      try simp only [Act.put, qqA, qqB, qqC]
      refine wtk (i := 7) (oi := oCkS7) (v := ?_) rfl (Or.inl ⟨by rfl, ?_⟩) (by assumption) ?_
      rotate_left 1
      · (intro w' hSw; (try dsimp only at hSw); go_simp; try with_reducible rfl)
      try simp only [Act.put, qqA, qqB, qqC]
      refine wpAnyH_ready (rs := [8]) (by kernel_rfl) (by simp) ?_
      refine AllReadyH.cons (o := oCkS8) rfl (fun K hK => ?_) AllReadyH.nil
      go_simp
      refine (sask id win 0 HWS false HKB _).mono ?_
      rintro e w2 ⟨rfl, hw⟩
      subst w2
      go_wp2_with fail
      refine hK.out _ _ ?_ (fun hHeld8 => ?_)
      · exact (unhide Z1).S
      clear hK K
      try simp only [Act.put, qqA, qqB, qqC]
      refine wtk (i := 9) (oi := oCkS9) (v := ?_) rfl (Or.inl ⟨by rfl, ?_⟩) (by assumption) ?_
      rotate_left 1
      · (intro w' hSw; (try dsimp only at hSw); go_simp; try with_reducible rfl)
      try simp only [Act.put, qqA, qqB, qqC]
      refine wtk (i := 10) (oi := oCkS10) (v := ?_) rfl (Or.inl ⟨by rfl, ?_⟩) (by assumption) ?_
      rotate_left 1
      · (intro w' hSw; (try dsimp only at hSw); go_simp; try with_reducible rfl)
      try simp only [Act.put, qqA, qqB, qqC]
      refine wtk (i := 11) (oi := oCkS11) (v := undef) rfl (Or.inr ⟨by rfl, rfl⟩) (by assumption) ?_
      try simp only [Act.put, qqA, qqB, qqC]
      refine wtk (i := 12) (oi := oCkS12) (v := undef) rfl (Or.inr ⟨by rfl, rfl⟩) (by assumption) ?_
      try simp only [Act.put, qqA, qqB, qqC]
      refine wtk (i := 13) (oi := oCkS13) (v := undef) rfl (Or.inr ⟨by rfl, rfl⟩) (by assumption) ?_
      try simp only [Act.put, qqA, qqB, qqC]
      refine wtk (i := 14) (oi := oCkS14) (v := ?_) rfl (Or.inl ⟨by rfl, ?_⟩) (by assumption) ?_
      rotate_left 1
      · (intro w' hSw; (try dsimp only at hSw); go_simp; try with_reducible rfl)
      try simp only [Act.put, qqA, qqB, qqC]
      refine wtk (i := 15) (oi := oCkS15) (v := ?_) rfl (Or.inl ⟨by rfl, ?_⟩) (by assumption) ?_
      rotate_left 1
      · (intro w' hSw; (try dsimp only at hSw); go_simp; try with_reducible rfl)
      try simp only [Act.put, qqA, qqB, qqC]
      refine wtk (i := 16) (oi := oCkS16) (v := undef) rfl (Or.inr ⟨by rfl, rfl⟩) (by assumption) ?_
      try simp only [Act.put, qqA, qqB, qqC]
      refine wtk (i := 17) (oi := oCkS17) (v := undef) rfl (Or.inr ⟨by rfl, rfl⟩) (by assumption) ?_
      try simp only [Act.put, qqA, qqB, qqC]
      refine wtk (i := 18) (oi := oCkS18) (v := undef) rfl (Or.inr ⟨by rfl, rfl⟩) (by assumption) ?_
      try simp only [Act.put, qqA, qqB, qqC]
      refine wtk (i := 19) (oi := oCkS19) (v := undef) rfl (Or.inr ⟨by rfl, rfl⟩) (by assumption) ?_
      try simp only [Act.put, qqA, qqB, qqC]
      refine wtk (i := 20) (oi := oCkS20) (v := undef) rfl (Or.inr ⟨by rfl, rfl⟩) (by assumption) ?_
      try simp only [Act.put, qqA, qqB, qqC]
      refine wtk (i := 21) (oi := oCkS21) (v := undef) rfl (Or.inr ⟨by rfl, rfl⟩) (by assumption) ?_
      try simp only [Act.put, qqA, qqB, qqC]
      refine wtk (i := 22) (oi := oCkS22) (v := undef) rfl (Or.inr ⟨by rfl, rfl⟩) (by assumption) ?_
      try simp only [Act.put, qqA, qqB, qqC]
      refine wtk (i := 23) (oi := oCkS23) (v := undef) rfl (Or.inr ⟨by rfl, rfl⟩) (by assumption) ?_
      try simp only [Act.put, qqA, qqB, qqC]
      refine wtk (i := 24) (oi := oCkS24) (v := undef) rfl (Or.inr ⟨by rfl, rfl⟩) (by assumption) ?_
      try simp only [Act.put, qqA, qqB, qqC]
      refine wtk (i := 25) (oi := oCkS25) (v := undef) rfl (Or.inr ⟨by rfl, rfl⟩) (by assumption) ?_
      try simp only [Act.put, qqA, qqB, qqC]
      refine wtk (i := 26) (oi := oCkS26) (v := undef) rfl (Or.inr ⟨by rfl, rfl⟩) (by assumption) ?_
      try simp only [Act.put, qqA, qqB, qqC]
      refine wtk (i := 27) (oi := oCkS27) (v := undef) rfl (Or.inr ⟨by rfl, rfl⟩) (by assumption) ?_
      try simp only [Act.put, qqA, qqB, qqC]
      refine wtk (i := 28) (oi := oCkS28) (v := ?_) rfl (Or.inl ⟨by rfl, ?_⟩) (by assumption) ?_
      rotate_left 1
      · (intro w' hSw; (try dsimp only at hSw); go_simp; try with_reducible rfl)
      try simp only [Act.put, qqA, qqB, qqC]
      refine wtk (i := 29) (oi := oCkS29) (v := ?_) rfl (Or.inl ⟨by rfl, ?_⟩) (by assumption) ?_
      rotate_left 1
      · (intro w' hSw; (try dsimp only at hSw); go_simp; try with_reducible rfl)
      try simp only [Act.put, qqA, qqB, qqC]
      refine wpAnyH_done (by kernel_rfl) ?_ _
      go_wp2_with fail
      go_ret
      exact ⟨rfl, unhide B1⟩
    | true =>
      obtain ⟨Q, hQ⟩ : ∃ Q, Q = mirB nb vw vh l := ⟨_, rfl⟩
      have HQ := hide hQ
      cases Q with
      | false =>
        obtain rfl : R = false := by rw [unhide HR]; exact cl_mir hQ.symm _ _ _ _
        clear hk hQ HR
        go_enter Tryz.func17, Tryz.ntmps17
        go_wp2_with fail
        refine wp_region_held_drew (S := (fun w' => ∀ o, w'.cell? ⟨w.heap.size, o, none⟩ = (#[.int .i64 id, .string win, .string tok, .int .i64 nb, .int .i64 vw, .int .i64 vh, .slice a n cap] : Array Value)[o]?)) (by kernel_rfl) (unhide Z0).S (fun hHeld => ?_)
        have B1 := hide ((unhide B0).drew)
        have Z1 := hide ((unhide Z0).drew)
        have R1 := hide ((unhide HRW).below (below_drewW _))
        clear B0 Z0 HRW
        generalize (w.alloc (.cells #[.int .i64 id, .string win, .string tok, .int .i64 nb, .int .i64 vw, .int .i64 vh, .slice a n cap] 34)).drew = w1 at B1 Z1 R1 hHeld ⊢
        refine wtk (i := 0) (oi := oCkS0) (v := ?_) rfl (Or.inl ⟨by rfl, ?_⟩) (by assumption) ?_
        rotate_left 1
        · (intro w' hSw; (try dsimp only at hSw); go_simp; try with_reducible rfl)
        try simp only [Act.put, qqA, qqB, qqC]
        refine wtk (i := 1) (oi := oCkS1) (v := ?_) rfl (Or.inl ⟨by rfl, ?_⟩) (by assumption) ?_
        rotate_left 1
        · (intro w' hSw; (try dsimp only at hSw); go_simp; try with_reducible rfl)
        try simp only [Act.put, qqA, qqB, qqC]
        refine wtk (i := 2) (oi := oCkS2) (v := ?_) rfl (Or.inl ⟨by rfl, ?_⟩) (by assumption) ?_
        rotate_left 1
        · (intro w' hSw; (try dsimp only at hSw); go_simp; try with_reducible rfl)
        try simp only [Act.put, qqA, qqB, qqC]
        refine wtk (i := 3) (oi := oCkS3) (v := ?_) rfl (Or.inl ⟨by rfl, ?_⟩) (by assumption) ?_
        rotate_left 1
        · (intro w' hSw; (try dsimp only at hSw); go_simp; try with_reducible rfl)
        try simp only [Act.put, qqA, qqB, qqC]
        refine wtk (i := 4) (oi := oCkS4) (v := ?_) rfl (Or.inl ⟨by rfl, ?_⟩) (by assumption) ?_
        rotate_left 1
        · (intro w' hSw; (try dsimp only at hSw); go_simp; try with_reducible rfl)
        try simp only [Act.put, qqA, qqB, qqC]
        refine wtk (i := 5) (oi := oCkS5) (v := ?_) rfl (Or.inl ⟨by rfl, ?_⟩) (by assumption) ?_
        rotate_left 1
        · (intro w' hSw; (try dsimp only at hSw); go_simp; try with_reducible rfl)
        try simp only [Act.put, qqA, qqB, qqC]
        refine wtk (i := 6) (oi := oCkS6) (v := ?_) rfl (Or.inl ⟨by rfl, ?_⟩) (by assumption) ?_
        rotate_left 1
        · (intro w' hSw; (try dsimp only at hSw); go_simp; try with_reducible rfl)
        try simp only [Act.put, qqA, qqB, qqC]
        refine wtk (i := 7) (oi := oCkS7) (v := ?_) rfl (Or.inl ⟨by rfl, ?_⟩) (by assumption) ?_
        rotate_left 1
        · (intro w' hSw; (try dsimp only at hSw); go_simp; try with_reducible rfl)
        try simp only [Act.put, qqA, qqB, qqC]
        refine wpAnyH_ready (rs := [8]) (by kernel_rfl) (by simp) ?_
        refine AllReadyH.cons (o := oCkS8) rfl (fun K hK => ?_) AllReadyH.nil
        go_simp
        refine (sask id win 0 HWS true HKB _).mono ?_
        rintro e w2 ⟨rfl, hw⟩
        subst w2
        go_wp2_with fail
        refine hK.out _ _ ?_ (fun hHeld8 => ?_)
        · exact (unhide Z1).S
        clear hK K
        try simp only [Act.put, qqA, qqB, qqC]
        refine wtk (i := 9) (oi := oCkS9) (v := ?_) rfl (Or.inl ⟨by rfl, ?_⟩) (by assumption) ?_
        rotate_left 1
        · (intro w' hSw; (try dsimp only at hSw); go_simp; try with_reducible rfl)
        try simp only [Act.put, qqA, qqB, qqC]
        refine wtk (i := 10) (oi := oCkS10) (v := ?_) rfl (Or.inl ⟨by rfl, ?_⟩) (by assumption) ?_
        rotate_left 1
        · (intro w' hSw; (try dsimp only at hSw); go_simp; try with_reducible rfl)
        try simp only [Act.put, qqA, qqB, qqC]
        refine wtk (i := 11) (oi := oCkS11) (v := ?_) rfl (Or.inl ⟨by rfl, ?_⟩) (by assumption) ?_
        rotate_left 1
        · (intro w' hSw; (try dsimp only at hSw); go_simp; try with_reducible rfl)
        try simp only [Act.put, qqA, qqB, qqC]
        refine wtk (i := 12) (oi := oCkS12) (v := ?_) rfl (Or.inl ⟨by rfl, ?_⟩) (by assumption) ?_
        rotate_left 1
        · (intro w' hSw; (try dsimp only at hSw); go_simp; try with_reducible rfl)
        try simp only [Act.put, qqA, qqB, qqC]
        refine wpAnyH_ready (rs := [13]) (by kernel_rfl) (by simp) ?_
        refine AllReadyH.cons (o := oCkS13) rfl (fun K hK => ?_) AllReadyH.nil
        go_simp
        refine (smirok nb vw vh a cap n l HN (unhide HNI) HSZ false HQ _ (unhide R1)).mono ?_
        rintro e w2 ⟨rfl, hb2⟩
        have B2 := hide ((unhide B1).trans (hb2.mono (unhide B1).size))
        have Z2 := hide ((unhide Z1).below hb2)
        clear hb2 B1 Z1 R1
        go_wp2_with fail
        refine hK.out _ _ ?_ (fun hHeld13 => ?_)
        · exact (unhide Z2).S
        clear hK K
        try simp only [Act.put, qqA, qqB, qqC]
        refine wtk (i := 14) (oi := oCkS14) (v := ?_) rfl (Or.inl ⟨by rfl, ?_⟩) (by assumption) ?_
        rotate_left 1
        · (intro w' hSw; (try dsimp only at hSw); go_simp; try with_reducible rfl)
        try simp only [Act.put, qqA, qqB, qqC]
        refine wtk (i := 15) (oi := oCkS15) (v := ?_) rfl (Or.inl ⟨by rfl, ?_⟩) (by assumption) ?_
        rotate_left 1
        · (intro w' hSw; (try dsimp only at hSw); go_simp; try with_reducible rfl)
        try simp only [Act.put, qqA, qqB, qqC]
        refine wtk (i := 16) (oi := oCkS16) (v := undef) rfl (Or.inr ⟨by rfl, rfl⟩) (by assumption) ?_
        try simp only [Act.put, qqA, qqB, qqC]
        refine wtk (i := 17) (oi := oCkS17) (v := undef) rfl (Or.inr ⟨by rfl, rfl⟩) (by assumption) ?_
        try simp only [Act.put, qqA, qqB, qqC]
        refine wtk (i := 18) (oi := oCkS18) (v := undef) rfl (Or.inr ⟨by rfl, rfl⟩) (by assumption) ?_
        try simp only [Act.put, qqA, qqB, qqC]
        refine wtk (i := 19) (oi := oCkS19) (v := undef) rfl (Or.inr ⟨by rfl, rfl⟩) (by assumption) ?_
        try simp only [Act.put, qqA, qqB, qqC]
        refine wtk (i := 20) (oi := oCkS20) (v := undef) rfl (Or.inr ⟨by rfl, rfl⟩) (by assumption) ?_
        try simp only [Act.put, qqA, qqB, qqC]
        refine wtk (i := 21) (oi := oCkS21) (v := undef) rfl (Or.inr ⟨by rfl, rfl⟩) (by assumption) ?_
        try simp only [Act.put, qqA, qqB, qqC]
        refine wtk (i := 22) (oi := oCkS22) (v := undef) rfl (Or.inr ⟨by rfl, rfl⟩) (by assumption) ?_
        try simp only [Act.put, qqA, qqB, qqC]
        refine wtk (i := 23) (oi := oCkS23) (v := undef) rfl (Or.inr ⟨by rfl, rfl⟩) (by assumption) ?_
        try simp only [Act.put, qqA, qqB, qqC]
        refine wtk (i := 24) (oi := oCkS24) (v := undef) rfl (Or.inr ⟨by rfl, rfl⟩) (by assumption) ?_
        try simp only [Act.put, qqA, qqB, qqC]
        refine wtk (i := 25) (oi := oCkS25) (v := undef) rfl (Or.inr ⟨by rfl, rfl⟩) (by assumption) ?_
        try simp only [Act.put, qqA, qqB, qqC]
        refine wtk (i := 26) (oi := oCkS26) (v := undef) rfl (Or.inr ⟨by rfl, rfl⟩) (by assumption) ?_
        try simp only [Act.put, qqA, qqB, qqC]
        refine wtk (i := 27) (oi := oCkS27) (v := undef) rfl (Or.inr ⟨by rfl, rfl⟩) (by assumption) ?_
        try simp only [Act.put, qqA, qqB, qqC]
        refine wtk (i := 28) (oi := oCkS28) (v := ?_) rfl (Or.inl ⟨by rfl, ?_⟩) (by assumption) ?_
        rotate_left 1
        · (intro w' hSw; (try dsimp only at hSw); go_simp; try with_reducible rfl)
        try simp only [Act.put, qqA, qqB, qqC]
        refine wtk (i := 29) (oi := oCkS29) (v := ?_) rfl (Or.inl ⟨by rfl, ?_⟩) (by assumption) ?_
        rotate_left 1
        · (intro w' hSw; (try dsimp only at hSw); go_simp; try with_reducible rfl)
        try simp only [Act.put, qqA, qqB, qqC]
        refine wpAnyH_done (by kernel_rfl) ?_ _
        go_wp2_with fail
        go_ret
        exact ⟨rfl, unhide B2⟩
      | true =>
        have HT : Hid (tokB id win nb = true) := by show _ = _; have := mir_num hQ.symm; rw [tok_num this.1 this.2]; exact hk.symm
        obtain ⟨S, hS⟩ : ∃ S, S = issT key id win nb := ⟨_, rfl⟩
        have HS := hide hS
        obtain rfl : R = (tok.toList == S.toList) := by rw [unhide HR, cl_yes (unhide HK6) hk.symm hQ.symm, eq_list, hS]
        clear hk hQ HR hS
        go_enter Tryz.func17, Tryz.ntmps17
        go_wp2_with fail
        refine wp_region_held_drew (S := (fun w' => ∀ o, w'.cell? ⟨w.heap.size, o, none⟩ = (#[.int .i64 id, .string win, .string tok, .int .i64 nb, .int .i64 vw, .int .i64 vh, .slice a n cap] : Array Value)[o]?)) (by kernel_rfl) (unhide Z0).S (fun hHeld => ?_)
        have B1 := hide ((unhide B0).drew)
        have Z1 := hide ((unhide Z0).drew)
        have R1 := hide ((unhide HRW).below (below_drewW _))
        clear B0 Z0 HRW
        generalize (w.alloc (.cells #[.int .i64 id, .string win, .string tok, .int .i64 nb, .int .i64 vw, .int .i64 vh, .slice a n cap] 34)).drew = w1 at B1 Z1 R1 hHeld ⊢
        refine wtk (i := 0) (oi := oCkS0) (v := ?_) rfl (Or.inl ⟨by rfl, ?_⟩) (by assumption) ?_
        rotate_left 1
        · (intro w' hSw; (try dsimp only at hSw); go_simp; try with_reducible rfl)
        try simp only [Act.put, qqA, qqB, qqC]
        refine wtk (i := 1) (oi := oCkS1) (v := ?_) rfl (Or.inl ⟨by rfl, ?_⟩) (by assumption) ?_
        rotate_left 1
        · (intro w' hSw; (try dsimp only at hSw); go_simp; try with_reducible rfl)
        try simp only [Act.put, qqA, qqB, qqC]
        refine wtk (i := 2) (oi := oCkS2) (v := ?_) rfl (Or.inl ⟨by rfl, ?_⟩) (by assumption) ?_
        rotate_left 1
        · (intro w' hSw; (try dsimp only at hSw); go_simp; try with_reducible rfl)
        try simp only [Act.put, qqA, qqB, qqC]
        refine wtk (i := 3) (oi := oCkS3) (v := ?_) rfl (Or.inl ⟨by rfl, ?_⟩) (by assumption) ?_
        rotate_left 1
        · (intro w' hSw; (try dsimp only at hSw); go_simp; try with_reducible rfl)
        try simp only [Act.put, qqA, qqB, qqC]
        refine wtk (i := 4) (oi := oCkS4) (v := ?_) rfl (Or.inl ⟨by rfl, ?_⟩) (by assumption) ?_
        rotate_left 1
        · (intro w' hSw; (try dsimp only at hSw); go_simp; try with_reducible rfl)
        try simp only [Act.put, qqA, qqB, qqC]
        refine wtk (i := 5) (oi := oCkS5) (v := ?_) rfl (Or.inl ⟨by rfl, ?_⟩) (by assumption) ?_
        rotate_left 1
        · (intro w' hSw; (try dsimp only at hSw); go_simp; try with_reducible rfl)
        try simp only [Act.put, qqA, qqB, qqC]
        refine wtk (i := 6) (oi := oCkS6) (v := ?_) rfl (Or.inl ⟨by rfl, ?_⟩) (by assumption) ?_
        rotate_left 1
        · (intro w' hSw; (try dsimp only at hSw); go_simp; try with_reducible rfl)
        try simp only [Act.put, qqA, qqB, qqC]
        refine wtk (i := 7) (oi := oCkS7) (v := ?_) rfl (Or.inl ⟨by rfl, ?_⟩) (by assumption) ?_
        rotate_left 1
        · (intro w' hSw; (try dsimp only at hSw); go_simp; try with_reducible rfl)
        try simp only [Act.put, qqA, qqB, qqC]
        refine wpAnyH_ready (rs := [8]) (by kernel_rfl) (by simp) ?_
        refine AllReadyH.cons (o := oCkS8) rfl (fun K hK => ?_) AllReadyH.nil
        go_simp
        refine (sask id win 0 HWS true HKB _).mono ?_
        rintro e w2 ⟨rfl, hw⟩
        subst w2
        go_wp2_with fail
        refine hK.out _ _ ?_ (fun hHeld8 => ?_)
        · exact (unhide Z1).S
        clear hK K
        try simp only [Act.put, qqA, qqB, qqC]
        refine wtk (i := 9) (oi := oCkS9) (v := ?_) rfl (Or.inl ⟨by rfl, ?_⟩) (by assumption) ?_
        rotate_left 1
        · (intro w' hSw; (try dsimp only at hSw); go_simp; try with_reducible rfl)
        try simp only [Act.put, qqA, qqB, qqC]
        refine wtk (i := 10) (oi := oCkS10) (v := ?_) rfl (Or.inl ⟨by rfl, ?_⟩) (by assumption) ?_
        rotate_left 1
        · (intro w' hSw; (try dsimp only at hSw); go_simp; try with_reducible rfl)
        try simp only [Act.put, qqA, qqB, qqC]
        refine wtk (i := 11) (oi := oCkS11) (v := ?_) rfl (Or.inl ⟨by rfl, ?_⟩) (by assumption) ?_
        rotate_left 1
        · (intro w' hSw; (try dsimp only at hSw); go_simp; try with_reducible rfl)
        try simp only [Act.put, qqA, qqB, qqC]
        refine wtk (i := 12) (oi := oCkS12) (v := ?_) rfl (Or.inl ⟨by rfl, ?_⟩) (by assumption) ?_
        rotate_left 1
        · (intro w' hSw; (try dsimp only at hSw); go_simp; try with_reducible rfl)
        try simp only [Act.put, qqA, qqB, qqC]
        refine wpAnyH_ready (rs := [13]) (by kernel_rfl) (by simp) ?_
        refine AllReadyH.cons (o := oCkS13) rfl (fun K hK => ?_) AllReadyH.nil
        go_simp
        refine (smirok nb vw vh a cap n l HN (unhide HNI) HSZ true HQ _ (unhide R1)).mono ?_
        rintro e w2 ⟨rfl, hb2⟩
        have B2 := hide ((unhide B1).trans (hb2.mono (unhide B1).size))
        have Z2 := hide ((unhide Z1).below hb2)
        clear hb2 B1 Z1 R1
        go_wp2_with fail
        refine hK.out _ _ ?_ (fun hHeld13 => ?_)
        · exact (unhide Z2).S
        clear hK K
        try simp only [Act.put, qqA, qqB, qqC]
        refine wtk (i := 14) (oi := oCkS14) (v := ?_) rfl (Or.inl ⟨by rfl, ?_⟩) (by assumption) ?_
        rotate_left 1
        · (intro w' hSw; (try dsimp only at hSw); go_simp; try with_reducible rfl)
        try simp only [Act.put, qqA, qqB, qqC]
        refine wtk (i := 15) (oi := oCkS15) (v := ?_) rfl (Or.inl ⟨by rfl, ?_⟩) (by assumption) ?_
        rotate_left 1
        · (intro w' hSw; (try dsimp only at hSw); go_simp; try with_reducible rfl)
        try simp only [Act.put, qqA, qqB, qqC]
        refine wtk (i := 16) (oi := oCkS16) (v := ?_) rfl (Or.inl ⟨by rfl, ?_⟩) (by assumption) ?_
        rotate_left 1
        · (intro w' hSw; (try dsimp only at hSw); go_simp; try with_reducible rfl)
        try simp only [Act.put, qqA, qqB, qqC]
        refine wtk (i := 17) (oi := oCkS17) (v := ?_) rfl (Or.inl ⟨by rfl, ?_⟩) (by assumption) ?_
        rotate_left 1
        · (intro w' hSw; (try dsimp only at hSw); go_simp; try with_reducible rfl)
        try simp only [Act.put, qqA, qqB, qqC]
        refine wtk (i := 18) (oi := oCkS18) (v := ?_) rfl (Or.inl ⟨by rfl, ?_⟩) (by assumption) ?_
        rotate_left 1
        · (intro w' hSw; (try dsimp only at hSw); go_simp; try with_reducible rfl)
        try simp only [Act.put, qqA, qqB, qqC]
        refine wtk (i := 19) (oi := oCkS19) (v := ?_) rfl (Or.inl ⟨by rfl, ?_⟩) (by assumption) ?_
        rotate_left 1
        · (intro w' hSw; (try dsimp only at hSw); go_simp; try with_reducible rfl)
        try simp only [Act.put, qqA, qqB, qqC]
        refine wtk (i := 20) (oi := oCkS20) (v := ?_) rfl (Or.inl ⟨by rfl, ?_⟩) (by assumption) ?_
        rotate_left 1
        · (intro w' hSw; (try dsimp only at hSw); go_simp; try with_reducible rfl)
        try simp only [Act.put, qqA, qqB, qqC]
        refine wtk (i := 21) (oi := oCkS21) (v := ?_) rfl (Or.inl ⟨by rfl, ?_⟩) (by assumption) ?_
        rotate_left 1
        · (intro w' hSw; (try dsimp only at hSw); go_simp; try with_reducible rfl)
        try simp only [Act.put, qqA, qqB, qqC]
        refine wtk (i := 22) (oi := oCkS22) (v := ?_) rfl (Or.inl ⟨by rfl, ?_⟩) (by assumption) ?_
        rotate_left 1
        · (intro w' hSw; (try dsimp only at hSw); go_simp; try with_reducible rfl)
        try simp only [Act.put, qqA, qqB, qqC]
        refine wtk (i := 23) (oi := oCkS23) (v := ?_) rfl (Or.inl ⟨by rfl, ?_⟩) (by assumption) ?_
        rotate_left 1
        · (intro w' hSw; (try dsimp only at hSw); go_simp; try with_reducible rfl)
        try simp only [Act.put, qqA, qqB, qqC]
        refine wtk (i := 24) (oi := oCkS24) (v := ?_) rfl (Or.inl ⟨by rfl, ?_⟩) (by assumption) ?_
        rotate_left 1
        · (intro w' hSw; (try dsimp only at hSw); go_simp; try with_reducible rfl)
        try simp only [Act.put, qqA, qqB, qqC]
        refine wtk (i := 25) (oi := oCkS25) (v := ?_) rfl (Or.inl ⟨by rfl, ?_⟩) (by assumption) ?_
        rotate_left 1
        · (intro w' hSw; (try dsimp only at hSw); go_simp; try with_reducible rfl)
        try simp only [Act.put, qqA, qqB, qqC]
        refine wpAnyH_ready (rs := [26]) (by kernel_rfl) (by simp) ?_
        refine AllReadyH.cons (o := oCkS26) rfl (fun K hK => ?_) AllReadyH.nil
        go_simp
        refine (sissue id win nb HT key HK6 S HS _).mono ?_
        rintro e w3 ⟨rfl, hb3⟩
        have B3 := hide ((unhide B2).trans (hb3.mono (unhide B2).size))
        have Z3 := hide ((unhide Z2).below hb3)
        clear hb3 B2 Z2
        go_wp2_with fail
        refine hK.out _ _ ?_ (fun hHeld26 => ?_)
        · exact (unhide Z3).S
        clear hK K
        try simp only [Act.put, qqA, qqB, qqC]
        refine wtk (i := 27) (oi := oCkS27) (v := ?_) rfl (Or.inl ⟨by rfl, ?_⟩) (by assumption) ?_
        rotate_left 1
        · (intro w' hSw; (try dsimp only at hSw); go_simp; try with_reducible rfl)
        try simp only [Act.put, qqA, qqB, qqC]
        refine wtk (i := 28) (oi := oCkS28) (v := ?_) rfl (Or.inl ⟨by rfl, ?_⟩) (by assumption) ?_
        rotate_left 1
        · (intro w' hSw; (try dsimp only at hSw); go_simp; try with_reducible rfl)
        try simp only [Act.put, qqA, qqB, qqC]
        refine wtk (i := 29) (oi := oCkS29) (v := ?_) rfl (Or.inl ⟨by rfl, ?_⟩) (by assumption) ?_
        rotate_left 1
        · (intro w' hSw; (try dsimp only at hSw); go_simp; try with_reducible rfl)
        try simp only [Act.put, qqA, qqB, qqC]
        refine wpAnyH_done (by kernel_rfl) ?_ _
        go_wp2_with fail
        go_ret
        exact ⟨rfl, unhide B3⟩
end Go.Proofs.YtmmnoepcklfonaaGreatDoor
