/- Which messages are right: what the specification answers. -/
import Derived.Test.YtfogppnijdjakaaGreatDoorZG9
import Derived.Test.YtfogppnijdjakaaGreatDoorZSteS
namespace Go.Proofs.YtfogppnijdjakaaGreatDoor
open Go.ChangeShapes Go.WideShapes Go.ChangeAt Go.RowKit
set_option linter.unusedVariables false
abbrev oMsgS0 : Oper := { dst := some 59, op := .fieldAddr 82 (.tmp 1) 8, type := 0, pos := "l08_raft.go:194", after := #[], guard := none }
abbrev oMsgS1 : Oper := { dst := some 60, op := .load 69 (.tmp 59), type := 69, pos := "l08_raft.go:194", after := #[{ on := 0, ground := .data }], guard := none }
abbrev oMsgS2 : Oper := { dst := some 61, op := .call { callee := .builtin Go.Builtin.len, args := #[.tmp 60], argTypes := #[69] }, type := 3, pos := "l08_raft.go:194", after := #[{ on := 1, ground := .data }], guard := none }
abbrev oMsgS3 : Oper := { dst := some 62, op := .fieldAddr 82 (.tmp 1) 4, type := 0, pos := "l08_raft.go:194", after := #[], guard := none }
abbrev oMsgS4 : Oper := { dst := some 63, op := .load 3 (.tmp 62), type := 3, pos := "l08_raft.go:194", after := #[{ on := 3, ground := .data }], guard := none }
abbrev oMsgS5 : Oper := { dst := some 64, op := .binOp .sub 3 (.const (.int .i64 60)) (.tmp 63) 3, type := 3, pos := "l08_raft.go:194", after := #[{ on := 4, ground := .data }], guard := none }
abbrev oMsgS6 : Oper := { dst := some 65, op := .binOp .leq 3 (.tmp 61) (.tmp 64) 3, type := 4, pos := "l08_raft.go:194", after := #[{ on := 2, ground := .data }, { on := 5, ground := .data }], guard := none }
abbrev oMsgS7 : Oper := { dst := some 66, op := .move (.tmp 65), type := 4, pos := "l08_raft.go:194", after := #[{ on := 6, ground := .data }], guard := none }
abbrev oMsgS8 : Oper := { dst := some 67, op := .fieldAddr 82 (.tmp 1) 3, type := 0, pos := "l08_raft.go:194", after := #[{ on := 7, ground := .guard }], guard := some (7, true) }
abbrev oMsgS9 : Oper := { dst := some 68, op := .load 3 (.tmp 67), type := 3, pos := "l08_raft.go:194", after := #[{ on := 8, ground := .data }, { on := 7, ground := .guard }], guard := some (7, true) }
abbrev oMsgS10 : Oper := { dst := some 69, op := .fieldAddr 82 (.tmp 1) 8, type := 0, pos := "l08_raft.go:194", after := #[{ on := 7, ground := .guard }], guard := some (7, true) }
abbrev oMsgS11 : Oper := { dst := some 70, op := .load 69 (.tmp 69), type := 69, pos := "l08_raft.go:194", after := #[{ on := 10, ground := .data }, { on := 7, ground := .guard }], guard := some (7, true) }
abbrev oMsgS12 : Oper := { dst := some 71, op := .build 76 #[(0, .tmp 68), (2, .tmp 70)], type := 76, pos := "l08_raft.go:194", after := #[{ on := 9, ground := .data }, { on := 11, ground := .data }, { on := 7, ground := .guard }], guard := some (7, true) }
abbrev oMsgS13 : Oper := { dst := some 72, op := .call { callee := .value (.func 57), args := #[.tmp 71], argTypes := #[76] }, type := 4, pos := "l08_raft.go:194", after := #[{ on := 12, ground := .data }, { on := 7, ground := .chain }, { on := 7, ground := .guard }], guard := some (7, true) }
abbrev oMsgS14 : Oper := { dst := some 73, op := .pick (.tmp 66) (.tmp 72) (.const (.bool false)), type := 4, pos := "l08_raft.go:194", after := #[{ on := 7, ground := .data }, { on := 13, ground := .data }], guard := none }
abbrev oMsgS15 : Oper := { dst := some 74, op := .move (.tmp 73), type := 4, pos := "l08_raft.go:194", after := #[{ on := 14, ground := .data }, { on := 13, ground := .chain }], guard := none }
abbrev oMsgS16 : Oper := { dst := some 75, op := .fieldAddr 82 (.tmp 1) 8, type := 0, pos := "l08_raft.go:194", after := #[{ on := 15, ground := .guard }], guard := some (15, true) }
abbrev oMsgS17 : Oper := { dst := some 76, op := .load 69 (.tmp 75), type := 69, pos := "l08_raft.go:194", after := #[{ on := 16, ground := .data }, { on := 15, ground := .guard }], guard := some (15, true) }
abbrev oMsgS18 : Oper := { dst := some 77, op := .call { callee := .builtin Go.Builtin.len, args := #[.tmp 76], argTypes := #[69] }, type := 3, pos := "l08_raft.go:194", after := #[{ on := 17, ground := .data }, { on := 15, ground := .guard }], guard := some (15, true) }
abbrev oMsgS19 : Oper := { dst := some 78, op := .binOp .eql 3 (.tmp 77) (.const (.int .i64 0)) 3, type := 4, pos := "l08_raft.go:194", after := #[{ on := 18, ground := .data }, { on := 15, ground := .guard }], guard := some (15, true) }
abbrev oMsgS20 : Oper := { dst := some 79, op := .move (.tmp 78), type := 4, pos := "l08_raft.go:194", after := #[{ on := 19, ground := .data }, { on := 15, ground := .chain }, { on := 15, ground := .guard }], guard := some (15, true) }
abbrev oMsgS21 : Oper := { dst := some 80, op := .fieldAddr 82 (.tmp 1) 8, type := 0, pos := "l08_raft.go:194", after := #[{ on := 20, ground := .guard }], guard := some (20, false) }
abbrev oMsgS22 : Oper := { dst := some 81, op := .load 69 (.tmp 80), type := 69, pos := "l08_raft.go:194", after := #[{ on := 21, ground := .data }, { on := 20, ground := .guard }], guard := some (20, false) }
abbrev oMsgS23 : Oper := { dst := some 82, op := .indexAddr 69 (.tmp 81) (.const (.int .i64 0)), type := 0, pos := "l08_raft.go:194", after := #[{ on := 22, ground := .data }, { on := 20, ground := .guard }], guard := some (20, false) }
abbrev oMsgS24 : Oper := { dst := some 83, op := .fieldAddr 103 (.tmp 82) 0, type := 0, pos := "l08_raft.go:194", after := #[{ on := 23, ground := .data }, { on := 20, ground := .guard }], guard := some (20, false) }
abbrev oMsgS25 : Oper := { dst := some 84, op := .load 3 (.tmp 83), type := 3, pos := "l08_raft.go:194", after := #[{ on := 24, ground := .data }, { on := 20, ground := .guard }], guard := some (20, false) }
abbrev oMsgS26 : Oper := { dst := some 85, op := .fieldAddr 82 (.tmp 1) 5, type := 0, pos := "l08_raft.go:194", after := #[{ on := 20, ground := .guard }], guard := some (20, false) }
abbrev oMsgS27 : Oper := { dst := some 86, op := .load 3 (.tmp 85), type := 3, pos := "l08_raft.go:194", after := #[{ on := 26, ground := .data }, { on := 20, ground := .guard }], guard := some (20, false) }
abbrev oMsgS28 : Oper := { dst := some 87, op := .binOp .geq 3 (.tmp 84) (.tmp 86) 3, type := 4, pos := "l08_raft.go:194", after := #[{ on := 25, ground := .data }, { on := 27, ground := .data }, { on := 20, ground := .guard }], guard := some (20, false) }
abbrev oMsgS29 : Oper := { dst := some 88, op := .pick (.tmp 79) (.const (.bool true)) (.tmp 87), type := 4, pos := "l08_raft.go:194", after := #[{ on := 20, ground := .data }, { on := 28, ground := .data }, { on := 15, ground := .guard }], guard := some (15, true) }
abbrev oMsgS30 : Oper := { dst := some 89, op := .pick (.tmp 74) (.tmp 88) (.const (.bool false)), type := 4, pos := "l08_raft.go:194", after := #[{ on := 15, ground := .data }, { on := 29, ground := .data }], guard := none }
abbrev oMsgS31 : Oper := { dst := some 90, op := .move (.tmp 89), type := 4, pos := "l08_raft.go:194", after := #[{ on := 30, ground := .data }, { on := 20, ground := .chain }], guard := none }
abbrev oMsgS32 : Oper := { dst := some 91, op := .fieldAddr 82 (.tmp 1) 4, type := 0, pos := "l08_raft.go:194", after := #[{ on := 31, ground := .guard }], guard := some (31, true) }
abbrev oMsgS33 : Oper := { dst := some 92, op := .load 3 (.tmp 91), type := 3, pos := "l08_raft.go:194", after := #[{ on := 32, ground := .data }, { on := 31, ground := .guard }], guard := some (31, true) }
abbrev oMsgS34 : Oper := { dst := some 93, op := .binOp .gtr 3 (.tmp 92) (.const (.int .i64 0)) 3, type := 4, pos := "l08_raft.go:194", after := #[{ on := 33, ground := .data }, { on := 31, ground := .guard }], guard := some (31, true) }
abbrev oMsgS35 : Oper := { dst := some 94, op := .move (.tmp 93), type := 4, pos := "l08_raft.go:194", after := #[{ on := 34, ground := .data }, { on := 31, ground := .chain }, { on := 31, ground := .guard }], guard := some (31, true) }
abbrev oMsgS36 : Oper := { dst := some 95, op := .fieldAddr 82 (.tmp 1) 5, type := 0, pos := "l08_raft.go:194", after := #[{ on := 35, ground := .guard }], guard := some (35, false) }
abbrev oMsgS37 : Oper := { dst := some 96, op := .load 3 (.tmp 95), type := 3, pos := "l08_raft.go:194", after := #[{ on := 36, ground := .data }, { on := 35, ground := .guard }], guard := some (35, false) }
abbrev oMsgS38 : Oper := { dst := some 97, op := .binOp .eql 3 (.tmp 96) (.const (.int .i64 0)) 3, type := 4, pos := "l08_raft.go:194", after := #[{ on := 37, ground := .data }, { on := 35, ground := .guard }], guard := some (35, false) }
abbrev oMsgS39 : Oper := { dst := some 98, op := .pick (.tmp 94) (.const (.bool true)) (.tmp 97), type := 4, pos := "l08_raft.go:194", after := #[{ on := 35, ground := .data }, { on := 38, ground := .data }, { on := 31, ground := .guard }], guard := some (31, true) }
abbrev oMsgS40 : Oper := { dst := some 99, op := .pick (.tmp 90) (.tmp 98) (.const (.bool false)), type := 4, pos := "l08_raft.go:194", after := #[{ on := 31, ground := .data }, { on := 39, ground := .data }], guard := none }
abbrev oMsgS41 : Oper := { dst := some 2, op := .assign (.tmp 99), type := 4, pos := "l08_raft.go:194", after := #[{ on := 40, ground := .data }, { on := 35, ground := .chain }, { on := 0, ground := .phase }, { on := 1, ground := .phase }, { on := 2, ground := .phase }, { on := 3, ground := .phase }, { on := 4, ground := .phase }, { on := 5, ground := .phase }, { on := 6, ground := .phase }, { on := 7, ground := .phase }, { on := 8, ground := .phase }, { on := 9, ground := .phase }, { on := 10, ground := .phase }, { on := 11, ground := .phase }, { on := 12, ground := .phase }, { on := 13, ground := .phase }, { on := 14, ground := .phase }, { on := 15, ground := .phase }, { on := 16, ground := .phase }, { on := 17, ground := .phase }, { on := 18, ground := .phase }, { on := 19, ground := .phase }, { on := 20, ground := .phase }, { on := 21, ground := .phase }, { on := 22, ground := .phase }, { on := 23, ground := .phase }, { on := 24, ground := .phase }, { on := 25, ground := .phase }, { on := 26, ground := .phase }, { on := 27, ground := .phase }, { on := 28, ground := .phase }, { on := 29, ground := .phase }, { on := 30, ground := .phase }, { on := 31, ground := .phase }, { on := 32, ground := .phase }, { on := 33, ground := .phase }, { on := 34, ground := .phase }, { on := 35, ground := .phase }, { on := 36, ground := .phase }, { on := 37, ground := .phase }, { on := 38, ground := .phase }, { on := 39, ground := .phase }, { on := 40, ground := .phase }], guard := none }
set_option maxHeartbeats 2000000 in
set_option maxRecDepth 100000 in
theorem smsgok (kd fr dst tm ix lt cm : Int) (ok : Bool) (a : Option Addr) (cap n : Nat) (l : List (Int × ByteArray)) (HN : Hid (l.length = n)) (hn : n ≤ 1048576) (HSZ : Hid (∀ k (h : k < l.length), l[k].2.size ≤ 1048576)) (R : Bool) (HR : Hid (R = msgB kd fr dst tm ix lt cm l)) (w : World) (hr : RowV w a (cE l)) :
  Calls Tryz.prog 41 #[.agg #[.int .i64 kd, .int .i64 fr, .int .i64 dst, .int .i64 tm, .int .i64 ix, .int .i64 lt, .int .i64 cm, .bool ok, .slice a n cap]] w fun e w' => e = .returned (.bool R) ∧ Below w.heap.size w w' := by
 have B0 := hide (Go.Joins.below_alloc1 w (.cells #[.int .i64 kd, .int .i64 fr, .int .i64 dst, .int .i64 tm, .int .i64 ix, .int .i64 lt, .int .i64 cm, .bool ok, .slice a n cap] 82))
 have A0 := hide (BF.new w #[.int .i64 kd, .int .i64 fr, .int .i64 dst, .int .i64 tm, .int .i64 ix, .int .i64 lt, .int .i64 cm, .bool ok, .slice a n cap] 82)
 have HRW := hide hr
 have HCL := hide (cE_len l)
 clear hr
 go_enter Tryz.func41, Tryz.ntmps41
 cases h_kd : inB kd 1 4 with
 | false =>
  have hR : R = false := by rw [unhide HR]; unfold msgB; rw [h_kd]; simp
  go_wp2_with fail
  refine (sin kd 1 4 _).mono ?_
  rintro e w1 ⟨rfl, rfl⟩
  rw [h_kd]
  subst hR
  go_wp2_with fail
  go_ret
  exact ⟨rfl, unhide B0⟩
 | true =>
  go_wp2_with fail
  refine (sin kd 1 4 _).mono ?_
  rintro e w1 ⟨rfl, rfl⟩
  rw [h_kd]
  have HR_kd := hide h_kd.symm
  clear h_kd
  cases h_fr : inB fr 0 4 with
  | false =>
   have hR : R = false := by rw [unhide HR]; unfold msgB; rw [h_fr]; simp
   go_wp2_with fail
   refine (sin fr 0 4 _).mono ?_
   rintro e w1 ⟨rfl, rfl⟩
   rw [h_fr]
   subst hR
   go_wp2_with fail
   go_ret
   exact ⟨rfl, unhide B0⟩
  | true =>
   go_wp2_with fail
   refine (sin fr 0 4 _).mono ?_
   rintro e w1 ⟨rfl, rfl⟩
   rw [h_fr]
   have HR_fr := hide h_fr.symm
   clear h_fr
   cases h_dst : inB dst 0 4 with
   | false =>
    have hR : R = false := by rw [unhide HR]; unfold msgB; rw [h_dst]; simp
    go_wp2_with fail
    refine (sin dst 0 4 _).mono ?_
    rintro e w1 ⟨rfl, rfl⟩
    rw [h_dst]
    subst hR
    go_wp2_with fail
    go_ret
    exact ⟨rfl, unhide B0⟩
   | true =>
    go_wp2_with fail
    refine (sin dst 0 4 _).mono ?_
    rintro e w1 ⟨rfl, rfl⟩
    rw [h_dst]
    have HR_dst := hide h_dst.symm
    clear h_dst
    by_cases hne : fr = dst
    ·have hR : R = false := by rw [unhide HR]; unfold msgB; simp [hne]
     subst hne
     have nn : (fr != fr) = false := by simp
     subst hR
     go_wp2_with fail
     go_ret
     exact ⟨rfl, unhide B0⟩
    have nn : (fr != dst) = true := by simpa using hne
    have ne2 : (fr == dst) = false := by simpa using hne
    have hne2 := hide hne
    clear hne
    cases h_tm : inB tm 1 1000 with
    | false =>
     have hR : R = false := by rw [unhide HR]; unfold msgB; rw [h_tm]; simp
     go_wp2_with fail
     refine (sin tm 1 1000 _).mono ?_
     rintro e w1 ⟨rfl, rfl⟩
     rw [h_tm]
     subst hR
     go_wp2_with fail
     go_ret
     exact ⟨rfl, unhide B0⟩
    | true =>
     go_wp2_with fail
     refine (sin tm 1 1000 _).mono ?_
     rintro e w1 ⟨rfl, rfl⟩
     rw [h_tm]
     have HR_tm := hide h_tm.symm
     clear h_tm
     cases h_ix : inB ix 0 60 with
     | false =>
      have hR : R = false := by rw [unhide HR]; unfold msgB; rw [h_ix]; simp
      go_wp2_with fail
      refine (sin ix 0 60 _).mono ?_
      rintro e w1 ⟨rfl, rfl⟩
      rw [h_ix]
      subst hR
      go_wp2_with fail
      go_ret
      exact ⟨rfl, unhide B0⟩
     | true =>
      go_wp2_with fail
      refine (sin ix 0 60 _).mono ?_
      rintro e w1 ⟨rfl, rfl⟩
      rw [h_ix]
      have HR_ix := hide h_ix.symm
      clear h_ix
      cases h_lt : inB lt 0 tm with
      | false =>
       have hR : R = false := by rw [unhide HR]; unfold msgB; rw [h_lt]; simp
       go_wp2_with fail
       refine (sin lt 0 tm _).mono ?_
       rintro e w1 ⟨rfl, rfl⟩
       rw [h_lt]
       subst hR
       go_wp2_with fail
       go_ret
       exact ⟨rfl, unhide B0⟩
      | true =>
       go_wp2_with fail
       refine (sin lt 0 tm _).mono ?_
       rintro e w1 ⟨rfl, rfl⟩
       rw [h_lt]
       have HR_lt := hide h_lt.symm
       clear h_lt
       cases h_cm : inB cm 0 60 with
       | false =>
        have hR : R = false := by rw [unhide HR]; unfold msgB; rw [h_cm]; simp
        go_wp2_with fail
        refine (sin cm 0 60 _).mono ?_
        rintro e w1 ⟨rfl, rfl⟩
        rw [h_cm]
        subst hR
        go_wp2_with fail
        go_ret
        exact ⟨rfl, unhide B0⟩
       | true =>
        go_wp2_with fail
        refine (sin cm 0 60 _).mono ?_
        rintro e w1 ⟨rfl, rfl⟩
        rw [h_cm]
        have HR_cm := hide h_cm.symm
        clear h_cm
        have HE0 : R = entsB kd tm ix lt l := by rw [unhide HR]; unfold msgB; rw [← unhide HR_kd, ← unhide HR_fr, ← unhide HR_dst, ← unhide HR_tm, ← unhide HR_ix, ← unhide HR_cm, ← unhide HR_lt]; simp [unhide hne2]
        have hi : 0 ≤ ix ∧ ix ≤ 60 := by have := unhide HR_ix; unfold inB at this; simpa using this
        obtain ⟨i0, i1⟩ := hi
        clear HR
        by_cases hk : kd = 3
        ·subst hk
         rw [ents_app, unhide HN, ← stateB_vote] at HE0
         have HE := hide HE0
         clear HE0
         have e1 : IntKind.i64.wrap (60 - ix) = 60 - ix := wrapi _ (by omega) (by omega)
         obtain ⟨RS, hRS⟩ : ∃ RS, RS = stateB tm 0 l := ⟨_, rfl⟩
         rw [← hRS] at HE
         have HRS := hide hRS
         clear hRS
         have k1 := And.intro (unhide A0).S trivial
         by_cases h6 : (n : Int) ≤ 60 - ix
         ·have d6 : decide ((n : Int) ≤ 60 - ix) = true := decide_eq_true h6
          rw [decide_eq_true (show ix + (n : Int) ≤ 60 by omega), Bool.and_true] at HE
          clear h6
          cases RS with
          | false =>
           obtain rfl : R = false := by simpa using unhide HE
           clear HE
           go_wp2_with fail
           refine wp_region_held_drew (S := fun w' => (∀ o, w'.cell? ⟨w.heap.size, o, none⟩ = (#[.int .i64 3, .int .i64 fr, .int .i64 dst, .int .i64 tm, .int .i64 ix, .int .i64 lt, .int .i64 cm, .bool ok, .slice a n cap] : Array Value)[o]?) ∧ True) (by kernel_rfl) k1 (fun hHeld => ?_)
           refine wtv 0 (oi := oMsgS0) ?_
           refine wtv 1 (oi := oMsgS1) ?_
           refine wtv 2 (oi := oMsgS2) ?_
           refine wtv 3 (oi := oMsgS3) ?_
           refine wtv 4 (oi := oMsgS4) ?_
           refine wtv 5 (oi := oMsgS5) ?_
           refine wtv 6 (oi := oMsgS6) ?_
           refine wtv 7 (oi := oMsgS7) ?_
           refine wtv 8 (oi := oMsgS8) ?_
           refine wtv 9 (oi := oMsgS9) ?_
           refine wtv 10 (oi := oMsgS10) ?_
           refine wtv 11 (oi := oMsgS11) ?_
           refine wtv 12 (oi := oMsgS12) ?_
           refine wpAnyH_ready (rs := [13]) (by kernel_rfl) (by simp) ?_
           refine AllReadyH.cons (o := oMsgS13) rfl (fun K hK => ?_) AllReadyH.nil
           go_simp
           refine (sstateok tm 0 _ cap n l HN hn HSZ _ HRS _ ((unhide HRW).below (unhide B0).drew)).mono ?_
           rintro e w2 ⟨rfl, hb2⟩
           have k2 : (∀ o, w2.cell? ⟨w.heap.size, o, none⟩ = (#[.int .i64 3, .int .i64 fr, .int .i64 dst, .int .i64 tm, .int .i64 ix, .int .i64 lt, .int .i64 cm, .bool ok, .slice a n cap] : Array Value)[o]?) ∧ True := by
            have h := below_undrew hb2
            exact ⟨fun o => (h.cell (p := ⟨w.heap.size, o, none⟩) (unhide A0).lt).trans (k1.1 o), trivial⟩
           have B2 := hide ((unhide B0).trans ((below_undrew hb2).mono (unhide B0).size))
           clear hb2
           go_wp2_with fail
           refine hK.out _ _ ?_ (fun hHeld13 => ?_)
           ·exact k2
           clear hK K
           try simp only [Act.put, qqA, qqB, qqC]
           refine wtv 14 (oi := oMsgS14) ?_
           refine wtv 15 (oi := oMsgS15) ?_
           refine wtu 16 (oi := oMsgS16) ?_
           refine wtu 17 (oi := oMsgS17) ?_
           refine wtu 18 (oi := oMsgS18) ?_
           refine wtu 19 (oi := oMsgS19) ?_
           refine wtu 20 (oi := oMsgS20) ?_
           refine wtu 21 (oi := oMsgS21) ?_
           refine wtu 22 (oi := oMsgS22) ?_
           refine wtu 23 (oi := oMsgS23) ?_
           refine wtu 24 (oi := oMsgS24) ?_
           refine wtu 25 (oi := oMsgS25) ?_
           refine wtu 26 (oi := oMsgS26) ?_
           refine wtu 27 (oi := oMsgS27) ?_
           refine wtu 28 (oi := oMsgS28) ?_
           refine wtu 29 (oi := oMsgS29) ?_
           refine wtv 30 (oi := oMsgS30) ?_
           refine wtv 31 (oi := oMsgS31) ?_
           refine wtu 32 (oi := oMsgS32) ?_
           refine wtu 33 (oi := oMsgS33) ?_
           refine wtu 34 (oi := oMsgS34) ?_
           refine wtu 35 (oi := oMsgS35) ?_
           refine wtu 36 (oi := oMsgS36) ?_
           refine wtu 37 (oi := oMsgS37) ?_
           refine wtu 38 (oi := oMsgS38) ?_
           refine wtu 39 (oi := oMsgS39) ?_
           refine wtv 40 (oi := oMsgS40) ?_
           refine wtv 41 (oi := oMsgS41) ?_
           refine wpAnyH_done (by kernel_rfl) ?_ _
           clear k1 k2
           go_wp2_with fail
           go_ret
           exact ⟨rfl, unhide B2⟩
          | true =>
           rw [Bool.and_true] at HE
           by_cases hx : 0 < ix
           ·have dx : decide (0 < ix) = true := decide_eq_true hx
            by_cases hn0 : n = 0
            ·have z1 : ((n : Int) == 0) = true := by simpa using hn0
             have hfn : firstB lt l = true := firstB_nil (by rw [unhide HN]; exact hn0)
             have HF := hide hfn
             clear hn0 hfn
             have lz : R = true := by rw [unhide HE, unhide HF, show decide (ix ≠ 0) = true from (decide_eq_true (show ix ≠ 0 by omega))]; simp
             subst lz
             clear HE
             go_wp2_with fail
             refine wp_region_held_drew (S := fun w' => (∀ o, w'.cell? ⟨w.heap.size, o, none⟩ = (#[.int .i64 3, .int .i64 fr, .int .i64 dst, .int .i64 tm, .int .i64 ix, .int .i64 lt, .int .i64 cm, .bool ok, .slice a n cap] : Array Value)[o]?) ∧ True) (by kernel_rfl) k1 (fun hHeld => ?_)
             refine wtv 0 (oi := oMsgS0) ?_
             refine wtv 1 (oi := oMsgS1) ?_
             refine wtv 2 (oi := oMsgS2) ?_
             refine wtv 3 (oi := oMsgS3) ?_
             refine wtv 4 (oi := oMsgS4) ?_
             refine wtv 5 (oi := oMsgS5) ?_
             refine wtv 6 (oi := oMsgS6) ?_
             refine wtv 7 (oi := oMsgS7) ?_
             refine wtv 8 (oi := oMsgS8) ?_
             refine wtv 9 (oi := oMsgS9) ?_
             refine wtv 10 (oi := oMsgS10) ?_
             refine wtv 11 (oi := oMsgS11) ?_
             refine wtv 12 (oi := oMsgS12) ?_
             refine wpAnyH_ready (rs := [13]) (by kernel_rfl) (by simp) ?_
             refine AllReadyH.cons (o := oMsgS13) rfl (fun K hK => ?_) AllReadyH.nil
             go_simp
             refine (sstateok tm 0 _ cap n l HN hn HSZ _ HRS _ ((unhide HRW).below (unhide B0).drew)).mono ?_
             rintro e w2 ⟨rfl, hb2⟩
             have k2 : (∀ o, w2.cell? ⟨w.heap.size, o, none⟩ = (#[.int .i64 3, .int .i64 fr, .int .i64 dst, .int .i64 tm, .int .i64 ix, .int .i64 lt, .int .i64 cm, .bool ok, .slice a n cap] : Array Value)[o]?) ∧ True := by
              have h := below_undrew hb2
              exact ⟨fun o => (h.cell (p := ⟨w.heap.size, o, none⟩) (unhide A0).lt).trans (k1.1 o), trivial⟩
             have B2 := hide ((unhide B0).trans ((below_undrew hb2).mono (unhide B0).size))
             clear hb2
             go_wp2_with fail
             refine hK.out _ _ ?_ (fun hHeld13 => ?_)
             ·exact k2
             clear hK K
             try simp only [Act.put, qqA, qqB, qqC]
             refine wtv 14 (oi := oMsgS14) ?_
             refine wtv 15 (oi := oMsgS15) ?_
             refine wtv 16 (oi := oMsgS16) ?_
             refine wtv 17 (oi := oMsgS17) ?_
             refine wtv 18 (oi := oMsgS18) ?_
             refine wtv 19 (oi := oMsgS19) ?_
             refine wtv 20 (oi := oMsgS20) ?_
             refine wtu 21 (oi := oMsgS21) ?_
             refine wtu 22 (oi := oMsgS22) ?_
             refine wtu 23 (oi := oMsgS23) ?_
             refine wtu 24 (oi := oMsgS24) ?_
             refine wtu 25 (oi := oMsgS25) ?_
             refine wtu 26 (oi := oMsgS26) ?_
             refine wtu 27 (oi := oMsgS27) ?_
             refine wtu 28 (oi := oMsgS28) ?_
             refine wtv 29 (oi := oMsgS29) ?_
             refine wtv 30 (oi := oMsgS30) ?_
             refine wtv 31 (oi := oMsgS31) ?_
             refine wtv 32 (oi := oMsgS32) ?_
             refine wtv 33 (oi := oMsgS33) ?_
             refine wtv 34 (oi := oMsgS34) ?_
             refine wtv 35 (oi := oMsgS35) ?_
             refine wtu 36 (oi := oMsgS36) ?_
             refine wtu 37 (oi := oMsgS37) ?_
             refine wtu 38 (oi := oMsgS38) ?_
             refine wtv 39 (oi := oMsgS39) ?_
             refine wtv 40 (oi := oMsgS40) ?_
             refine wtv 41 (oi := oMsgS41) ?_
             refine wpAnyH_done (by kernel_rfl) ?_ _
             clear k1 k2
             go_wp2_with fail
             go_ret
             exact ⟨rfl, unhide B2⟩
            ·have z1 : ((n : Int) == 0) = false := by simpa using hn0
             obtain ⟨b, off, ha, hblt, hc⟩ := (unhide HRW).at (by rw [unhide HCL, unhide HN]; omega)
             subst ha
             have hlk : 0 < l.length := by rw [unhide HN]; omega
             obtain ⟨x0, x1⟩ := row_ent hc 0 hlk
             obtain ⟨t, et⟩ : ∃ t, t = l[0].1 := ⟨_, rfl⟩
             have hfn : firstB lt l = decide (lt ≤ t) := by rw [firstB_at hlk, ← et]
             have HF := hide hfn
             rw [← et, Nat.zero_mul, Nat.add_zero] at x0
             have hx0 : (w.alloc (Obj.cells #[.int .i64 3, .int .i64 fr, .int .i64 dst, .int .i64 tm, .int .i64 ix, .int .i64 lt, .int .i64 cm, .bool ok, .slice (some ⟨b, off, none⟩) n cap] 82)).cell? ⟨b, off, none⟩ = some (.int .i64 t) := ((unhide B0).cell (p := ⟨b, off, none⟩) hblt).trans x0
             have hbw := Nat.lt_of_lt_of_le hblt (unhide B0).size
             replace k1 := And.intro k1.1 hx0
             have in1 : 0 < n := by omega
             clear hc x0 x1 et hlk hfn hn0 hx0
             by_cases ht : lt ≤ t
             ·have dt : decide (lt ≤ t) = true := decide_eq_true ht
              have lz : R = true := by rw [unhide HE, unhide HF, dt, show decide (ix ≠ 0) = true from (decide_eq_true (show ix ≠ 0 by omega))]; simp
              subst lz
              clear HE
              go_wp2_with fail
              refine wp_region_held_drew (S := fun w' => (∀ o, w'.cell? ⟨w.heap.size, o, none⟩ = (#[.int .i64 3, .int .i64 fr, .int .i64 dst, .int .i64 tm, .int .i64 ix, .int .i64 lt, .int .i64 cm, .bool ok, .slice (some ⟨b, off, none⟩) n cap] : Array Value)[o]?) ∧ w'.cell? ⟨b, off, none⟩ = some (.int .i64 t)) (by kernel_rfl) k1 (fun hHeld => ?_)
              refine wtv 0 (oi := oMsgS0) ?_
              refine wtv 1 (oi := oMsgS1) ?_
              refine wtv 2 (oi := oMsgS2) ?_
              refine wtv 3 (oi := oMsgS3) ?_
              refine wtv 4 (oi := oMsgS4) ?_
              refine wtv 5 (oi := oMsgS5) ?_
              refine wtv 6 (oi := oMsgS6) ?_
              refine wtv 7 (oi := oMsgS7) ?_
              refine wtv 8 (oi := oMsgS8) ?_
              refine wtv 9 (oi := oMsgS9) ?_
              refine wtv 10 (oi := oMsgS10) ?_
              refine wtv 11 (oi := oMsgS11) ?_
              refine wtv 12 (oi := oMsgS12) ?_
              refine wpAnyH_ready (rs := [13]) (by kernel_rfl) (by simp) ?_
              refine AllReadyH.cons (o := oMsgS13) rfl (fun K hK => ?_) AllReadyH.nil
              go_simp
              refine (sstateok tm 0 _ cap n l HN hn HSZ _ HRS _ ((unhide HRW).below (unhide B0).drew)).mono ?_
              rintro e w2 ⟨rfl, hb2⟩
              have k2 : (∀ o, w2.cell? ⟨w.heap.size, o, none⟩ = (#[.int .i64 3, .int .i64 fr, .int .i64 dst, .int .i64 tm, .int .i64 ix, .int .i64 lt, .int .i64 cm, .bool ok, .slice (some ⟨b, off, none⟩) n cap] : Array Value)[o]?) ∧ w2.cell? ⟨b, off, none⟩ = some (.int .i64 t) := by
               have h := below_undrew hb2
               exact ⟨fun o => (h.cell (p := ⟨w.heap.size, o, none⟩) (unhide A0).lt).trans (k1.1 o), (h.cell (p := ⟨b, off, none⟩) hbw).trans k1.2⟩
              have B2 := hide ((unhide B0).trans ((below_undrew hb2).mono (unhide B0).size))
              clear hb2
              go_wp2_with fail
              refine hK.out _ _ ?_ (fun hHeld13 => ?_)
              ·exact k2
              clear hK K
              try simp only [Act.put, qqA, qqB, qqC]
              refine wtv 14 (oi := oMsgS14) ?_
              refine wtv 15 (oi := oMsgS15) ?_
              refine wtv 16 (oi := oMsgS16) ?_
              refine wtv 17 (oi := oMsgS17) ?_
              refine wtv 18 (oi := oMsgS18) ?_
              refine wtv 19 (oi := oMsgS19) ?_
              refine wtv 20 (oi := oMsgS20) ?_
              refine wtv 21 (oi := oMsgS21) ?_
              refine wtv 22 (oi := oMsgS22) ?_
              refine wtv 23 (oi := oMsgS23) ?_
              refine wtv 24 (oi := oMsgS24) ?_
              refine wtv 25 (oi := oMsgS25) ?_
              refine wtv 26 (oi := oMsgS26) ?_
              refine wtv 27 (oi := oMsgS27) ?_
              refine wtv 28 (oi := oMsgS28) ?_
              refine wtv 29 (oi := oMsgS29) ?_
              refine wtv 30 (oi := oMsgS30) ?_
              refine wtv 31 (oi := oMsgS31) ?_
              refine wtv 32 (oi := oMsgS32) ?_
              refine wtv 33 (oi := oMsgS33) ?_
              refine wtv 34 (oi := oMsgS34) ?_
              refine wtv 35 (oi := oMsgS35) ?_
              refine wtu 36 (oi := oMsgS36) ?_
              refine wtu 37 (oi := oMsgS37) ?_
              refine wtu 38 (oi := oMsgS38) ?_
              refine wtv 39 (oi := oMsgS39) ?_
              refine wtv 40 (oi := oMsgS40) ?_
              refine wtv 41 (oi := oMsgS41) ?_
              refine wpAnyH_done (by kernel_rfl) ?_ _
              clear k1 k2
              go_wp2_with fail
              go_ret
              exact ⟨rfl, unhide B2⟩
             ·have dt : decide (lt ≤ t) = false := decide_eq_false ht
              obtain rfl : R = false := by rw [unhide HE, unhide HF, dt]; simp
              clear HE
              go_wp2_with fail
              refine wp_region_held_drew (S := fun w' => (∀ o, w'.cell? ⟨w.heap.size, o, none⟩ = (#[.int .i64 3, .int .i64 fr, .int .i64 dst, .int .i64 tm, .int .i64 ix, .int .i64 lt, .int .i64 cm, .bool ok, .slice (some ⟨b, off, none⟩) n cap] : Array Value)[o]?) ∧ w'.cell? ⟨b, off, none⟩ = some (.int .i64 t)) (by kernel_rfl) k1 (fun hHeld => ?_)
              refine wtv 0 (oi := oMsgS0) ?_
              refine wtv 1 (oi := oMsgS1) ?_
              refine wtv 2 (oi := oMsgS2) ?_
              refine wtv 3 (oi := oMsgS3) ?_
              refine wtv 4 (oi := oMsgS4) ?_
              refine wtv 5 (oi := oMsgS5) ?_
              refine wtv 6 (oi := oMsgS6) ?_
              refine wtv 7 (oi := oMsgS7) ?_
              refine wtv 8 (oi := oMsgS8) ?_
              refine wtv 9 (oi := oMsgS9) ?_
              refine wtv 10 (oi := oMsgS10) ?_
              refine wtv 11 (oi := oMsgS11) ?_
              refine wtv 12 (oi := oMsgS12) ?_
              refine wpAnyH_ready (rs := [13]) (by kernel_rfl) (by simp) ?_
              refine AllReadyH.cons (o := oMsgS13) rfl (fun K hK => ?_) AllReadyH.nil
              go_simp
              refine (sstateok tm 0 _ cap n l HN hn HSZ _ HRS _ ((unhide HRW).below (unhide B0).drew)).mono ?_
              rintro e w2 ⟨rfl, hb2⟩
              have k2 : (∀ o, w2.cell? ⟨w.heap.size, o, none⟩ = (#[.int .i64 3, .int .i64 fr, .int .i64 dst, .int .i64 tm, .int .i64 ix, .int .i64 lt, .int .i64 cm, .bool ok, .slice (some ⟨b, off, none⟩) n cap] : Array Value)[o]?) ∧ w2.cell? ⟨b, off, none⟩ = some (.int .i64 t) := by
               have h := below_undrew hb2
               exact ⟨fun o => (h.cell (p := ⟨w.heap.size, o, none⟩) (unhide A0).lt).trans (k1.1 o), (h.cell (p := ⟨b, off, none⟩) hbw).trans k1.2⟩
              have B2 := hide ((unhide B0).trans ((below_undrew hb2).mono (unhide B0).size))
              clear hb2
              go_wp2_with fail
              refine hK.out _ _ ?_ (fun hHeld13 => ?_)
              ·exact k2
              clear hK K
              try simp only [Act.put, qqA, qqB, qqC]
              refine wtv 14 (oi := oMsgS14) ?_
              refine wtv 15 (oi := oMsgS15) ?_
              refine wtv 16 (oi := oMsgS16) ?_
              refine wtv 17 (oi := oMsgS17) ?_
              refine wtv 18 (oi := oMsgS18) ?_
              refine wtv 19 (oi := oMsgS19) ?_
              refine wtv 20 (oi := oMsgS20) ?_
              refine wtv 21 (oi := oMsgS21) ?_
              refine wtv 22 (oi := oMsgS22) ?_
              refine wtv 23 (oi := oMsgS23) ?_
              refine wtv 24 (oi := oMsgS24) ?_
              refine wtv 25 (oi := oMsgS25) ?_
              refine wtv 26 (oi := oMsgS26) ?_
              refine wtv 27 (oi := oMsgS27) ?_
              refine wtv 28 (oi := oMsgS28) ?_
              refine wtv 29 (oi := oMsgS29) ?_
              refine wtv 30 (oi := oMsgS30) ?_
              refine wtv 31 (oi := oMsgS31) ?_
              refine wtu 32 (oi := oMsgS32) ?_
              refine wtu 33 (oi := oMsgS33) ?_
              refine wtu 34 (oi := oMsgS34) ?_
              refine wtu 35 (oi := oMsgS35) ?_
              refine wtu 36 (oi := oMsgS36) ?_
              refine wtu 37 (oi := oMsgS37) ?_
              refine wtu 38 (oi := oMsgS38) ?_
              refine wtu 39 (oi := oMsgS39) ?_
              refine wtv 40 (oi := oMsgS40) ?_
              refine wtv 41 (oi := oMsgS41) ?_
              refine wpAnyH_done (by kernel_rfl) ?_ _
              clear k1 k2
              go_wp2_with fail
              go_ret
              exact ⟨rfl, unhide B2⟩
           ·have dx : decide (0 < ix) = false := decide_eq_false hx
            by_cases hn0 : n = 0
            ·have z1 : ((n : Int) == 0) = true := by simpa using hn0
             have hfn : firstB lt l = true := firstB_nil (by rw [unhide HN]; exact hn0)
             have HF := hide hfn
             clear hn0 hfn
             have lz : (lt == 0) = R := by rw [unhide HE, unhide HF, show decide (ix ≠ 0) = false from (decide_eq_false (show ¬ ix ≠ 0 by omega))]; rw [Bool.eq_iff_iff]; simp
             clear HE
             go_wp2_with fail
             refine wp_region_held_drew (S := fun w' => (∀ o, w'.cell? ⟨w.heap.size, o, none⟩ = (#[.int .i64 3, .int .i64 fr, .int .i64 dst, .int .i64 tm, .int .i64 ix, .int .i64 lt, .int .i64 cm, .bool ok, .slice a n cap] : Array Value)[o]?) ∧ True) (by kernel_rfl) k1 (fun hHeld => ?_)
             refine wtv 0 (oi := oMsgS0) ?_
             refine wtv 1 (oi := oMsgS1) ?_
             refine wtv 2 (oi := oMsgS2) ?_
             refine wtv 3 (oi := oMsgS3) ?_
             refine wtv 4 (oi := oMsgS4) ?_
             refine wtv 5 (oi := oMsgS5) ?_
             refine wtv 6 (oi := oMsgS6) ?_
             refine wtv 7 (oi := oMsgS7) ?_
             refine wtv 8 (oi := oMsgS8) ?_
             refine wtv 9 (oi := oMsgS9) ?_
             refine wtv 10 (oi := oMsgS10) ?_
             refine wtv 11 (oi := oMsgS11) ?_
             refine wtv 12 (oi := oMsgS12) ?_
             refine wpAnyH_ready (rs := [13]) (by kernel_rfl) (by simp) ?_
             refine AllReadyH.cons (o := oMsgS13) rfl (fun K hK => ?_) AllReadyH.nil
             go_simp
             refine (sstateok tm 0 _ cap n l HN hn HSZ _ HRS _ ((unhide HRW).below (unhide B0).drew)).mono ?_
             rintro e w2 ⟨rfl, hb2⟩
             have k2 : (∀ o, w2.cell? ⟨w.heap.size, o, none⟩ = (#[.int .i64 3, .int .i64 fr, .int .i64 dst, .int .i64 tm, .int .i64 ix, .int .i64 lt, .int .i64 cm, .bool ok, .slice a n cap] : Array Value)[o]?) ∧ True := by
              have h := below_undrew hb2
              exact ⟨fun o => (h.cell (p := ⟨w.heap.size, o, none⟩) (unhide A0).lt).trans (k1.1 o), trivial⟩
             have B2 := hide ((unhide B0).trans ((below_undrew hb2).mono (unhide B0).size))
             clear hb2
             go_wp2_with fail
             refine hK.out _ _ ?_ (fun hHeld13 => ?_)
             ·exact k2
             clear hK K
             try simp only [Act.put, qqA, qqB, qqC]
             refine wtv 14 (oi := oMsgS14) ?_
             refine wtv 15 (oi := oMsgS15) ?_
             refine wtv 16 (oi := oMsgS16) ?_
             refine wtv 17 (oi := oMsgS17) ?_
             refine wtv 18 (oi := oMsgS18) ?_
             refine wtv 19 (oi := oMsgS19) ?_
             refine wtv 20 (oi := oMsgS20) ?_
             refine wtu 21 (oi := oMsgS21) ?_
             refine wtu 22 (oi := oMsgS22) ?_
             refine wtu 23 (oi := oMsgS23) ?_
             refine wtu 24 (oi := oMsgS24) ?_
             refine wtu 25 (oi := oMsgS25) ?_
             refine wtu 26 (oi := oMsgS26) ?_
             refine wtu 27 (oi := oMsgS27) ?_
             refine wtu 28 (oi := oMsgS28) ?_
             refine wtv 29 (oi := oMsgS29) ?_
             refine wtv 30 (oi := oMsgS30) ?_
             refine wtv 31 (oi := oMsgS31) ?_
             refine wtv 32 (oi := oMsgS32) ?_
             refine wtv 33 (oi := oMsgS33) ?_
             refine wtv 34 (oi := oMsgS34) ?_
             refine wtv 35 (oi := oMsgS35) ?_
             refine wtv 36 (oi := oMsgS36) ?_
             refine wtv 37 (oi := oMsgS37) ?_
             refine wtv 38 (oi := oMsgS38) ?_
             refine wtv 39 (oi := oMsgS39) ?_
             refine wtv 40 (oi := oMsgS40) ?_
             refine wtv 41 (oi := oMsgS41) ?_
             refine wpAnyH_done (by kernel_rfl) ?_ _
             clear k1 k2
             go_wp2_with fail
             go_ret
             exact ⟨rfl, unhide B2⟩
            ·have z1 : ((n : Int) == 0) = false := by simpa using hn0
             obtain ⟨b, off, ha, hblt, hc⟩ := (unhide HRW).at (by rw [unhide HCL, unhide HN]; omega)
             subst ha
             have hlk : 0 < l.length := by rw [unhide HN]; omega
             obtain ⟨x0, x1⟩ := row_ent hc 0 hlk
             obtain ⟨t, et⟩ : ∃ t, t = l[0].1 := ⟨_, rfl⟩
             have hfn : firstB lt l = decide (lt ≤ t) := by rw [firstB_at hlk, ← et]
             have HF := hide hfn
             rw [← et, Nat.zero_mul, Nat.add_zero] at x0
             have hx0 : (w.alloc (Obj.cells #[.int .i64 3, .int .i64 fr, .int .i64 dst, .int .i64 tm, .int .i64 ix, .int .i64 lt, .int .i64 cm, .bool ok, .slice (some ⟨b, off, none⟩) n cap] 82)).cell? ⟨b, off, none⟩ = some (.int .i64 t) := ((unhide B0).cell (p := ⟨b, off, none⟩) hblt).trans x0
             have hbw := Nat.lt_of_lt_of_le hblt (unhide B0).size
             replace k1 := And.intro k1.1 hx0
             have in1 : 0 < n := by omega
             clear hc x0 x1 et hlk hfn hn0 hx0
             by_cases ht : lt ≤ t
             ·have dt : decide (lt ≤ t) = true := decide_eq_true ht
              have lz : (lt == 0) = R := by rw [unhide HE, unhide HF, dt, show decide (ix ≠ 0) = false from (decide_eq_false (show ¬ ix ≠ 0 by omega))]; rw [Bool.eq_iff_iff]; simp
              clear HE
              go_wp2_with fail
              refine wp_region_held_drew (S := fun w' => (∀ o, w'.cell? ⟨w.heap.size, o, none⟩ = (#[.int .i64 3, .int .i64 fr, .int .i64 dst, .int .i64 tm, .int .i64 ix, .int .i64 lt, .int .i64 cm, .bool ok, .slice (some ⟨b, off, none⟩) n cap] : Array Value)[o]?) ∧ w'.cell? ⟨b, off, none⟩ = some (.int .i64 t)) (by kernel_rfl) k1 (fun hHeld => ?_)
              refine wtv 0 (oi := oMsgS0) ?_
              refine wtv 1 (oi := oMsgS1) ?_
              refine wtv 2 (oi := oMsgS2) ?_
              refine wtv 3 (oi := oMsgS3) ?_
              refine wtv 4 (oi := oMsgS4) ?_
              refine wtv 5 (oi := oMsgS5) ?_
              refine wtv 6 (oi := oMsgS6) ?_
              refine wtv 7 (oi := oMsgS7) ?_
              refine wtv 8 (oi := oMsgS8) ?_
              refine wtv 9 (oi := oMsgS9) ?_
              refine wtv 10 (oi := oMsgS10) ?_
              refine wtv 11 (oi := oMsgS11) ?_
              refine wtv 12 (oi := oMsgS12) ?_
              refine wpAnyH_ready (rs := [13]) (by kernel_rfl) (by simp) ?_
              refine AllReadyH.cons (o := oMsgS13) rfl (fun K hK => ?_) AllReadyH.nil
              go_simp
              refine (sstateok tm 0 _ cap n l HN hn HSZ _ HRS _ ((unhide HRW).below (unhide B0).drew)).mono ?_
              rintro e w2 ⟨rfl, hb2⟩
              have k2 : (∀ o, w2.cell? ⟨w.heap.size, o, none⟩ = (#[.int .i64 3, .int .i64 fr, .int .i64 dst, .int .i64 tm, .int .i64 ix, .int .i64 lt, .int .i64 cm, .bool ok, .slice (some ⟨b, off, none⟩) n cap] : Array Value)[o]?) ∧ w2.cell? ⟨b, off, none⟩ = some (.int .i64 t) := by
               have h := below_undrew hb2
               exact ⟨fun o => (h.cell (p := ⟨w.heap.size, o, none⟩) (unhide A0).lt).trans (k1.1 o), (h.cell (p := ⟨b, off, none⟩) hbw).trans k1.2⟩
              have B2 := hide ((unhide B0).trans ((below_undrew hb2).mono (unhide B0).size))
              clear hb2
              go_wp2_with fail
              refine hK.out _ _ ?_ (fun hHeld13 => ?_)
              ·exact k2
              clear hK K
              try simp only [Act.put, qqA, qqB, qqC]
              refine wtv 14 (oi := oMsgS14) ?_
              refine wtv 15 (oi := oMsgS15) ?_
              refine wtv 16 (oi := oMsgS16) ?_
              refine wtv 17 (oi := oMsgS17) ?_
              refine wtv 18 (oi := oMsgS18) ?_
              refine wtv 19 (oi := oMsgS19) ?_
              refine wtv 20 (oi := oMsgS20) ?_
              refine wtv 21 (oi := oMsgS21) ?_
              refine wtv 22 (oi := oMsgS22) ?_
              refine wtv 23 (oi := oMsgS23) ?_
              refine wtv 24 (oi := oMsgS24) ?_
              refine wtv 25 (oi := oMsgS25) ?_
              refine wtv 26 (oi := oMsgS26) ?_
              refine wtv 27 (oi := oMsgS27) ?_
              refine wtv 28 (oi := oMsgS28) ?_
              refine wtv 29 (oi := oMsgS29) ?_
              refine wtv 30 (oi := oMsgS30) ?_
              refine wtv 31 (oi := oMsgS31) ?_
              refine wtv 32 (oi := oMsgS32) ?_
              refine wtv 33 (oi := oMsgS33) ?_
              refine wtv 34 (oi := oMsgS34) ?_
              refine wtv 35 (oi := oMsgS35) ?_
              refine wtv 36 (oi := oMsgS36) ?_
              refine wtv 37 (oi := oMsgS37) ?_
              refine wtv 38 (oi := oMsgS38) ?_
              refine wtv 39 (oi := oMsgS39) ?_
              refine wtv 40 (oi := oMsgS40) ?_
              refine wtv 41 (oi := oMsgS41) ?_
              refine wpAnyH_done (by kernel_rfl) ?_ _
              clear k1 k2
              go_wp2_with fail
              go_ret
              exact ⟨rfl, unhide B2⟩
             ·have dt : decide (lt ≤ t) = false := decide_eq_false ht
              obtain rfl : R = false := by rw [unhide HE, unhide HF, dt]; simp
              clear HE
              go_wp2_with fail
              refine wp_region_held_drew (S := fun w' => (∀ o, w'.cell? ⟨w.heap.size, o, none⟩ = (#[.int .i64 3, .int .i64 fr, .int .i64 dst, .int .i64 tm, .int .i64 ix, .int .i64 lt, .int .i64 cm, .bool ok, .slice (some ⟨b, off, none⟩) n cap] : Array Value)[o]?) ∧ w'.cell? ⟨b, off, none⟩ = some (.int .i64 t)) (by kernel_rfl) k1 (fun hHeld => ?_)
              refine wtv 0 (oi := oMsgS0) ?_
              refine wtv 1 (oi := oMsgS1) ?_
              refine wtv 2 (oi := oMsgS2) ?_
              refine wtv 3 (oi := oMsgS3) ?_
              refine wtv 4 (oi := oMsgS4) ?_
              refine wtv 5 (oi := oMsgS5) ?_
              refine wtv 6 (oi := oMsgS6) ?_
              refine wtv 7 (oi := oMsgS7) ?_
              refine wtv 8 (oi := oMsgS8) ?_
              refine wtv 9 (oi := oMsgS9) ?_
              refine wtv 10 (oi := oMsgS10) ?_
              refine wtv 11 (oi := oMsgS11) ?_
              refine wtv 12 (oi := oMsgS12) ?_
              refine wpAnyH_ready (rs := [13]) (by kernel_rfl) (by simp) ?_
              refine AllReadyH.cons (o := oMsgS13) rfl (fun K hK => ?_) AllReadyH.nil
              go_simp
              refine (sstateok tm 0 _ cap n l HN hn HSZ _ HRS _ ((unhide HRW).below (unhide B0).drew)).mono ?_
              rintro e w2 ⟨rfl, hb2⟩
              have k2 : (∀ o, w2.cell? ⟨w.heap.size, o, none⟩ = (#[.int .i64 3, .int .i64 fr, .int .i64 dst, .int .i64 tm, .int .i64 ix, .int .i64 lt, .int .i64 cm, .bool ok, .slice (some ⟨b, off, none⟩) n cap] : Array Value)[o]?) ∧ w2.cell? ⟨b, off, none⟩ = some (.int .i64 t) := by
               have h := below_undrew hb2
               exact ⟨fun o => (h.cell (p := ⟨w.heap.size, o, none⟩) (unhide A0).lt).trans (k1.1 o), (h.cell (p := ⟨b, off, none⟩) hbw).trans k1.2⟩
              have B2 := hide ((unhide B0).trans ((below_undrew hb2).mono (unhide B0).size))
              clear hb2
              go_wp2_with fail
              refine hK.out _ _ ?_ (fun hHeld13 => ?_)
              ·exact k2
              clear hK K
              try simp only [Act.put, qqA, qqB, qqC]
              refine wtv 14 (oi := oMsgS14) ?_
              refine wtv 15 (oi := oMsgS15) ?_
              refine wtv 16 (oi := oMsgS16) ?_
              refine wtv 17 (oi := oMsgS17) ?_
              refine wtv 18 (oi := oMsgS18) ?_
              refine wtv 19 (oi := oMsgS19) ?_
              refine wtv 20 (oi := oMsgS20) ?_
              refine wtv 21 (oi := oMsgS21) ?_
              refine wtv 22 (oi := oMsgS22) ?_
              refine wtv 23 (oi := oMsgS23) ?_
              refine wtv 24 (oi := oMsgS24) ?_
              refine wtv 25 (oi := oMsgS25) ?_
              refine wtv 26 (oi := oMsgS26) ?_
              refine wtv 27 (oi := oMsgS27) ?_
              refine wtv 28 (oi := oMsgS28) ?_
              refine wtv 29 (oi := oMsgS29) ?_
              refine wtv 30 (oi := oMsgS30) ?_
              refine wtv 31 (oi := oMsgS31) ?_
              refine wtu 32 (oi := oMsgS32) ?_
              refine wtu 33 (oi := oMsgS33) ?_
              refine wtu 34 (oi := oMsgS34) ?_
              refine wtu 35 (oi := oMsgS35) ?_
              refine wtu 36 (oi := oMsgS36) ?_
              refine wtu 37 (oi := oMsgS37) ?_
              refine wtu 38 (oi := oMsgS38) ?_
              refine wtu 39 (oi := oMsgS39) ?_
              refine wtv 40 (oi := oMsgS40) ?_
              refine wtv 41 (oi := oMsgS41) ?_
              refine wpAnyH_done (by kernel_rfl) ?_ _
              clear k1 k2
              go_wp2_with fail
              go_ret
              exact ⟨rfl, unhide B2⟩
         ·have d6 : decide ((n : Int) ≤ 60 - ix) = false := decide_eq_false h6
          obtain rfl : R = false := by rw [unhide HE, decide_eq_false (show ¬ ix + (n : Int) ≤ 60 by omega)]; simp
          clear HE h6
          go_wp2_with fail
          refine wp_region_held_drew (S := fun w' => (∀ o, w'.cell? ⟨w.heap.size, o, none⟩ = (#[.int .i64 3, .int .i64 fr, .int .i64 dst, .int .i64 tm, .int .i64 ix, .int .i64 lt, .int .i64 cm, .bool ok, .slice a n cap] : Array Value)[o]?) ∧ True) (by kernel_rfl) k1 (fun hHeld => ?_)
          refine wtv 0 (oi := oMsgS0) ?_
          refine wtv 1 (oi := oMsgS1) ?_
          refine wtv 2 (oi := oMsgS2) ?_
          refine wtv 3 (oi := oMsgS3) ?_
          refine wtv 4 (oi := oMsgS4) ?_
          refine wtv 5 (oi := oMsgS5) ?_
          refine wtv 6 (oi := oMsgS6) ?_
          refine wtv 7 (oi := oMsgS7) ?_
          refine wtu 8 (oi := oMsgS8) ?_
          refine wtu 9 (oi := oMsgS9) ?_
          refine wtu 10 (oi := oMsgS10) ?_
          refine wtu 11 (oi := oMsgS11) ?_
          refine wtu 12 (oi := oMsgS12) ?_
          refine wtu 13 (oi := oMsgS13) ?_
          refine wtv 14 (oi := oMsgS14) ?_
          refine wtv 15 (oi := oMsgS15) ?_
          refine wtu 16 (oi := oMsgS16) ?_
          refine wtu 17 (oi := oMsgS17) ?_
          refine wtu 18 (oi := oMsgS18) ?_
          refine wtu 19 (oi := oMsgS19) ?_
          refine wtu 20 (oi := oMsgS20) ?_
          refine wtu 21 (oi := oMsgS21) ?_
          refine wtu 22 (oi := oMsgS22) ?_
          refine wtu 23 (oi := oMsgS23) ?_
          refine wtu 24 (oi := oMsgS24) ?_
          refine wtu 25 (oi := oMsgS25) ?_
          refine wtu 26 (oi := oMsgS26) ?_
          refine wtu 27 (oi := oMsgS27) ?_
          refine wtu 28 (oi := oMsgS28) ?_
          refine wtu 29 (oi := oMsgS29) ?_
          refine wtv 30 (oi := oMsgS30) ?_
          refine wtv 31 (oi := oMsgS31) ?_
          refine wtu 32 (oi := oMsgS32) ?_
          refine wtu 33 (oi := oMsgS33) ?_
          refine wtu 34 (oi := oMsgS34) ?_
          refine wtu 35 (oi := oMsgS35) ?_
          refine wtu 36 (oi := oMsgS36) ?_
          refine wtu 37 (oi := oMsgS37) ?_
          refine wtu 38 (oi := oMsgS38) ?_
          refine wtu 39 (oi := oMsgS39) ?_
          refine wtv 40 (oi := oMsgS40) ?_
          refine wtv 41 (oi := oMsgS41) ?_
          refine wpAnyH_done (by kernel_rfl) ?_ _
          clear k1
          go_wp2_with fail
          go_ret
          exact ⟨rfl, (unhide B0).drew⟩
        ·have nk : (kd != 3) = true := by simpa using hk
         rw [ents_not hk, unhide HN] at HE0
         have HE := hide HE0
         clear HE0 hk
         go_wp2_with fail
         go_ret
         exact ⟨ret_bool (by rw [unhide HE, Bool.eq_iff_iff]; simp), unhide B0⟩
end Go.Proofs.YtfogppnijdjakaaGreatDoor
