/- More than half; to advance: what the program answers. -/
import Derived.Test.YtjlajpnhcphngaaZG15
import Derived.Test.YtjlajpnhcphngaaZG8
namespace Go.Proofs.Ytjlajpnhcphngaa
open Go.ChangeShapes Go.WideShapes Go.ChangeAt Go.RowKit
set_option linter.unusedVariables false
abbrev oAdI0 : Oper := { dst := some 15, op := .move (.tmp 0), type := 74, pos := "l08_raft.go:197", after := #[], guard := none }
abbrev oAdI1 : Oper := { dst := some 16, op := .nilCheck (.tmp 15), type := 0, pos := "l08_raft.go:197", after := #[{ on := 0, ground := .data }], guard := none }
abbrev oAdI2 : Oper := { dst := some 17, op := .load 29 (.tmp 16), type := 29, pos := "l08_raft.go:197", after := #[{ on := 1, ground := .data }], guard := none }
abbrev oAdI3 : Oper := { dst := some 18, op := .move (.tmp 2), type := 3, pos := "l08_raft.go:197", after := #[], guard := none }
abbrev oAdI4 : Oper := { dst := some 20, op := .move (.tmp 0), type := 74, pos := "l08_raft.go:197", after := #[], guard := none }
abbrev oAdI5 : Oper := { dst := some 21, op := .nilCheck (.tmp 20), type := 0, pos := "l08_raft.go:197", after := #[{ on := 5, ground := .data }], guard := none }
abbrev oAdI6 : Oper := { dst := some 22, op := .fieldAddr 29 (.tmp 21) 2, type := 0, pos := "l08_raft.go:197", after := #[{ on := 6, ground := .data }], guard := none }
abbrev oAdI7 : Oper := { dst := some 23, op := .load 3 (.tmp 22), type := 3, pos := "l08_raft.go:197", after := #[{ on := 7, ground := .data }], guard := none }
abbrev oAdI8 : Oper := { dst := some 19, op := .call { callee := .value (.func 65), args := #[.tmp 17, .tmp 18], argTypes := #[74, 3] }, type := 3, pos := "l08_raft.go:197", after := #[{ on := 2, ground := .data }, { on := 3, ground := .data }], guard := none }
abbrev oAdI9 : Oper := { dst := some 24, op := .binOp .eql 3 (.tmp 19) (.tmp 23) 3, type := 4, pos := "l08_raft.go:197", after := #[{ on := 4, ground := .data }, { on := 8, ground := .data }], guard := none }
abbrev oAdI10 : Oper := { dst := some 25, op := .move (.tmp 24), type := 4, pos := "l08_raft.go:197", after := #[{ on := 9, ground := .data }, { on := 4, ground := .chain }], guard := none }
abbrev oAdI11 : Oper := { dst := some 26, op := .move (.tmp 0), type := 74, pos := "l08_raft.go:197", after := #[{ on := 10, ground := .guard }], guard := some (10, true) }
abbrev oAdI12 : Oper := { dst := some 27, op := .nilCheck (.tmp 26), type := 0, pos := "l08_raft.go:197", after := #[{ on := 11, ground := .data }, { on := 10, ground := .guard }], guard := some (10, true) }
abbrev oAdI13 : Oper := { dst := some 28, op := .load 29 (.tmp 27), type := 29, pos := "l08_raft.go:197", after := #[{ on := 12, ground := .data }, { on := 10, ground := .guard }], guard := some (10, true) }
abbrev oAdI14 : Oper := { dst := some 29, op := .move (.tmp 0), type := 74, pos := "l08_raft.go:197", after := #[{ on := 10, ground := .guard }], guard := some (10, true) }
abbrev oAdI15 : Oper := { dst := some 30, op := .nilCheck (.tmp 29), type := 0, pos := "l08_raft.go:197", after := #[{ on := 14, ground := .data }, { on := 10, ground := .guard }], guard := some (10, true) }
abbrev oAdI16 : Oper := { dst := some 31, op := .load 29 (.tmp 30), type := 29, pos := "l08_raft.go:197", after := #[{ on := 15, ground := .data }, { on := 10, ground := .guard }], guard := some (10, true) }
abbrev oAdI17 : Oper := { dst := some 32, op := .move (.tmp 2), type := 3, pos := "l08_raft.go:197", after := #[{ on := 10, ground := .guard }], guard := some (10, true) }
abbrev oAdI18 : Oper := { dst := some 33, op := .call { callee := .value (.func 70), args := #[.tmp 31, .tmp 32], argTypes := #[74, 3] }, type := 3, pos := "l08_raft.go:197", after := #[{ on := 16, ground := .data }, { on := 17, ground := .data }, { on := 10, ground := .chain }, { on := 10, ground := .guard }], guard := some (10, true) }
abbrev oAdI19 : Oper := { dst := some 34, op := .call { callee := .value (.func 57), args := #[.tmp 28, .tmp 33], argTypes := #[74, 3] }, type := 4, pos := "l08_raft.go:197", after := #[{ on := 13, ground := .data }, { on := 18, ground := .data }, { on := 18, ground := .chain }, { on := 10, ground := .guard }], guard := some (10, true) }
abbrev oAdI20 : Oper := { dst := some 35, op := .pick (.tmp 25) (.tmp 34) (.const (.bool false)), type := 4, pos := "l08_raft.go:197", after := #[{ on := 10, ground := .data }, { on := 19, ground := .data }], guard := none }
set_option maxHeartbeats 4000000 in
set_option maxRecDepth 100000 in
theorem imth (id : Int) (nd : Nat) (tm vt ro cm el wt : Int) (up : Bool) (a : Option Addr) (cap n : Nat) (av : Option Addr) (cv nv : Nat) (ax : Option Addr) (cx nx : Nat) (ag : Option Addr) (cg ng : Nat) (C : Nat) (hC : C ≤ 1048577) (hnd : nd ≤ 1048576) (R : Bool) (HR : Hid (R = decide (nd < 2 * C))) (w : World) :
    Calls Try.prog 57 #[.agg #[.int .i64 id, .int .i64 (nd : Int), .int .i64 tm, .int .i64 vt, .int .i64 ro, .bool up, .slice a n cap, .int .i64 cm, .int .i64 el, .int .i64 wt, .slice av nv cv, .slice ax nx cx, .slice ag ng cg], .int .i64 (C : Int)] w fun e w' => e = .returned (.bool R) ∧ Below w.heap.size w w' := by
  have B0 := hide (Go.Joins.below_alloc1 w (.cells #[.int .i64 id, .int .i64 (nd : Int), .int .i64 tm, .int .i64 vt, .int .i64 ro, .bool up, .slice a n cap, .int .i64 cm, .int .i64 el, .int .i64 wt, .slice av nv cv, .slice ax nx cx, .slice ag ng cg] 29))
  have A0 := hide (BF.new w #[.int .i64 id, .int .i64 (nd : Int), .int .i64 tm, .int .i64 vt, .int .i64 ro, .bool up, .slice a n cap, .int .i64 cm, .int .i64 el, .int .i64 wt, .slice av nv cv, .slice ax nx cx, .slice ag ng cg] 29)
  have ka := (unhide A0).S
  have e1 : IntKind.i64.wrap (2 * (C : Int)) = 2 * (C : Int) := wrapi _ (by omega) (by omega)
  have hd : decide ((nd : Int) < 2 * (C : Int)) = R := by rw [unhide HR]; by_cases h : nd < 2 * C <;> simp [h] <;> omega
  clear HR
  go_enter Try.func57, Try.ntmps57
  go_wp2_with fail
  go_ret
  exact ⟨rfl, unhide B0⟩
set_option maxHeartbeats 4000000 in
set_option maxRecDepth 100000 in
theorem iadvance (P : Nat) (id : Int) (nd : Nat) (tm vt ro : Int) (c : Nat) (el wt : Int) (up : Bool) (a : Option Addr) (cap n : Nat) (av : Option Addr) (cv nv : Nat) (ax : Option Addr) (cx nx : Nat) (ag : Option Addr) (cg ng : Nat) (l : List Ent) (HN : Hid (l.length = n)) (hn : n ≤ 1048576) (lg : List Int) (HNg : Hid (lg.length = ng)) (hng : ng ≤ 1048576) (hnd : nd ≤ 5) (hc : c ≤ n) (w : World) (hP : BF P #[.int .i64 id, .int .i64 (nd : Int), .int .i64 tm, .int .i64 vt, .int .i64 ro, .bool up, .slice a n cap, .int .i64 (c : Int), .int .i64 el, .int .i64 wt, .slice av nv cv, .slice ax nx cx, .slice ag ng cg] w) (hr : RowV w a (cE l)) (hrg : RowV w ag (cI lg)) :
    Calls Try.prog 67 #[.pointer (some ⟨P, 0, none⟩)] w fun e w' => e = .returned (.tuple #[]) ∧ BF P #[.int .i64 id, .int .i64 (nd : Int), .int .i64 tm, .int .i64 vt, .int .i64 ro, .bool up, .slice a n cap, .int .i64 ((advN id tm nd l lg c n : Nat) : Int), .int .i64 el, .int .i64 wt, .slice av nv cv, .slice ax nx cx, .slice ag ng cg] w' ∧ w.grownBy w' (some P) := by
  have HRr := hide hr
  have HRg := hide hrg
  have A0 := hide hP
  have ka := hP.S
  clear hr hrg hP
  go_enter Try.func67, Try.ntmps67
  go_wp2_with fail
  refine (ilast id (nd : Int) tm vt ro (c : Int) el wt up a cap n av cv nv ax cx nx ag cg ng _).mono ?_
  rintro e w1 ⟨rfl, hb1⟩
  have B1 := hide hb1
  have A1 := hide ((unhide A0).below hb1)
  clear hb1 A0 ka
  go_wp2_with fail
  go_loopw [2] (fun i wr => ∃ (k : Nat), k ≤ n ∧ i = .int .i64 k ∧ Hid (advN id tm nd l lg c k = advN id tm nd l lg c n) ∧ Hid (BF P #[.int .i64 id, .int .i64 (nd : Int), .int .i64 tm, .int .i64 vt, .int .i64 ro, .bool up, .slice a n cap, .int .i64 (c : Int), .int .i64 el, .int .i64 wt, .slice av nv cv, .slice ax nx cx, .slice ag ng cg] wr) ∧ Hid (Below w.heap.size w wr)) (fun i _ => (intOf i).toNat)
  case atStart => exact ⟨n, Nat.le_refl _, rfl, rfl, A1, B1⟩
  case round =>
    clear A1 B1
    obtain ⟨k, hk, rfl, HI, A2, B2⟩ := hrel
    have ka := (unhide A2).S
    by_cases hlt : c < k
    · obtain ⟨k', hk'⟩ : ∃ k', k = k' + 1 := ⟨k - 1, by omega⟩
      have i1 : ((c : Int) < (k : Int)) := by omega
      have HKN : Hid (k ≤ n) := hk
      have hkk : k' < k := by omega
      have hkn : k' ≤ n := by omega
      have AD := hide (unhide A2).drew
      have BD := hide (unhide B2).drew
      obtain ⟨TT, hTT⟩ : ∃ TT, TT = tAt l k := ⟨_, rfl⟩
      have HT := hide hTT
      have hI := unhide HI
      obtain ⟨C, hC⟩ : ∃ C, C = holds id (k : Int) lg := ⟨_, rfl⟩
      have HC := hide hC
      have HCC : Hid (C ≤ 1048577) := by show _ ≤ _; rw [hC]; have := holds_le id (k : Int) lg; have := unhide HNg; omega
      obtain ⟨R, hR⟩ : ∃ R, R = decide (nd < 2 * C) := ⟨_, rfl⟩
      have HRR := hide hR
      have hsub : IntKind.i64.wrap ((k : Int) - 1) = (k' : Int) := by rw [wrapi _ (by omega) (by omega)]; omega
      by_cases heq : TT = tm
      · have z1 : (TT == tm) = true := by simpa using heq
        have HH : Hid (if R = true then advN id tm nd l lg c n = k else advN id tm nd l lg c k' = advN id tm nd l lg c n) := by
          show if R = true then _ else _
          by_cases h2 : nd < 2 * C
          · rw [if_pos (by rw [hR]; simpa using h2), ← hI]; subst hk'; exact advN_hit (by omega) (by rw [← hTT]; exact heq) (by rw [← hC]; exact h2)
          · rw [if_neg (by rw [hR]; simpa using h2), ← hI]; subst hk'; rw [advN_miss (by omega) (fun h => h2 (by rw [hC]; exact h.2))]
        clear heq hTT hC hR hI HI hk'
        go_wp2_with fail
        refine wp_region_held_drew (S := fun w' => ∀ o, w'.cell? ⟨P, o, none⟩ = (#[.int .i64 id, .int .i64 (nd : Int), .int .i64 tm, .int .i64 vt, .int .i64 ro, .bool up, .slice a n cap, .int .i64 (c : Int), .int .i64 el, .int .i64 wt, .slice av nv cv, .slice ax nx cx, .slice ag ng cg] : Array Value)[o]?) (by kernel_rfl) ka (fun hHeld => ?_)
        generalize wr.drew = v2 at AD BD hHeld ⊢
        refine wtk (i := 0) (oi := oAdI0) (v := ?_) rfl (Or.inl ⟨by rfl, ?_⟩) (by assumption) ?_
        rotate_left 1
        · (intro w' hSw; (try dsimp only at hSw); go_simp; try with_reducible rfl)
        try simp only [Act.put, qqA, qqB, qqC]
        refine wtk (i := 1) (oi := oAdI1) (v := ?_) rfl (Or.inl ⟨by rfl, ?_⟩) (by assumption) ?_
        rotate_left 1
        · (intro w' hSw; (try dsimp only at hSw); go_simp; try with_reducible rfl)
        try simp only [Act.put, qqA, qqB, qqC]
        refine wtk (i := 2) (oi := oAdI2) (v := ?_) rfl (Or.inl ⟨by rfl, ?_⟩) (by assumption) ?_
        rotate_left 1
        · (intro w' hSw; (try dsimp only at hSw); go_simp; try with_reducible rfl)
        try simp only [Act.put, qqA, qqB, qqC]
        refine wtk (i := 3) (oi := oAdI3) (v := ?_) rfl (Or.inl ⟨by rfl, ?_⟩) (by assumption) ?_
        rotate_left 1
        · (intro w' hSw; (try dsimp only at hSw); go_simp; try with_reducible rfl)
        try simp only [Act.put, qqA, qqB, qqC]
        refine wtk (i := 5) (oi := oAdI4) (v := ?_) rfl (Or.inl ⟨by rfl, ?_⟩) (by assumption) ?_
        rotate_left 1
        · (intro w' hSw; (try dsimp only at hSw); go_simp; try with_reducible rfl)
        try simp only [Act.put, qqA, qqB, qqC]
        refine wtk (i := 6) (oi := oAdI5) (v := ?_) rfl (Or.inl ⟨by rfl, ?_⟩) (by assumption) ?_
        rotate_left 1
        · (intro w' hSw; (try dsimp only at hSw); go_simp; try with_reducible rfl)
        try simp only [Act.put, qqA, qqB, qqC]
        refine wtk (i := 7) (oi := oAdI6) (v := ?_) rfl (Or.inl ⟨by rfl, ?_⟩) (by assumption) ?_
        rotate_left 1
        · (intro w' hSw; (try dsimp only at hSw); go_simp; try with_reducible rfl)
        try simp only [Act.put, qqA, qqB, qqC]
        refine wtk (i := 8) (oi := oAdI7) (v := ?_) rfl (Or.inl ⟨by rfl, ?_⟩) (by assumption) ?_
        rotate_left 1
        · (intro w' hSw; (try dsimp only at hSw); go_simp; try with_reducible rfl)
        try simp only [Act.put, qqA, qqB, qqC]
        refine wpAnyH_ready (rs := [4]) (by kernel_rfl) (by simp) ?_
        refine AllReadyH.cons (o := oAdI8) rfl (fun K hK => ?_) AllReadyH.nil
        go_simp
        refine (itermat id (nd : Int) tm vt ro (c : Int) el wt up a cap n av cv nv ax cx nx ag cg ng l HN hn k (unhide HKN) TT HT _ ((unhide HRr).below (unhide BD))).mono ?_
        rintro e w3 ⟨rfl, hb3⟩
        have B3 := hide ((unhide BD).trans (hb3.mono (unhide BD).size))
        have A3 := hide ((unhide AD).below hb3)
        clear hb3 BD AD
        go_wp2_with fail
        refine hK.out _ _ ?_ (fun hHeld4 => ?_)
        · exact (unhide A3).S
        clear hK K
        try simp only [Act.put, qqA, qqB, qqC]
        refine wtk (i := 9) (oi := oAdI9) (v := ?_) rfl (Or.inl ⟨by rfl, ?_⟩) (by assumption) ?_
        rotate_left 1
        · (intro w' hSw; (try dsimp only at hSw); go_simp; try with_reducible rfl)
        try simp only [Act.put, qqA, qqB, qqC]
        refine wtk (i := 10) (oi := oAdI10) (v := ?_) rfl (Or.inl ⟨by rfl, ?_⟩) (by assumption) ?_
        rotate_left 1
        · (intro w' hSw; (try dsimp only at hSw); go_simp; try with_reducible rfl)
        try simp only [Act.put, qqA, qqB, qqC]
        refine wtk (i := 11) (oi := oAdI11) (v := ?_) rfl (Or.inl ⟨by rfl, ?_⟩) (by assumption) ?_
        rotate_left 1
        · (intro w' hSw; (try dsimp only at hSw); go_simp; try with_reducible rfl)
        try simp only [Act.put, qqA, qqB, qqC]
        refine wtk (i := 12) (oi := oAdI12) (v := ?_) rfl (Or.inl ⟨by rfl, ?_⟩) (by assumption) ?_
        rotate_left 1
        · (intro w' hSw; (try dsimp only at hSw); go_simp; try with_reducible rfl)
        try simp only [Act.put, qqA, qqB, qqC]
        refine wtk (i := 13) (oi := oAdI13) (v := ?_) rfl (Or.inl ⟨by rfl, ?_⟩) (by assumption) ?_
        rotate_left 1
        · (intro w' hSw; (try dsimp only at hSw); go_simp; try with_reducible rfl)
        try simp only [Act.put, qqA, qqB, qqC]
        refine wtk (i := 14) (oi := oAdI14) (v := ?_) rfl (Or.inl ⟨by rfl, ?_⟩) (by assumption) ?_
        rotate_left 1
        · (intro w' hSw; (try dsimp only at hSw); go_simp; try with_reducible rfl)
        try simp only [Act.put, qqA, qqB, qqC]
        refine wtk (i := 15) (oi := oAdI15) (v := ?_) rfl (Or.inl ⟨by rfl, ?_⟩) (by assumption) ?_
        rotate_left 1
        · (intro w' hSw; (try dsimp only at hSw); go_simp; try with_reducible rfl)
        try simp only [Act.put, qqA, qqB, qqC]
        refine wtk (i := 16) (oi := oAdI16) (v := ?_) rfl (Or.inl ⟨by rfl, ?_⟩) (by assumption) ?_
        rotate_left 1
        · (intro w' hSw; (try dsimp only at hSw); go_simp; try with_reducible rfl)
        try simp only [Act.put, qqA, qqB, qqC]
        refine wtk (i := 17) (oi := oAdI17) (v := ?_) rfl (Or.inl ⟨by rfl, ?_⟩) (by assumption) ?_
        rotate_left 1
        · (intro w' hSw; (try dsimp only at hSw); go_simp; try with_reducible rfl)
        try simp only [Act.put, qqA, qqB, qqC]
        refine wpAnyH_ready (rs := [18]) (by kernel_rfl) (by simp) ?_
        refine AllReadyH.cons (o := oAdI18) rfl (fun K hK => ?_) AllReadyH.nil
        go_simp
        refine (iholders id (nd : Int) tm vt ro (c : Int) el wt up a cap n av cv nv ax cx nx ag cg ng lg HNg hng (k : Int) C HC _ ((unhide HRg).below (unhide B3))).mono ?_
        rintro e w4 ⟨rfl, hb4⟩
        have B4 := hide ((unhide B3).trans (hb4.mono (unhide B3).size))
        have A4 := hide ((unhide A3).below hb4)
        clear hb4 B3 A3
        go_wp2_with fail
        refine hK.out _ _ ?_ (fun hHeld18 => ?_)
        · exact (unhide A4).S
        clear hK K
        try simp only [Act.put, qqA, qqB, qqC]
        refine wpAnyH_ready (rs := [19]) (by kernel_rfl) (by simp) ?_
        refine AllReadyH.cons (o := oAdI19) rfl (fun K hK => ?_) AllReadyH.nil
        go_simp
        refine (imth id nd tm vt ro (c : Int) el wt up a cap n av cv nv ax cx nx ag cg ng C (unhide HCC) (by omega) R HRR _).mono ?_
        rintro e w5 ⟨rfl, hb5⟩
        have B5 := hide ((unhide B4).trans (hb5.mono (unhide B4).size))
        have A5 := hide ((unhide A4).below hb5)
        clear hb5 B4 A4
        go_wp2_with fail
        refine hK.out _ _ ?_ (fun hHeld19 => ?_)
        · exact (unhide A5).S
        clear hK K
        try simp only [Act.put, qqA, qqB, qqC]
        refine wtk (i := 20) (oi := oAdI20) (v := ?_) rfl (Or.inl ⟨by rfl, ?_⟩) (by assumption) ?_
        rotate_left 1
        · (intro w' hSw; (try dsimp only at hSw); go_simp; try with_reducible rfl)
        try simp only [Act.put, qqA, qqB, qqC]
        refine wpAnyH_done (by kernel_rfl) ?_ _
        clear ka
        cases R with
        | true =>
          have hres : advN id tm nd l lg c n = k := by have := unhide HH; simpa using this
          have a5 := (unhide A5).S
          have a5f := (unhide A5).F
          obtain ⟨w6, hv6⟩ : ∃ w6, w6 = w5.setCell ⟨P, 7, none⟩ (.int .i64 (k : Int)) := ⟨_, rfl⟩
          have P6 : BF P #[.int .i64 id, .int .i64 (nd : Int), .int .i64 tm, .int .i64 vt, .int .i64 ro, .bool up, .slice a n cap, .int .i64 (k : Int), .int .i64 el, .int .i64 wt, .slice av nv cv, .slice ax nx cx, .slice ag ng cg] w6 := by rw [hv6]; exact (unhide A5).set 7 (by simp) _
          have G6 : w.grownBy w6 (some P) := by
            have hb := unhide B5
            rw [hv6]
            exact ⟨hb.os, hb.tape, hb.output, by simpa using hb.size, fun q hq hne => by rw [Below.heap_setCell _ _ _ _ (fun e => hne (by rw [e]))]; exact hb.block q hq⟩
          have HP6 := hide P6
          have HG6 := hide G6
          clear P6 G6 HH
          go_wp2_with fail
          rw [← hv6]
          refine bodyPost_ret (v := .tuple #[]) (by simp [results, Try.results67, go_sem]) rfl ⟨rfl, ?_, unhide HG6⟩
          rw [hres]; exact unhide HP6
        | false =>
          have HI2 : Hid (advN id tm nd l lg c k' = advN id tm nd l lg c n) := by show _ = _; have := unhide HH; simpa using this
          clear HH
          go_wp2_with fail
          go_roundw
          case rel => exact ⟨k', hkn, by first | rfl | go_num, HI2, A5, B5⟩
          case measure => (simp [intOf]; try omega)
      · have z1 : (TT == tm) = false := by simpa using heq
        have HI2 : Hid (advN id tm nd l lg c k' = advN id tm nd l lg c n) := by show _ = _; rw [← hI]; subst hk'; rw [advN_miss (by omega) (fun h => heq (by rw [hTT]; exact h.1))]
        clear heq hTT hC hR hI HI hk'
        go_wp2_with fail
        refine wp_region_held_drew (S := fun w' => ∀ o, w'.cell? ⟨P, o, none⟩ = (#[.int .i64 id, .int .i64 (nd : Int), .int .i64 tm, .int .i64 vt, .int .i64 ro, .bool up, .slice a n cap, .int .i64 (c : Int), .int .i64 el, .int .i64 wt, .slice av nv cv, .slice ax nx cx, .slice ag ng cg] : Array Value)[o]?) (by kernel_rfl) ka (fun hHeld => ?_)
        generalize wr.drew = v2 at AD BD hHeld ⊢
        refine wtk (i := 0) (oi := oAdI0) (v := ?_) rfl (Or.inl ⟨by rfl, ?_⟩) (by assumption) ?_
        rotate_left 1
        · (intro w' hSw; (try dsimp only at hSw); go_simp; try with_reducible rfl)
        try simp only [Act.put, qqA, qqB, qqC]
        refine wtk (i := 1) (oi := oAdI1) (v := ?_) rfl (Or.inl ⟨by rfl, ?_⟩) (by assumption) ?_
        rotate_left 1
        · (intro w' hSw; (try dsimp only at hSw); go_simp; try with_reducible rfl)
        try simp only [Act.put, qqA, qqB, qqC]
        refine wtk (i := 2) (oi := oAdI2) (v := ?_) rfl (Or.inl ⟨by rfl, ?_⟩) (by assumption) ?_
        rotate_left 1
        · (intro w' hSw; (try dsimp only at hSw); go_simp; try with_reducible rfl)
        try simp only [Act.put, qqA, qqB, qqC]
        refine wtk (i := 3) (oi := oAdI3) (v := ?_) rfl (Or.inl ⟨by rfl, ?_⟩) (by assumption) ?_
        rotate_left 1
        · (intro w' hSw; (try dsimp only at hSw); go_simp; try with_reducible rfl)
        try simp only [Act.put, qqA, qqB, qqC]
        refine wtk (i := 5) (oi := oAdI4) (v := ?_) rfl (Or.inl ⟨by rfl, ?_⟩) (by assumption) ?_
        rotate_left 1
        · (intro w' hSw; (try dsimp only at hSw); go_simp; try with_reducible rfl)
        try simp only [Act.put, qqA, qqB, qqC]
        refine wtk (i := 6) (oi := oAdI5) (v := ?_) rfl (Or.inl ⟨by rfl, ?_⟩) (by assumption) ?_
        rotate_left 1
        · (intro w' hSw; (try dsimp only at hSw); go_simp; try with_reducible rfl)
        try simp only [Act.put, qqA, qqB, qqC]
        refine wtk (i := 7) (oi := oAdI6) (v := ?_) rfl (Or.inl ⟨by rfl, ?_⟩) (by assumption) ?_
        rotate_left 1
        · (intro w' hSw; (try dsimp only at hSw); go_simp; try with_reducible rfl)
        try simp only [Act.put, qqA, qqB, qqC]
        refine wtk (i := 8) (oi := oAdI7) (v := ?_) rfl (Or.inl ⟨by rfl, ?_⟩) (by assumption) ?_
        rotate_left 1
        · (intro w' hSw; (try dsimp only at hSw); go_simp; try with_reducible rfl)
        try simp only [Act.put, qqA, qqB, qqC]
        refine wpAnyH_ready (rs := [4]) (by kernel_rfl) (by simp) ?_
        refine AllReadyH.cons (o := oAdI8) rfl (fun K hK => ?_) AllReadyH.nil
        go_simp
        refine (itermat id (nd : Int) tm vt ro (c : Int) el wt up a cap n av cv nv ax cx nx ag cg ng l HN hn k (unhide HKN) TT HT _ ((unhide HRr).below (unhide BD))).mono ?_
        rintro e w3 ⟨rfl, hb3⟩
        have B3 := hide ((unhide BD).trans (hb3.mono (unhide BD).size))
        have A3 := hide ((unhide AD).below hb3)
        clear hb3 BD AD
        go_wp2_with fail
        refine hK.out _ _ ?_ (fun hHeld4 => ?_)
        · exact (unhide A3).S
        clear hK K
        try simp only [Act.put, qqA, qqB, qqC]
        refine wtk (i := 9) (oi := oAdI9) (v := ?_) rfl (Or.inl ⟨by rfl, ?_⟩) (by assumption) ?_
        rotate_left 1
        · (intro w' hSw; (try dsimp only at hSw); go_simp; try with_reducible rfl)
        try simp only [Act.put, qqA, qqB, qqC]
        refine wtk (i := 10) (oi := oAdI10) (v := ?_) rfl (Or.inl ⟨by rfl, ?_⟩) (by assumption) ?_
        rotate_left 1
        · (intro w' hSw; (try dsimp only at hSw); go_simp; try with_reducible rfl)
        try simp only [Act.put, qqA, qqB, qqC]
        refine wtk (i := 11) (oi := oAdI11) (v := undef) rfl (Or.inr ⟨by rfl, rfl⟩) (by assumption) ?_
        try simp only [Act.put, qqA, qqB, qqC]
        refine wtk (i := 12) (oi := oAdI12) (v := undef) rfl (Or.inr ⟨by rfl, rfl⟩) (by assumption) ?_
        try simp only [Act.put, qqA, qqB, qqC]
        refine wtk (i := 13) (oi := oAdI13) (v := undef) rfl (Or.inr ⟨by rfl, rfl⟩) (by assumption) ?_
        try simp only [Act.put, qqA, qqB, qqC]
        refine wtk (i := 14) (oi := oAdI14) (v := undef) rfl (Or.inr ⟨by rfl, rfl⟩) (by assumption) ?_
        try simp only [Act.put, qqA, qqB, qqC]
        refine wtk (i := 15) (oi := oAdI15) (v := undef) rfl (Or.inr ⟨by rfl, rfl⟩) (by assumption) ?_
        try simp only [Act.put, qqA, qqB, qqC]
        refine wtk (i := 16) (oi := oAdI16) (v := undef) rfl (Or.inr ⟨by rfl, rfl⟩) (by assumption) ?_
        try simp only [Act.put, qqA, qqB, qqC]
        refine wtk (i := 17) (oi := oAdI17) (v := undef) rfl (Or.inr ⟨by rfl, rfl⟩) (by assumption) ?_
        try simp only [Act.put, qqA, qqB, qqC]
        refine wtk (i := 18) (oi := oAdI18) (v := undef) rfl (Or.inr ⟨by rfl, rfl⟩) (by assumption) ?_
        try simp only [Act.put, qqA, qqB, qqC]
        refine wtk (i := 19) (oi := oAdI19) (v := undef) rfl (Or.inr ⟨by rfl, rfl⟩) (by assumption) ?_
        try simp only [Act.put, qqA, qqB, qqC]
        refine wtk (i := 20) (oi := oAdI20) (v := ?_) rfl (Or.inl ⟨by rfl, ?_⟩) (by assumption) ?_
        rotate_left 1
        · (intro w' hSw; (try dsimp only at hSw); go_simp; try with_reducible rfl)
        try simp only [Act.put, qqA, qqB, qqC]
        refine wpAnyH_done (by kernel_rfl) ?_ _
        clear ka
        go_wp2_with fail
        go_roundw
        case rel => exact ⟨k', hkn, by first | rfl | go_num, HI2, A3, B3⟩
        case measure => (simp [intOf]; try omega)
    · have i1 : ¬ ((c : Int) < (k : Int)) := by omega
      have hres : advN id tm nd l lg c n = c := by rw [← unhide HI]; exact advN_end (by omega)
      clear HI
      go_wp2_with fail
      go_end0
      refine ⟨rfl, ?_, ?_⟩
      · first | exact unhide A2 | (rw [hres]; exact unhide A2)
      · have hb := unhide B2; exact ⟨hb.os, hb.tape, hb.output, hb.size, fun q hq hne => hb.block q hq⟩
end Go.Proofs.Ytjlajpnhcphngaa
