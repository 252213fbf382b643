/- ViewOK: what the program answers. -/
import Derived.Test.YtblhediekdeffaaDoorZVoI
import Derived.Test.YtblhediekdeffaaDoorZVoC
import Derived.Deep.Cut
namespace Go.Proofs.YtblhediekdeffaaDoor
open Go.ChangeShapes Go.WideShapes Go.ChangeAt Go.RowKit
set_option linter.unusedVariables false
abbrev oVoJ0 : Oper := { dst := some 22, op := .move (.tmp 4), type := 4, pos := "l11_view.go:88", after := #[], guard := none }
abbrev oVoJ1 : Oper := { dst := some 23, op := .unOp .not 4 (.tmp 22), type := 4, pos := "l11_view.go:88", after := #[{ on := 0, ground := .data }], guard := none }
abbrev oVoJ2 : Oper := { dst := some 24, op := .move (.tmp 23), type := 4, pos := "l11_view.go:88", after := #[{ on := 1, ground := .data }], guard := none }
abbrev oVoJ3 : Oper := { dst := some 25, op := .load 25 (.tmp 1), type := 25, pos := "l11_view.go:88", after := #[{ on := 2, ground := .guard }], guard := some (2, false) }
abbrev oVoJ4 : Oper := { dst := some 26, op := .call { callee := .value (.func 46), args := #[.tmp 25], argTypes := #[25] }, type := 36, pos := "l11_view.go:88", after := #[{ on := 3, ground := .data }, { on := 2, ground := .chain }, { on := 2, ground := .guard }], guard := some (2, false) }
abbrev oVoJ5 : Oper := { dst := some 27, op := .fieldAddr 25 (.tmp 1) 3, type := 0, pos := "l11_view.go:88", after := #[{ on := 2, ground := .guard }], guard := some (2, false) }
abbrev oVoJ6 : Oper := { dst := some 28, op := .load 3 (.tmp 27), type := 3, pos := "l11_view.go:88", after := #[{ on := 5, ground := .data }, { on := 2, ground := .guard }], guard := some (2, false) }
abbrev oVoJ7 : Oper := { dst := some 29, op := .call { callee := .value (.func 45), args := #[.tmp 26, .tmp 28], argTypes := #[36, 3] }, type := 81, pos := "l11_view.go:88", after := #[{ on := 4, ground := .data }, { on := 6, ground := .data }, { on := 4, ground := .chain }, { on := 2, ground := .guard }], guard := some (2, false) }
abbrev oVoJ8 : Oper := { dst := some 30, op := .fieldAddr 25 (.tmp 1) 5, type := 0, pos := "l11_view.go:88", after := #[{ on := 2, ground := .guard }], guard := some (2, false) }
abbrev oVoJ9 : Oper := { dst := some 31, op := .load 23 (.tmp 30), type := 23, pos := "l11_view.go:88", after := #[{ on := 8, ground := .data }, { on := 2, ground := .guard }], guard := some (2, false) }
abbrev oVoJ10 : Oper := { dst := some 32, op := .call { callee := .builtin Go.Builtin.len, args := #[.tmp 31], argTypes := #[23] }, type := 3, pos := "l11_view.go:88", after := #[{ on := 9, ground := .data }, { on := 2, ground := .guard }], guard := some (2, false) }
abbrev oVoJ11 : Oper := { dst := some 33, op := .call { callee := .value (.func 47), args := #[.tmp 32], argTypes := #[3] }, type := 81, pos := "l11_view.go:88", after := #[{ on := 10, ground := .data }, { on := 7, ground := .chain }, { on := 2, ground := .guard }], guard := some (2, false) }
abbrev oVoJ12 : Oper := { dst := some 34, op := .binOp .neq 81 (.tmp 29) (.tmp 33) 81, type := 4, pos := "l11_view.go:88", after := #[{ on := 7, ground := .data }, { on := 11, ground := .data }, { on := 2, ground := .guard }], guard := some (2, false) }
abbrev oVoJ13 : Oper := { dst := some 35, op := .pick (.tmp 24) (.const (.bool true)) (.tmp 34), type := 4, pos := "l11_view.go:88", after := #[{ on := 2, ground := .data }, { on := 12, ground := .data }], guard := none }
set_option maxHeartbeats 4000000 in
set_option maxRecDepth 100000 in
theorem ivwok (nb fr : Int) (fu : Bool) (vw vh : Int) (a : Option Addr) (cap n : Nat) (l : List Rw) (HN : Hid (l.length = n)) (hn : n ≤ 1048576) (HS : Hid (∀ k (h : k < l.length), l[k].2.size ≤ 1048576)) (Q : Bool) (HQ : Hid (Q = vwB nb fr fu vw vh l)) (w : World) (hr : RowV w a (cE l)) :
    Calls Tryd.prog 28 #[.agg #[.int .i64 nb, .int .i64 fr, .bool fu, .int .i64 vw, .int .i64 vh, .slice a n cap]] w fun e w' => e = .returned (.bool Q) ∧ Below w.heap.size w w' := by
  have B0 := hide (Go.Joins.below_alloc1 w (.cells #[.int .i64 nb, .int .i64 fr, .bool fu, .int .i64 vw, .int .i64 vh, .slice a n cap] 25))
  have HR0 := hide (hr.below (unhide B0))
  have HNI := hide hn
  clear hr hn
  obtain ⟨c1, hc1⟩ : ∃ c, c = inB nb 0 60 := ⟨_, rfl⟩
  have HC1 := hide hc1
  have hQ : Q = (c1 && (sizeB vw vh && (riseB vh l && ((celL l).all (rowB vw.toNat) && if fu then decide (fr = 0) && decide ((l.length : Int) = vh) else inB fr 0 (nb - 1))))) := by rw [unhide HQ, hc1]; rfl
  cases c1 with
  | false =>
    obtain rfl : Q = false := hQ
    clear hc1 HQ
    go_enter Tryd.func28, Tryd.ntmps28
    go_wp2_with (go_at_call 42; refine (inumok nb false HC1 _).mono ?_; rintro e w2 ⟨rfl, rfl⟩)
    go_ret
    exact ⟨rfl, unhide B0⟩
  | true =>
    cases hc2 : sizeB vw vh with
    | false =>
      obtain rfl : Q = false := by rw [hQ, hc2]; rfl
      have HC2 := hide hc2
      clear hc1 hc2 hQ HQ
      go_enter Tryd.func28, Tryd.ntmps28
      go_wp2_with (first | (go_at_call 42; refine (inumok nb true HC1 _).mono ?_; rintro e w2 ⟨rfl, rfl⟩) | (go_at_call 43; refine (isize _ _ _).mono ?_; rintro e w2 ⟨rfl, rfl⟩; rw [unhide HC2]))
      go_ret
      exact ⟨rfl, unhide B0⟩
    | true =>
      obtain ⟨W, H, rfl, rfl, hW1, hW2, hH1, hH2⟩ := sizeB_nat hc2
      have hQ2 : Q = (riseB (H : Int) l && ((celL l).all (rowB W) && if fu then decide (fr = 0) && decide ((l.length : Int) = (H : Int)) else inB fr 0 (nb - 1))) := by rw [hQ, hc2]; simp
      have HC2 := hide hc2
      obtain ⟨U, hU⟩ : ∃ U, U = riseB (H : Int) l := ⟨_, rfl⟩
      have HU := hide hU
      obtain ⟨t, ht⟩ : ∃ t, t = if U then tol l n else 0 := ⟨_, rfl⟩
      have HT := hide ht
      have HA0 := hide (BF.new w #[.int .i64 nb, .int .i64 fr, .bool fu, .int .i64 (W : Int), .int .i64 (H : Int), .slice a n cap] 25)
      rw [← hU] at hQ2
      have HQ2 := hide hQ2
      have hnb : 0 ≤ nb ∧ nb ≤ 60 := of_decide_eq_true hc1.symm
      clear hc1 hc2 hQ HQ hU ht hQ2
      go_enter Tryd.func28, Tryd.ntmps28
      go_upto_region 3 with (first | (go_at_call 42; refine (inumok nb true HC1 _).mono ?_; rintro e w2 ⟨rfl, rfl⟩) | (go_at_call 43; refine (isize _ _ _).mono ?_; rintro e w2 ⟨rfl, rfl⟩; rw [unhide HC2]))
      go_wp2_with fail
      refine (iplaces nb fr fu (W : Int) H hH2 hH1 a cap n l HN (unhide HNI) t U HU HT _ (unhide HR0)).mono ?_
      rintro e w2 ⟨rfl, hb2⟩
      have HB1 := hide ((unhide B0).trans (hb2.mono (unhide B0).size))
      have HA1 := hide ((unhide HA0).below hb2)
      have HR1 := hide ((unhide HR0).below hb2)
      clear hb2 HA0 B0 HR0
      cases U with
      | false =>
        obtain rfl : Q = false := unhide HQ2
        go_wp2_with fail
        refine wp_region_held_drew (S := (fun w' => ∀ o, w'.cell? ⟨w.heap.size, o, none⟩ = (#[.int .i64 nb, .int .i64 fr, .bool fu, .int .i64 (W : Int), .int .i64 (H : Int), .slice a n cap] : Array Value)[o]?)) (by kernel_rfl) (fun o => (unhide HA1).S o) (fun hHeld => ?_)
        refine wtk (i := 0) (oi := oVoJ0) (v := ?_) rfl (Or.inl ⟨by rfl, ?_⟩) (by assumption) ?_
        rotate_left 1
        · (intro w' hSw; (try dsimp only at hSw); go_simp; try with_reducible rfl)
        try simp only [Act.put, qqA, qqB, qqC]
        refine wtk (i := 1) (oi := oVoJ1) (v := ?_) rfl (Or.inl ⟨by rfl, ?_⟩) (by assumption) ?_
        rotate_left 1
        · (intro w' hSw; (try dsimp only at hSw); go_simp; try with_reducible rfl)
        try simp only [Act.put, qqA, qqB, qqC]
        refine wtk (i := 2) (oi := oVoJ2) (v := ?_) rfl (Or.inl ⟨by rfl, ?_⟩) (by assumption) ?_
        rotate_left 1
        · (intro w' hSw; (try dsimp only at hSw); go_simp; try with_reducible rfl)
        try simp only [Act.put, qqA, qqB, qqC]
        refine wtk (i := 3) (oi := oVoJ3) (v := undef) rfl (Or.inr ⟨by rfl, rfl⟩) (by assumption) ?_
        try simp only [Act.put, qqA, qqB, qqC]
        refine wtk (i := 4) (oi := oVoJ4) (v := undef) rfl (Or.inr ⟨by rfl, rfl⟩) (by assumption) ?_
        try simp only [Act.put, qqA, qqB, qqC]
        refine wtk (i := 5) (oi := oVoJ5) (v := undef) rfl (Or.inr ⟨by rfl, rfl⟩) (by assumption) ?_
        try simp only [Act.put, qqA, qqB, qqC]
        refine wtk (i := 6) (oi := oVoJ6) (v := undef) rfl (Or.inr ⟨by rfl, rfl⟩) (by assumption) ?_
        try simp only [Act.put, qqA, qqB, qqC]
        refine wtk (i := 7) (oi := oVoJ7) (v := undef) rfl (Or.inr ⟨by rfl, rfl⟩) (by assumption) ?_
        try simp only [Act.put, qqA, qqB, qqC]
        refine wtk (i := 8) (oi := oVoJ8) (v := undef) rfl (Or.inr ⟨by rfl, rfl⟩) (by assumption) ?_
        try simp only [Act.put, qqA, qqB, qqC]
        refine wtk (i := 9) (oi := oVoJ9) (v := undef) rfl (Or.inr ⟨by rfl, rfl⟩) (by assumption) ?_
        try simp only [Act.put, qqA, qqB, qqC]
        refine wtk (i := 10) (oi := oVoJ10) (v := undef) rfl (Or.inr ⟨by rfl, rfl⟩) (by assumption) ?_
        try simp only [Act.put, qqA, qqB, qqC]
        refine wtk (i := 11) (oi := oVoJ11) (v := undef) rfl (Or.inr ⟨by rfl, rfl⟩) (by assumption) ?_
        try simp only [Act.put, qqA, qqB, qqC]
        refine wtk (i := 12) (oi := oVoJ12) (v := undef) rfl (Or.inr ⟨by rfl, rfl⟩) (by assumption) ?_
        try simp only [Act.put, qqA, qqB, qqC]
        refine wtk (i := 13) (oi := oVoJ13) (v := ?_) rfl (Or.inl ⟨by rfl, ?_⟩) (by assumption) ?_
        rotate_left 1
        · (intro w' hSw; (try dsimp only at hSw); go_simp; try with_reducible rfl)
        try simp only [Act.put, qqA, qqB, qqC]
        refine wpAnyH_done (by kernel_rfl) ?_ _
        go_wp2_with fail
        go_ret
        exact ⟨rfl, (unhide HB1).drew⟩
      | true =>
        have HN10 : Hid (n ≤ 10) := by show _ ≤ _; have h := rise_len (by omega) (unhide HU).symm; have := unhide HN; omega
        have HNC : Hid ((celL l).length = n) := by show _ = _; rw [celL_len]; exact unhide HN
        have HSC : Hid (∀ k (h : k < (celL l).length), (celL l)[k].size ≤ 1048576) := fun k h => by rw [celL_at l k (by rwa [celL_len] at h)]; exact unhide HS k (by rwa [celL_len] at h)
        obtain ⟨q, hq⟩ : ∃ q, q = bset (rowAt W (celL l)) n := ⟨_, rfl⟩
        have HQB := hide hq
        obtain ⟨p, hp⟩ : ∃ p, p = 2 ^ n - 1 := ⟨_, rfl⟩
        have HP := hide hp
        obtain ⟨V, hV⟩ : ∃ V, V = (celL l).all (rowB W) := ⟨_, rfl⟩
        have hqp : ((q : Int) != (p : Int)) = !V := by
          rw [hV, ← rows_set (unhide HNC), ← hq, ← hp]
          by_cases e : q = p
          · rw [decide_eq_true e, e]; simp
          · rw [decide_eq_false e]; simp; omega
        have HQ3 : Hid (Q = (V && if fu then decide (fr = 0) && decide ((l.length : Int) = (H : Int)) else inB fr 0 (nb - 1))) := by show _ = _; rw [hV]; exact unhide HQ2
        clear hq hp hV HQ2
        go_wp2_with fail
        refine wp_region_held_drew (S := (fun w' => ∀ o, w'.cell? ⟨w.heap.size, o, none⟩ = (#[.int .i64 nb, .int .i64 fr, .bool fu, .int .i64 (W : Int), .int .i64 (H : Int), .slice a n cap] : Array Value)[o]?)) (by kernel_rfl) (fun o => (unhide HA1).S o) (fun hHeld => ?_)
        refine wtk (i := 0) (oi := oVoJ0) (v := ?_) rfl (Or.inl ⟨by rfl, ?_⟩) (by assumption) ?_
        rotate_left 1
        · (intro w' hSw; (try dsimp only at hSw); go_simp; try with_reducible rfl)
        try simp only [Act.put, qqA, qqB, qqC]
        refine wtk (i := 1) (oi := oVoJ1) (v := ?_) rfl (Or.inl ⟨by rfl, ?_⟩) (by assumption) ?_
        rotate_left 1
        · (intro w' hSw; (try dsimp only at hSw); go_simp; try with_reducible rfl)
        try simp only [Act.put, qqA, qqB, qqC]
        refine wtk (i := 2) (oi := oVoJ2) (v := ?_) rfl (Or.inl ⟨by rfl, ?_⟩) (by assumption) ?_
        rotate_left 1
        · (intro w' hSw; (try dsimp only at hSw); go_simp; try with_reducible rfl)
        try simp only [Act.put, qqA, qqB, qqC]
        refine wtk (i := 3) (oi := oVoJ3) (v := ?_) rfl (Or.inl ⟨by rfl, ?_⟩) (by assumption) ?_
        rotate_left 1
        · (intro w' hSw; (try dsimp only at hSw); go_simp; try with_reducible rfl)
        try simp only [Act.put, qqA, qqB, qqC]
        refine wtk (i := 5) (oi := oVoJ5) (v := ?_) rfl (Or.inl ⟨by rfl, ?_⟩) (by assumption) ?_
        rotate_left 1
        · (intro w' hSw; (try dsimp only at hSw); go_simp; try with_reducible rfl)
        try simp only [Act.put, qqA, qqB, qqC]
        refine wtk (i := 6) (oi := oVoJ6) (v := ?_) rfl (Or.inl ⟨by rfl, ?_⟩) (by assumption) ?_
        rotate_left 1
        · (intro w' hSw; (try dsimp only at hSw); go_simp; try with_reducible rfl)
        try simp only [Act.put, qqA, qqB, qqC]
        refine wtk (i := 8) (oi := oVoJ8) (v := ?_) rfl (Or.inl ⟨by rfl, ?_⟩) (by assumption) ?_
        rotate_left 1
        · (intro w' hSw; (try dsimp only at hSw); go_simp; try with_reducible rfl)
        try simp only [Act.put, qqA, qqB, qqC]
        refine wtk (i := 9) (oi := oVoJ9) (v := ?_) rfl (Or.inl ⟨by rfl, ?_⟩) (by assumption) ?_
        rotate_left 1
        · (intro w' hSw; (try dsimp only at hSw); go_simp; try with_reducible rfl)
        try simp only [Act.put, qqA, qqB, qqC]
        refine wtk (i := 10) (oi := oVoJ10) (v := ?_) rfl (Or.inl ⟨by rfl, ?_⟩) (by assumption) ?_
        rotate_left 1
        · (intro w' hSw; (try dsimp only at hSw); go_simp; try with_reducible rfl)
        try simp only [Act.put, qqA, qqB, qqC]
        refine wpAnyH_ready (rs := [4]) (by kernel_rfl) (by simp) ?_
        refine AllReadyH.cons (o := oVoJ4) rfl (fun K hK => ?_) AllReadyH.nil
        go_simp
        refine (icelV nb fr fu (W : Int) (H : Int) a cap n l HN (unhide HNI) _ ((unhide HR1).below (Below.refl _ _).drew)).mono ?_
        rintro e w3 ⟨v3, rfl, ho3, hb3⟩
        obtain ⟨a3, c3, rfl, hr3⟩ := own_rowV ho3
        have HR3 := hide hr3
        have HB3 := hide ((unhide HB1).trans ((below_undrew hb3).mono (unhide HB1).size))
        have HA3 := hide ((unhide HA1).below (below_undrew hb3))
        clear ho3 hb3 hr3
        go_wp2_with fail
        refine hK.out _ _ ?_ (fun hHeld4 => ?_)
        · exact fun o => (unhide HA3).S o
        clear hK K
        try simp only [Act.put, qqA, qqB, qqC]
        refine wpAnyH_ready (rs := [7]) (by kernel_rfl) (by simp) ?_
        refine AllReadyH.cons (o := oVoJ7) rfl (fun K hK => ?_) AllReadyH.nil
        go_simp
        refine (iright a3 c3 W n hW2 (celL l) HNC (unhide HN10) HSC q HQB _ (unhide HR3)).mono ?_
        rintro e w4 ⟨rfl, hb4⟩
        have HB4 := hide ((unhide HB3).trans (hb4.mono (unhide HB3).size))
        have HA4 := hide ((unhide HA3).below hb4)
        clear hb4
        go_wp2_with fail
        refine hK.out _ _ ?_ (fun hHeld7 => ?_)
        · exact fun o => (unhide HA4).S o
        clear hK K
        try simp only [Act.put, qqA, qqB, qqC]
        refine wpAnyH_ready (rs := [11]) (by kernel_rfl) (by simp) ?_
        refine AllReadyH.cons (o := oVoJ11) rfl (fun K hK => ?_) AllReadyH.nil
        go_simp
        refine (ifirstR n p (unhide HN10) HP _).mono ?_
        rintro e w5 ⟨rfl, hw5⟩
        subst w5
        go_wp2_with fail
        refine hK.out _ _ ?_ (fun hHeld11 => ?_)
        · exact fun o => (unhide HA4).S o
        clear hK K
        try simp only [Act.put, qqA, qqB, qqC]
        refine wtk (i := 12) (oi := oVoJ12) (v := ?_) rfl (Or.inl ⟨by rfl, ?_⟩) (by assumption) ?_
        rotate_left 1
        · (intro w' hSw; (try dsimp only at hSw); go_simp; try with_reducible rfl)
        try simp only [Act.put, qqA, qqB, qqC]
        refine wtk (i := 13) (oi := oVoJ13) (v := ?_) rfl (Or.inl ⟨by rfl, ?_⟩) (by assumption) ?_
        rotate_left 1
        · (intro w' hSw; (try dsimp only at hSw); go_simp; try with_reducible rfl)
        try simp only [Act.put, qqA, qqB, qqC]
        refine wpAnyH_done (by kernel_rfl) ?_ _
        clear HA1 HA3 HR1 HR3 HB1 HB3
        cases V with
        | false =>
          obtain rfl : Q = false := unhide HQ3
          go_wp2_with fail
          go_ret
          exact ⟨rfl, unhide HB4⟩
        | true =>
          have kA := (unhide HA4).S
          cases fu with
          | false =>
            obtain ⟨c5, hc5⟩ : ∃ c, c = inB fr 0 (nb - 1) := ⟨_, rfl⟩
            have HC5 := hide hc5
            obtain rfl : Q = c5 := by rw [hc5]; exact unhide HQ3
            clear hc5
            go_wp2_with (go_at_call 48; refine (iwi fr 0 _ Q HC5 _).mono ?_; rintro e w6 ⟨rfl, rfl⟩)
            go_ret
            exact ⟨rfl, unhide HB4⟩
          | true =>
            obtain ⟨p2, hp2⟩ : ∃ p, p = 2 ^ H - 1 := ⟨_, rfl⟩
            have HP2 := hide hp2
            by_cases h5 : fr = 0
            · subst h5
              have htp : ((t : Int) == (p2 : Int)) = Q := by
                have h6 : Q = decide ((l.length : Int) = (H : Int)) := by have h := unhide HQ3; simpa using h
                rw [h6, ← tol_full hH2 (unhide HU).symm, hp2]
                have h7 : t = tol l l.length := by rw [unhide HN]; exact unhide HT
                rw [h7]
                generalize tol l l.length = x
                generalize 2 ^ H - 1 = y
                rw [Bool.eq_iff_iff]
                simp only [beq_iff_eq, decide_eq_true_eq]
                omega
              clear hp2
              go_wp2_with (go_at_call 47; refine (ifirstR H p2 hH2 HP2 _).mono ?_; rintro e w6 ⟨rfl, rfl⟩)
              go_ret
              exact ⟨rfl, unhide HB4⟩
            · have h5' : (fr == 0) = false := by simpa using h5
              obtain rfl : Q = false := by have h := unhide HQ3; rw [decide_eq_false h5] at h; simpa using h
              clear h5 hp2
              go_wp2_with fail
              go_ret
              exact ⟨rfl, unhide HB4⟩
end Go.Proofs.YtblhediekdeffaaDoor
