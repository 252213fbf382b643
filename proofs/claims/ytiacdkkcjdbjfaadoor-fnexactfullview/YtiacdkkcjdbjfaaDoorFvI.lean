/- FullView: what the program answers. -/
import Derived.Test.YtiacdkkcjdbjfaaDoorFvM
import Derived.Test.YtiacdkkcjdbjfaaDoorPkI
namespace Go.Proofs.YtiacdkkcjdbjfaaDoor
open Go.ChangeShapes Go.WideShapes Go.ChangeAt Go.RowKit
set_option linter.unusedVariables false
set_option maxHeartbeats 4000000 in
set_option maxRecDepth 100000 in
theorem ifull11 (nb vw vh : Int) (a : Option Addr) (cap n : Nat) (R : List ByteArray) (HN : Hid (R.length = n)) (hn : n ≤ 1048576) (HS : Hid (∀ k (h : k < R.length), R[k].size ≤ 1048576)) (nb2 : Int) (fu2 : Bool) (w2 h2 : Int) (L : List Rw) (c : Int) (HI : Hid (FvIs nb vw vh R nb2 fu2 w2 h2 L c)) (w : World) (hr : RowV w a (cS R)) (hT : TzTab w) :
    Calls Tryd.prog 7 #[.int .i64 nb, .int .i64 vw, .int .i64 vh, .slice a n cap] w fun e w' => ∃ v, e = .returned (.tuple #[.agg #[.int .i64 nb2, .int .i64 0, .bool fu2, .int .i64 w2, .int .i64 h2, v], .int .i64 c]) ∧ w'.ownsRow w.heap.size 49 2 v L.length (cE L) ∧ Below w.heap.size w w' := by
  have B0 := hide (Go.Joins.below_alloc1 w (.cells #[.int .i64 0, .int .i64 0, .bool false, .int .i64 0, .int .i64 0, .slice none 0 0] 26))
  have HZ0 := hide (BF.new w #[.int .i64 0, .int .i64 0, .bool false, .int .i64 0, .int .i64 0, .slice none 0 0] 26)
  have HR := hide hr
  have HNI := hide hn
  clear hr hn
  have HTZ := hide hT
  clear hT
  have hC : c = fvC nb vw vh R := (unhide HI).1
  by_cases hlong : (4096 : Int) < (n : Int)
  · have hc : c = 2 := by rw [hC]; unfold fvC; rw [unhide HN, if_pos (by omega)]
    obtain ⟨rfl, rfl, rfl, rfl, rfl⟩ := (unhide HI).2.2 (by rw [hc]; decide)
    subst hc
    clear hC HI
    go_enter Tryd.func7, Tryd.ntmps7
    go_wp2_with fail
    refine bodyPost_ret (v := .tuple #[.agg #[.int .i64 0, .int .i64 0, .bool false, .int .i64 0, .int .i64 0, .slice none 0 0], .int .i64 2]) (by simp [results, Tryd.results7, go_sem]) rfl ?_
    exact ⟨_, rfl, World.ownsRow_nil _ _ _ _, by (repeat refine Below.setCell ?_ (by exact Nat.le_refl _) _); exact unhide B0⟩
  · have hn4 : n ≤ 4096 := by omega
    have hC2 : c = if inB nb 0 60 && sizeB vw vh then (if rowsB vw.toNat vh.toNat R then 0 else 1) else 4 := by rw [hC]; unfold fvC; rw [unhide HN, if_neg (by omega)]
    clear hC
    obtain ⟨c1, hc1⟩ : ∃ c, c = inB nb 0 60 := ⟨_, rfl⟩
    have HC1 := hide hc1
    rw [← hc1] at hC2
    clear hc1
    cases c1 with
    | false =>
      have hc : c = 4 := hC2
      obtain ⟨rfl, rfl, rfl, rfl, rfl⟩ := (unhide HI).2.2 (by rw [hc]; decide)
      subst hc
      clear HI
      go_enter Tryd.func7, Tryd.ntmps7
      go_wp2_with (go_at_call 17; refine (inumok _ false HC1 _).mono ?_; rintro e w3 ⟨rfl, rfl⟩)
      refine bodyPost_ret (v := .tuple #[.agg #[.int .i64 0, .int .i64 0, .bool false, .int .i64 0, .int .i64 0, .slice none 0 0], .int .i64 4]) (by simp [results, Tryd.results7, go_sem]) rfl ?_
      exact ⟨_, rfl, World.ownsRow_nil _ _ _ _, by (repeat refine Below.setCell ?_ (by exact Nat.le_refl _) _); exact unhide B0⟩
    | true =>
      cases hc2 : sizeB vw vh with
      | false =>
        have hc : c = 4 := by rw [hC2, hc2]; rfl
        obtain ⟨rfl, rfl, rfl, rfl, rfl⟩ := (unhide HI).2.2 (by rw [hc]; decide)
        subst hc
        have HC2 := hide hc2
        clear HI hc2 hC2
        go_enter Tryd.func7, Tryd.ntmps7
        go_wp2_with (first | (go_at_call 17; refine (inumok _ true HC1 _).mono ?_; rintro e w3 ⟨rfl, rfl⟩) | (go_at_call 18; refine (isize _ _ _).mono ?_; rintro e w3 ⟨rfl, rfl⟩; rw [unhide HC2]))
        refine bodyPost_ret (v := .tuple #[.agg #[.int .i64 0, .int .i64 0, .bool false, .int .i64 0, .int .i64 0, .slice none 0 0], .int .i64 4]) (by simp [results, Tryd.results7, go_sem]) rfl ?_
        exact ⟨_, rfl, World.ownsRow_nil _ _ _ _, by (repeat refine Below.setCell ?_ (by exact Nat.le_refl _) _); exact unhide B0⟩
      | true =>
        obtain ⟨W, H, rfl, rfl, hW1, hW2, hH1, hH2⟩ := sizeB_nat hc2
        obtain ⟨c3, hc3⟩ : ∃ c, c = rowsB W H R := ⟨_, rfl⟩
        have HC3 := hide hc3
        have hC3 : c = if c3 then 0 else 1 := by rw [hC2, hc2, hc3]; simp
        have HC2 := hide hc2
        clear hc2 hC2 hc3
        cases c3 with
        | false =>
          have hc : c = 1 := hC3
          obtain ⟨rfl, rfl, rfl, rfl, rfl⟩ := (unhide HI).2.2 (by rw [hc]; decide)
          subst hc
          clear HI
          go_enter Tryd.func7, Tryd.ntmps7
          go_wp2_with (first | (go_at_call 17; refine (inumok _ true HC1 _).mono ?_; rintro e w3 ⟨rfl, rfl⟩) | (go_at_call 18; refine (isize _ _ _).mono ?_; rintro e w3 ⟨rfl, rfl⟩; rw [unhide HC2]) | (go_at_call 19; refine (irowsok a cap W H n hW2 hH2 R HN (unhide HNI) HS false HC3 _ ((unhide HR).below (unhide B0))).mono ?_; rintro e w4 ⟨rfl, hb4⟩; have HB4 := hide ((unhide B0).trans (hb4.mono (unhide B0).size)); have HZ4 := hide ((unhide HZ0).below hb4); have kz4 := (unhide HZ4).S; have kf4 := (unhide HZ4).F; clear hb4))
          refine bodyPost_ret (v := .tuple #[.agg #[.int .i64 0, .int .i64 0, .bool false, .int .i64 0, .int .i64 0, .slice none 0 0], .int .i64 1]) (by simp [results, Tryd.results7, go_sem, kz4]) rfl ?_
          exact ⟨_, rfl, World.ownsRow_nil _ _ _ _, by (repeat refine Below.setCell ?_ (by exact Nat.le_refl _) _); exact unhide HB4⟩
        | true =>
          have hc : c = 0 := hC3
          obtain ⟨e1, e2, e3, e4, e5⟩ := (unhide HI).2.1 hc
          have HE5 := hide e5
          subst e1 e2 e3 e4 hc
          clear HI hC3 e5
          have HL2 : Hid (L = pkL R (picks (2 ^ H - 1))) := by show _ = _; rw [unhide HE5, picks_first H (by omega)]; simp
          have HNH : Hid (n = H) := by
            show _ = _
            have h := (unhide HC3).symm
            unfold rowsB at h
            rw [Bool.and_eq_true, decide_eq_true_eq] at h
            rw [← unhide HN]; exact h.1
          obtain ⟨p, hp⟩ : ∃ p, p = 2 ^ H - 1 := ⟨_, rfl⟩
          have HP := hide hp
          have hp10 : p < 1024 := by rw [hp]; have := pow_le10 hH2; have := Nat.two_pow_pos H; omega
          have HPI : Hid (∀ y ∈ picks p, y < n) := fun y hy => by rw [hp, picks_first H (by omega), List.mem_range] at hy; rw [unhide HNH]; exact hy
          rw [← hp] at HL2
          clear hp
          go_enter Tryd.func7, Tryd.ntmps7
          go_wp2_with (first | (go_at_call 17; refine (inumok _ true HC1 _).mono ?_; rintro e w3 ⟨rfl, rfl⟩) | (go_at_call 18; refine (isize _ _ _).mono ?_; rintro e w3 ⟨rfl, rfl⟩; rw [unhide HC2]) | (go_at_call 19; refine (irowsok a cap W H n hW2 hH2 R HN (unhide HNI) HS true HC3 _ ((unhide HR).below (unhide B0))).mono ?_; rintro e w4 ⟨rfl, hb4⟩; have HB4 := hide ((unhide B0).trans (hb4.mono (unhide B0).size)); have HZ4 := hide ((unhide HZ0).below hb4); have kz4 := (unhide HZ4).S; have kf4 := (unhide HZ4).F; clear hb4) | (go_at_call 21; refine (ifirstR H p hH2 HP _).mono ?_; rintro e w5 ⟨rfl, hw5⟩; subst w5) | (go_at_call 20; refine (ipicked a cap n p hp10 R HN HPI _ ((unhide HR).below (unhide HB4)) ((unhide HTZ).below (unhide HB4) (unhide HTZ).pos)).mono ?_; rintro e w6 ⟨v6, rfl, ho6, hb6⟩; obtain ⟨a6, c6, rfl, -⟩ := ownZ_rowV ho6; have HB6 := hide ((unhide HB4).trans (hb6.mono (unhide HB4).size)); have HZ6 := hide ((unhide HZ4).below hb6); have kz6 := (unhide HZ6).S; have kf6 := (unhide HZ6).F; have z4 := (unhide HZ4).lt; have HO6 := hide (Go.Joins.ownsRow_le ho6 (Nat.succ_le_of_lt z4)); clear kz4 kf4 hb6 ho6))
          refine bodyPost_ret (v := .tuple #[.agg #[.int .i64 nb2, .int .i64 0, .bool true, .int .i64 (W : Int), .int .i64 (H : Int), .slice a6 (picks p).length c6], .int .i64 0]) (by simp [results, Tryd.results7, go_sem, kz6]) rfl ?_
          refine ⟨_, rfl, ?_, ?_⟩
          · rw [unhide HL2, pkL_len]
            refine Go.Joins.ownsRow_le (base := w.heap.size + 1) ?_ (by omega)
            repeat refine ownsRow_setCell_below ?_ (by exact Nat.lt_succ_self _) _
            exact unhide HO6
          · repeat refine Below.setCell ?_ (by exact Nat.le_refl _) _
            exact unhide HB6
end Go.Proofs.YtiacdkkcjdbjfaaDoor
