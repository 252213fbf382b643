/- MirrorOK: what the program answers. -/
import Derived.Test.YtilnpkonhbmdpaaDoorZVwI
namespace Go.Proofs.YtilnpkonhbmdpaaDoor
open Go.ChangeShapes Go.WideShapes Go.ChangeAt Go.RowKit
set_option linter.unusedVariables false
/-- Number, W, H, the rows. -/
def mirB (nb W H : Int) (R : List ByteArray) : Bool := if nb = -1 then decide (W = 0) && (decide (H = 0) && decide (R.length = 0)) else inB nb 0 60 && (sizeB W H && rowsB W.toNat H.toNat R)
set_option maxHeartbeats 400000 in
set_option maxRecDepth 100000 in
theorem inumok (x : Int) (R : Bool) (HR : Hid (R = inB x 0 60)) (w : World) : Calls Tryd.prog 25 #[.int .i64 x] w fun e w' => e = .returned (.bool R) ∧ w' = w := by
  go_enter Tryd.func25, Tryd.ntmps25
  go_wp2_with (go_at_call 35; refine (iwi x 0 60 R HR _).mono ?_; rintro e w2 ⟨rfl, rfl⟩)
  go_ret
  exact ⟨rfl, rfl⟩
theorem sizeB_nat {W H : Int} (h : sizeB W H = true) : ∃ a b : Nat, W = (a : Int) ∧ H = (b : Int) ∧ 2 ≤ a ∧ a ≤ 24 ∧ 2 ≤ b ∧ b ≤ 10 := by
  have h1 : 2 ≤ W ∧ W ≤ 24 ∧ 2 ≤ H ∧ H ≤ 10 := of_decide_eq_true h
  exact ⟨W.toNat, H.toNat, by omega, by omega, by omega, by omega, by omega, by omega⟩
set_option maxHeartbeats 1000000 in
set_option maxRecDepth 100000 in
theorem irowsok (a : Option Addr) (cap W H n : Nat) (hW : W ≤ 24) (hH : H ≤ 10) (R : List ByteArray) (HN : Hid (R.length = n)) (hn : n ≤ 1048576) (HS : Hid (∀ k (h : k < R.length), R[k].size ≤ 1048576)) (Q : Bool) (HQ : Hid (Q = rowsB W H R)) (w : World) (hr : RowV w a (cS R)) :
    Calls Tryd.prog 27 #[.slice a n cap, .int .i64 (W : Int), .int .i64 (H : Int)] w fun e w' => e = .returned (.bool Q) ∧ Below w.heap.size w w' := by
  have HR := hide hr
  have B0 := hide (Below.refl w.heap.size w)
  clear hr
  by_cases hnH : n = H
  · subst hnH
    obtain ⟨q, hq⟩ : ∃ q, q = bset (rowAt W R) n := ⟨_, rfl⟩
    obtain ⟨p, hp⟩ : ∃ p, p = 2 ^ n - 1 := ⟨_, rfl⟩
    have HB := hide hq
    have HP := hide hp
    have hne : ((n : Int) == (n : Int)) = true := by simp
    have hqp : ((q : Int) == (p : Int)) = Q := by
      rw [unhide HQ, hq, hp]
      unfold rowsB
      rw [decide_eq_true (unhide HN), Bool.true_and, ← rows_set (unhide HN), Bool.eq_iff_iff]
      simp only [beq_iff_eq, decide_eq_true_eq]
      generalize bset (rowAt W R) n = x
      generalize 2 ^ n - 1 = y
      omega
    clear hq hp
    go_enter Tryd.func27, Tryd.ntmps27
    go_wp2_with (first | (go_at_call 36; refine (iright a cap W n hW R HN hH HS q HB _ (unhide HR)).mono ?_; rintro e w2 ⟨rfl, hb2⟩; have HB2 := hide hb2; clear hb2) | (go_at_call 37; refine (ifirstR n p hH HP _).mono ?_; rintro e w3 ⟨rfl, rfl⟩))
    go_ret
    exact ⟨rfl, unhide HB2⟩
  · have hne : ((n : Int) == (H : Int)) = false := by rw [beq_eq_false_iff_ne]; omega
    obtain rfl : Q = false := by rw [unhide HQ]; unfold rowsB; rw [unhide HN, decide_eq_false hnH]; rfl
    clear hnH HQ
    go_enter Tryd.func27, Tryd.ntmps27
    go_wp2_with fail
    go_ret
    exact ⟨rfl, unhide B0⟩
set_option maxHeartbeats 1000000 in
set_option maxRecDepth 100000 in
theorem imirok (nb vw vh : Int) (a : Option Addr) (cap n : Nat) (R : List ByteArray) (HN : Hid (R.length = n)) (hn : n ≤ 1048576) (HS : Hid (∀ k (h : k < R.length), R[k].size ≤ 1048576)) (Q : Bool) (HQ : Hid (Q = mirB nb vw vh R)) (w : World) (hr : RowV w a (cS R)) :
    Calls Tryd.prog 14 #[.agg #[.int .i64 nb, .int .i64 vw, .int .i64 vh, .slice a n cap]] w fun e w' => e = .returned (.bool Q) ∧ Below w.heap.size w w' := by
  have B0 := hide (Go.Joins.below_alloc1 w (.cells #[.int .i64 nb, .int .i64 vw, .int .i64 vh, .slice a n cap] 29))
  have HR := hide (hr.below (unhide B0))
  have HNI := hide hn
  clear hr
  by_cases h1 : nb = -1
  · subst h1
    have hQ : Q = (decide (vw = 0) && (decide (vh = 0) && decide (n = 0))) := by rw [unhide HQ]; unfold mirB; rw [if_pos rfl, unhide HN]
    clear HQ
    by_cases h2 : vw = 0
    · subst h2
      by_cases h3 : vh = 0
      · subst h3
        have hq : ((n : Int) == 0) = Q := by rw [hQ, Bool.eq_iff_iff]; simp
        clear hQ
        go_enter Tryd.func14, Tryd.ntmps14
        go_wp2_with fail
        go_ret
        exact ⟨rfl, unhide B0⟩
      · have h3' : (vh == 0) = false := by simpa using h3
        obtain rfl : Q = false := by rw [hQ, decide_eq_false h3]; simp
        clear hQ h3
        go_enter Tryd.func14, Tryd.ntmps14
        go_wp2_with fail
        go_ret
        exact ⟨rfl, unhide B0⟩
    · have h2' : (vw == 0) = false := by simpa using h2
      obtain rfl : Q = false := by rw [hQ, decide_eq_false h2]; rfl
      clear hQ h2
      go_enter Tryd.func14, Tryd.ntmps14
      go_wp2_with fail
      go_ret
      exact ⟨rfl, unhide B0⟩
  · have h1' : (nb == -1) = false := by simpa using h1
    have hQ : Q = (inB nb 0 60 && (sizeB vw vh && rowsB vw.toNat vh.toNat R)) := by rw [unhide HQ]; unfold mirB; rw [if_neg h1]
    clear HQ h1
    obtain ⟨c1, hc1⟩ : ∃ c, c = inB nb 0 60 := ⟨_, rfl⟩
    have HC1 := hide hc1
    rw [← hc1] at hQ
    cases c1 with
    | false =>
      obtain rfl : Q = false := hQ
      clear hc1
      go_enter Tryd.func14, Tryd.ntmps14
      go_wp2_with (go_at_call 25; refine (inumok nb false HC1 _).mono ?_; rintro e w2 ⟨rfl, rfl⟩)
      go_ret
      exact ⟨rfl, unhide B0⟩
    | true =>
      cases hc2 : sizeB vw vh with
      | false =>
        obtain rfl : Q = false := by rw [hQ, hc2]; rfl
        have HC2 := hide hc2
        clear hc1 hc2 hQ
        go_enter Tryd.func14, Tryd.ntmps14
        go_wp2_with (first | (go_at_call 25; refine (inumok nb true HC1 _).mono ?_; rintro e w2 ⟨rfl, rfl⟩) | (go_at_call 26; refine (isize vw vh _).mono ?_; rintro e w2 ⟨rfl, rfl⟩; rw [unhide HC2]))
        go_ret
        exact ⟨rfl, unhide B0⟩
      | true =>
        obtain ⟨W, H, rfl, rfl, hW1, hW2, hH1, hH2⟩ := sizeB_nat hc2
        have HQ2 : Hid (Q = rowsB W H R) := by show _ = _; rw [hQ, hc2]; simp
        have HC2 := hide hc2
        clear hc1 hc2 hQ
        go_enter Tryd.func14, Tryd.ntmps14
        go_wp2_with (first | (go_at_call 25; refine (inumok nb true HC1 _).mono ?_; rintro e w2 ⟨rfl, rfl⟩) | (go_at_call 26; refine (isize _ _ _).mono ?_; rintro e w2 ⟨rfl, rfl⟩; rw [unhide HC2]) | (go_at_call 27; refine (irowsok a cap W H n hW2 hH2 R HN (unhide HNI) HS Q HQ2 _ (unhide HR)).mono ?_; rintro e w2 ⟨rfl, hb2⟩; have HB2 := hide ((unhide B0).trans (hb2.mono (unhide B0).size)); clear hb2))
        go_ret
        exact ⟨rfl, unhide HB2⟩
end Go.Proofs.YtilnpkonhbmdpaaDoor
