/- MirrorOK: what the program answers. -/
import Derived.Test.YtnbifggochgagaaDoorVwI
namespace Go.Proofs.YtnbifggochgagaaDoor
open Go.ChangeShapes Go.WideShapes Go.ChangeAt Go.RowKit
set_option linter.unusedVariables false
/-- Number, W, H, the rows. -/
def mirB (nb W H : Int) (R : List ByteArray) : Bool := if nb = -1 then decide (W = 0) && (decide (H = 0) && decide (R.length = 0)) else inB nb 0 60 && (sizeB W H && rowsB W.toNat H.toNat R)
set_option maxHeartbeats 400000 in
set_option maxRecDepth 100000 in
theorem inumok (x : Int) (R : Bool) (HR : Hid (R = inB x 0 60)) (w : World) : Calls Tryd.prog 16 #[.int .i64 x] w fun e w' => e = .returned (.bool R) ∧ w' = w := by
  go_enter Tryd.func16, Tryd.ntmps16
  go_wp2_with (go_at_call 17; refine (iwi x 0 60 R HR _).mono ?_; rintro e w2 ⟨rfl, rfl⟩)
  go_ret
  exact ⟨rfl, rfl⟩
theorem sizeB_nat {W H : Int} (h : sizeB W H = true) : ∃ a b : Nat, W = (a : Int) ∧ H = (b : Int) ∧ 2 ≤ a ∧ a ≤ 24 ∧ 2 ≤ b ∧ b ≤ 10 := by
  have h1 : 2 ≤ W ∧ W ≤ 24 ∧ 2 ≤ H ∧ H ≤ 10 := of_decide_eq_true h
  exact ⟨W.toNat, H.toNat, by omega, by omega, by omega, by omega, by omega, by omega⟩
set_option maxHeartbeats 1000000 in
set_option maxRecDepth 100000 in
theorem irowsok (a : Option Addr) (cap W H n : Nat) (hW : W ≤ 24) (hH : H ≤ 10) (R : List ByteArray) (HN : Hid (R.length = n)) (hn : n ≤ 1048576) (HS : Hid (∀ k (h : k < R.length), R[k].size ≤ 1048576)) (Q : Bool) (HQ : Hid (Q = rowsB W H R)) (w : World) (hr : RowV w a (cS R)) :
    Calls Tryd.prog 19 #[.slice a n cap, .int .i64 (W : Int), .int .i64 (H : Int)] w fun e w' => e = .returned (.bool Q) ∧ Below w.heap.size w w' := by
  have HR := hide hr
  have B0 := hide (Below.refl w.heap.size w)
  clear hr
  by_cases hnH : n = H
  · subst hnH
    obtain ⟨q, hq⟩ : ∃ q, q = bset (rowAt W R) n := ⟨_, rfl⟩
    obtain ⟨p, hp⟩ : ∃ p, p = 2 ^ n - 1 := ⟨_, rfl⟩
    have HB := hide hq
    have HP := hide hp
    have hne : ((n : Int) == (n : Int)) = true := by simp
    have hqp : ((q : Int) == (p : Int)) = Q := by
      rw [unhide HQ, hq, hp]
      unfold rowsB
      rw [decide_eq_true (unhide HN), Bool.true_and, ← rows_set (unhide HN), Bool.eq_iff_iff]
      simp only [beq_iff_eq, decide_eq_true_eq]
      generalize bset (rowAt W R) n = x
      generalize 2 ^ n - 1 = y
      omega
    clear hq hp
    go_enter Tryd.func19, Tryd.ntmps19
    go_wp2_with (first | (go_at_call 27; refine (iright a cap W n hW R HN hH HS q HB _ (unhide HR)).mono ?_; rintro e w2 ⟨rfl, hb2⟩; have HB2 := hide hb2; clear hb2) | (go_at_call 28; refine (ifirstR n p hH HP _).mono ?_; rintro e w3 ⟨rfl, rfl⟩))
    go_ret
    exact ⟨rfl, unhide HB2⟩
  · have hne : ((n : Int) == (H : Int)) = false := by rw [beq_eq_false_iff_ne]; omega
    obtain rfl : Q = false := by rw [unhide HQ]; unfold rowsB; rw [unhide HN, decide_eq_false hnH]; rfl
    clear hnH HQ
    go_enter Tryd.func19, Tryd.ntmps19
    go_wp2_with fail
    go_ret
    exact ⟨rfl, unhide B0⟩
end Go.Proofs.YtnbifggochgagaaDoor
