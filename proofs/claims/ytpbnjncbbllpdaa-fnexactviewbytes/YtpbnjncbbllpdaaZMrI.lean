/- MirrorOK: what the program answers. -/
import Derived.Test.YtpbnjncbbllpdaaZVwI
namespace Go.Proofs.Ytpbnjncbbllpdaa
open Go.ChangeShapes Go.WideShapes Go.ChangeAt Go.RowKit
set_option linter.unusedVariables false
/-- Number, W, H, the rows. -/
def mirB (nb W H : Int) (R : List ByteArray) : Bool := if nb = -1 then decide (W = 0) && (decide (H = 0) && decide (R.length = 0)) else inB nb 0 60 && (sizeB W H && rowsB W.toNat H.toNat R)
set_option maxHeartbeats 400000 in
set_option maxRecDepth 100000 in
theorem inumok (x : Int) (R : Bool) (HR : Hid (R = inB x 0 60)) (w : World) : Calls Try.prog 33 #[.int .i64 x] w fun e w' => e = .returned (.bool R) ∧ w' = w := by
  go_enter Try.func33, Try.ntmps33
  go_wp2_with (go_at_call 39; refine (iwi x 0 60 R HR _).mono ?_; rintro e w2 ⟨rfl, rfl⟩)
  go_ret
  exact ⟨rfl, rfl⟩
theorem sizeB_nat {W H : Int} (h : sizeB W H = true) : ∃ a b : Nat, W = (a : Int) ∧ H = (b : Int) ∧ 2 ≤ a ∧ a ≤ 24 ∧ 2 ≤ b ∧ b ≤ 10 := by
  have h1 : 2 ≤ W ∧ W ≤ 24 ∧ 2 ≤ H ∧ H ≤ 10 := of_decide_eq_true h
  exact ⟨W.toNat, H.toNat, by omega, by omega, by omega, by omega, by omega, by omega⟩
end Go.Proofs.Ytpbnjncbbllpdaa
