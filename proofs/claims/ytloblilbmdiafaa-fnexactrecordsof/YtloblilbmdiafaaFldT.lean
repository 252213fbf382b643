/- fieldsText: what the program answers. -/
import Derived.Test.YtloblilbmdiafaaRecM
import Derived.Test.YtloblilbmdiafaaFieldsI
import Derived.Test.YtloblilbmdiafaaNumT
namespace Go.Proofs.Ytloblilbmdiafaa
open Go.ChangeShapes Go.WideShapes Go.ChangeAt Go.RowKit
set_option linter.unusedVariables false
set_option maxHeartbeats 400000 in
theorem ifldtext (a : Option Addr) (cap : Nat) (l : List ByteArray) (hsz : ∀ x ∈ l, x.size ≤ 400) (hl : l.length ≤ 3) (w : World) (hr : RowV w a (cS l)) : Calls Try.prog 18 #[.slice a l.length cap] w fun e w' => e = .returned (.string (recT l)) ∧ Below w.heap.size w w' := by
  have hfb := fb_ok (l := l) (by omega) (short_of hsz (by decide)) (fsum_of (n := 3) hsz hl (by decide))
  have T := hide (ifieldsH a cap l (be l.length 1 ++ fieldsL l) 0 hfb.1.symm hfb.2.symm (by omega) (fun k h => Nat.le_trans (hsz _ (List.getElem_mem h)) (by decide)) w hr)
  unfold recT
  obtain ⟨L, hL⟩ : ∃ L, L = be l.length 1 ++ fieldsL l := ⟨_, rfl⟩
  rw [← hL] at T
  rw [← hL]
  clear hr hL hfb hsz hl
  go_enter Try.func18, Try.ntmps18
  go_wp2_with fail
  refine (unhide T).mono ?_
  rintro e w1 ⟨v, rfl, ho, hb⟩
  have hcv := conv_own (P := Try.prog) Try.underlying54 Try.underlying5 Try.underlying9 ho
  obtain ⟨a1, c1, rfl, -⟩ := own_rowV ho
  have HB := hide hb
  clear ho hb T
  go_wp2_with fail
  go_ret
  exact ⟨rfl, unhide HB⟩
end Go.Proofs.Ytloblilbmdiafaa
