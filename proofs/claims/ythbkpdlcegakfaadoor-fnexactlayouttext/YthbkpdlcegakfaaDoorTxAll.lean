/- LayoutText: what both sides answer. -/
import Derived.Test.YthbkpdlcegakfaaDoorTxI
import Derived.Test.YthbkpdlcegakfaaDoorTxS
import Derived.Test.YthbkpdlcegakfaaDoorOkL
namespace Go.Proofs.YthbkpdlcegakfaaDoor
open Go.ChangeShapes Go.WideShapes Go.ChangeAt Go.RowKit
set_option linter.unusedVariables false
set_option maxHeartbeats 400000 in
set_option maxRecDepth 100000 in
theorem iltext (a : Option Addr) (cap L : Nat) (l : List Pt) (HLL : Hid (l.length = L)) (hl : L ≤ 1048576) (W H c : Int) (T : ByteArray) (HC : Hid (c = ltC l W H)) (HT : Hid (T = ltT l W H)) (w : World) (hr : RowV w a (cPt l)) (hp : PowIn w) (hg : 0 < w.heap.size) :
    Calls Tryd.prog 7 #[.agg #[.slice a L cap], .int .i64 W, .int .i64 H] w fun e w' => e = .returned (.tuple #[.string T, .int .i64 c]) ∧ Below w.heap.size w w' := by
  have HB0 := hide (Go.Joins.below_alloc1 w (.cells #[.slice a L cap] 30))
  obtain ⟨Q, hQ⟩ : ∃ Q, Q = tofS l W H := ⟨_, rfl⟩
  have TT := hide (itreeof a cap L l HLL hl W H Q hQ _ (hr.below (unhide HB0)))
  unfold ltC at HC
  unfold ltT at HT
  rw [← hQ] at HC HT
  have HQ := hide hQ
  have HP := hide hp
  have HG := hide hg
  clear hQ hp hg
  go_enter Tryd.func7, Tryd.ntmps7
  go_wp2_with fail
  refine (unhide TT).mono ?_
  rintro e w2 ⟨h2, hb2⟩
  have HB2 := hide ((unhide HB0).trans (hb2.mono (unhide HB0).size))
  clear hb2 TT
  cases Q with
  | none =>
    have h2' : e = .returned (.pointer none) := h2
    have hc : c = 1 := unhide HC
    have hT : T = ⟨#[]⟩ := unhide HT
    clear h2 HC HT
    subst h2' hc hT
    go_wp2_with fail
    go_ret2
    exact ⟨rfl, unhide HB2⟩
  | some t =>
    obtain ⟨b, bs, rfl, hTr⟩ := h2
    have hc : c = 0 := unhide HC
    have hT : T = t.txt := unhide HT
    obtain ⟨o1, o2, o3, o4, o5, o6, o7⟩ := tofS_ok (unhide HQ).symm
    obtain ⟨hW1, hW2, hH1, hH2⟩ : 2 ≤ W ∧ W ≤ 24 ∧ 2 ≤ H ∧ H ≤ 10 := of_decide_eq_true o1
    have T2 := hide (itext t b bs w2 hTr.1 (small_of t W H o5 o7 (by omega) (by omega)) (by omega) ((unhide HP).below (unhide HB2) (unhide HG)) (Nat.lt_of_lt_of_le (unhide HG) (unhide HB2).size))
    rw [← hT] at T2
    clear HC HT hT o1 o2 o3 o4 o5 o6 o7 hTr
    subst hc
    go_wp2_with fail
    refine (unhide T2).mono ?_
    rintro e w3 ⟨rfl, hb3⟩
    have HB3 := hide ((unhide HB2).trans (hb3.mono (unhide HB2).size))
    clear hb3
    go_wp2_with fail
    go_ret2
    exact ⟨rfl, unhide HB3⟩
set_option maxHeartbeats 400000 in
set_option maxRecDepth 100000 in
theorem sltext (a : Option Addr) (cap L : Nat) (l : List Pt) (HLL : Hid (l.length = L)) (hl : L ≤ 1048576) (W H c : Int) (T : ByteArray) (HC : Hid (c = ltC l W H)) (HT : Hid (T = ltT l W H)) (w : World) (hr : RowV w a (cPt l)) :
    Calls Tryd.prog 5 #[.agg #[.slice a L cap], .int .i64 W, .int .i64 H] w fun e w' => e = .returned (.tuple #[.string T, .int .i64 c]) ∧ Below w.heap.size w w' := by
  have HB0 := hide (Go.Joins.below_alloc1 w (.cells #[.slice a L cap] 30))
  have BA := hide (BF.new w #[.slice a L cap] 30)
  obtain ⟨Q, hQ⟩ : ∃ Q, Q = tofS l W H := ⟨_, rfl⟩
  obtain ⟨R, hR⟩ : ∃ R, R = (tofS l W H).isSome := ⟨_, rfl⟩
  have TT := hide (sl05ok a cap L l HLL hl W H R hR _ (hr.below (unhide HB0)))
  unfold ltC at HC
  unfold ltT at HT
  rw [← hQ] at HC HT hR
  have HQ := hide hQ
  have HR := hide hr
  clear hQ hr
  go_enter Tryd.func5, Tryd.ntmps5
  go_wp2_with fail
  refine (unhide TT).mono ?_
  rintro e w2 ⟨rfl, hb2⟩
  have HB2 := hide ((unhide HB0).trans (hb2.mono (unhide HB0).size))
  have A2 := hide ((unhide BA).below hb2)
  clear hb2 TT
  have c2 := (unhide A2).S
  cases Q with
  | none =>
    have hc : c = 1 := unhide HC
    have hT : T = ⟨#[]⟩ := unhide HT
    have hRf : R = false := hR
    clear HC HT hR
    subst hc hT hRf
    go_wp2_with fail
    go_ret2
    exact ⟨rfl, unhide HB2⟩
  | some t =>
    have hc : c = 0 := unhide HC
    have hT : T = t.txt := unhide HT
    have hRt : R = true := hR
    obtain ⟨o1, o2, o3, o4, o5, o6, o7⟩ := tofS_ok (unhide HQ).symm
    obtain ⟨hW1, hW2, hH1, hH2⟩ : 2 ≤ W ∧ W ≤ 24 ∧ 2 ≤ H ∧ H ≤ 10 := of_decide_eq_true o1
    have T1 := hide (sof a cap l L HLL (by rw [← unhide HLL]; omega) t 0 w2 ⟨[], by rw [List.drop_zero, List.append_nil]; exact o2⟩ ((unhide HR).below (unhide HB2)))
    have HSM := hide (small_of t W H o5 o7 (by omega) (by omega))
    have HCN : Hid (t.cnt ≤ 1000) := by show _ ≤ _; omega
    have HTT := hide hT
    clear HC HT hT o1 o2 o3 o4 o5 o6 o7 hR
    subst hc hRt
    go_wp2_with fail
    refine (unhide T1).mono ?_
    rintro e w3 ⟨b, bs, rfl, hTr, hb3⟩
    have HB3 := hide ((unhide HB2).trans (hb3.mono (unhide HB2).size))
    have T2 := hide (stext t b bs w3 hTr.1 (unhide HSM) (unhide HCN))
    rw [← unhide HTT] at T2
    clear hb3 hTr T1
    go_wp2_with fail
    refine (unhide T2).mono ?_
    rintro e w4 ⟨rfl, hb4⟩
    have HB4 := hide ((unhide HB3).trans (hb4.mono (unhide HB3).size))
    clear hb4
    go_wp2_with fail
    go_ret2
    exact ⟨rfl, unhide HB4⟩
theorem lt_laid {W : World} (h : laidMetH Tryd.prog Rows.fnExactLayoutTextRow.laid W) : PowIn W := by
  have h' : laidMet Tryd.prog Rows.fnExactLayoutTextRow.laid W := h
  exact pow_reads (Lib.laidMet.reads h' (by unfold Rows.fnExactLayoutTextRow; simp))
end Go.Proofs.YthbkpdlcegakfaaDoor
