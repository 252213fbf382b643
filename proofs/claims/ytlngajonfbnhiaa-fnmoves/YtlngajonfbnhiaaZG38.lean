/- Texts put together: ArAll LokAll. -/
import Derived.Test.YtlngajonfbnhiaaZArS
import Derived.Test.YtlngajonfbnhiaaZG23
import Derived.Test.YtlngajonfbnhiaaZOkL
/- LayoutAreas: what both sides answer; marks over rows of areas. -/
namespace Go.Proofs.Ytlngajonfbnhiaa
open Go.ChangeShapes Go.WideShapes Go.ChangeAt Go.RowKit
def arL (l : List Pt) (W H : Int) : List Ar := match tofS l W H with
 | none => []
 | some t => t.areas 0 0 W H
def arC (l : List Pt) (W H : Int) : Int := match tofS l W H with
 | none => 1
 | some _ => 0
set_option maxHeartbeats 400000 in
set_option maxRecDepth 100000 in
theorem ilareas (a : Option Addr) (cap L : Nat) (l : List Pt) (HLL : Hid (l.length = L)) (hl : L ≤ 1048576) (W H c : Int) (l2 : List Ar) (HC : Hid (c = arC l W H)) (HL2 : Hid (l2 = arL l W H)) (w : World) (hr : RowV w a (cPt l)) :
  Calls Try.prog 12 #[.agg #[.slice a L cap], .int .i64 W, .int .i64 H] w fun e w' => ∃ a2 cap2, e = .returned (.tuple #[.slice a2 l2.length cap2, .int .i64 c]) ∧ w'.ownsRow w.heap.size 32 5 (.slice a2 l2.length cap2) l2.length (cAr l2) ∧ Below w.heap.size w w' := by
 have HB0 := hide (Go.Joins.below_alloc1 w (.cells #[.slice a L cap] 26))
 obtain ⟨Q, hQ⟩ : ∃ Q, Q = tofS l W H := ⟨_, rfl⟩
 have T := hide (itreeof a cap L l HLL hl W H Q hQ _ (hr.below (unhide HB0)))
 unfold arC at HC
 unfold arL at HL2
 rw [← hQ] at HC HL2
 have HQ := hide hQ
 clear hQ
 go_enter Try.func12, Try.ntmps12
 go_wp2_with fail
 refine (unhide T).mono ?_
 rintro e w2 ⟨h2, hb2⟩
 have HB2 := hide ((unhide HB0).trans (hb2.mono (unhide HB0).size))
 clear hb2 T
 cases Q with
 | none =>
  have h2' : e = .returned (.pointer none) := h2
  have hc : c = 1 := unhide HC
  have hl2 : l2 = [] := unhide HL2
  clear h2 HC HL2
  subst h2' hc hl2
  go_wp2_with fail
  go_ret2
  exact ⟨none, 0, rfl, World.ownsRow_nil _ _ _ _, unhide HB2⟩
 | some t =>
  obtain ⟨b, bs, rfl, hT⟩ := h2
  have hc : c = 0 := unhide HC
  have hl2 : l2 = t.areas 0 0 W H := unhide HL2
  obtain ⟨o1, o2, o3, o4, o5, o6, o7⟩ := tofS_ok (unhide HQ).symm
  obtain ⟨hW1, hW2, hH1, hH2⟩ : 2 ≤ W ∧ W ≤ 24 ∧ 2 ≤ H ∧ H ≤ 10 := of_decide_eq_true o1
  have T2 := hide (iareas t b bs 0 0 0 W H w2 hT.1 (by omega) (by omega) (by omega) (by omega) (by omega) (by omega) o7 (by omega))
  rw [← hl2] at T2
  clear HC HL2 hl2 o1 o2 o3 o4 o5 o6 o7 hT
  subst hc
  go_wp2_with fail
  refine (unhide T2).mono ?_
  rintro e w3 ⟨a3, cap3, rfl, ho3, hb3⟩
  have HO3 := hide (Go.Joins.ownsRow_le ho3 (unhide HB2).size)
  have HB3 := hide ((unhide HB2).trans (hb3.mono (unhide HB2).size))
  clear ho3 hb3
  go_wp2_with fail
  go_ret2
  exact ⟨_, _, rfl, unhide HO3, unhide HB3⟩
set_option maxHeartbeats 400000 in
set_option maxRecDepth 100000 in
theorem slareas (a : Option Addr) (cap L : Nat) (l : List Pt) (HLL : Hid (l.length = L)) (hl : L ≤ 1048576) (W H c : Int) (l2 : List Ar) (HC : Hid (c = arC l W H)) (HL2 : Hid (l2 = arL l W H)) (w : World) (hr : RowV w a (cPt l)) :
  Calls Try.prog 6 #[.agg #[.slice a L cap], .int .i64 W, .int .i64 H] w fun e w' => ∃ a2 cap2, e = .returned (.tuple #[.slice a2 l2.length cap2, .int .i64 c]) ∧ w'.ownsRow w.heap.size 32 5 (.slice a2 l2.length cap2) l2.length (cAr l2) ∧ Below w.heap.size w w' := by
 have HB0 := hide (Go.Joins.below_alloc1 w (.cells #[.slice a L cap] 26))
 have BA := hide (BF.new w #[.slice a L cap] 26)
 obtain ⟨Q, hQ⟩ : ∃ Q, Q = tofS l W H := ⟨_, rfl⟩
 obtain ⟨R, hR⟩ : ∃ R, R = (tofS l W H).isSome := ⟨_, rfl⟩
 have T := hide (sl05ok a cap L l HLL hl W H R hR _ (hr.below (unhide HB0)))
 unfold arC at HC
 unfold arL at HL2
 rw [← hQ] at HC HL2 hR
 have HQ := hide hQ
 have HR := hide hr
 clear hQ hr
 go_enter Try.func6, Try.ntmps6
 go_wp2_with fail
 refine (unhide T).mono ?_
 rintro e w2 ⟨rfl, hb2⟩
 have HB2 := hide ((unhide HB0).trans (hb2.mono (unhide HB0).size))
 have A2 := hide ((unhide BA).below hb2)
 clear hb2 T
 have c2 := (unhide A2).S
 cases Q with
 | none =>
  have hc : c = 1 := unhide HC
  have hl2 : l2 = [] := unhide HL2
  have hRf : R = false := hR
  clear HC HL2 hR
  subst hc hl2 hRf
  go_wp2_with fail
  go_ret2
  refine ⟨_, _, rfl, ?_, (unhide HB2).alloc (unhide HB2).size _⟩
  exact World.ownsRow_lit (e := 32) (base := w.heap.size) (size := 5) w2 #[] 0 (unhide HB2).size (by decide) rfl
 | some t =>
  have hc : c = 0 := unhide HC
  have hl2 : l2 = t.areas 0 0 W H := unhide HL2
  have hRt : R = true := hR
  obtain ⟨o1, o2, o3, o4, o5, o6, o7⟩ := tofS_ok (unhide HQ).symm
  obtain ⟨hW1, hW2, hH1, hH2⟩ : 2 ≤ W ∧ W ≤ 24 ∧ 2 ≤ H ∧ H ≤ 10 := of_decide_eq_true o1
  have T2 := hide (sareas a cap l L HLL (by rw [← unhide HLL]; omega) t 0 0 0 W H l2 w2 hl2 ⟨[], by rw [List.drop_zero, List.append_nil]; exact o2⟩ ((unhide HR).below (unhide HB2)) o7 (by omega) (by omega) (by omega) (by omega) (by omega) (by omega) (by omega))
  clear HC HL2 hl2 o1 o2 o3 o4 o5 o6 o7 hR
  subst hc hRt
  go_wp2_with fail
  refine (unhide T2).mono ?_
  rintro e w3 ⟨a3, cap3, rfl, ho3, hb3⟩
  have HO3 := hide (Go.Joins.ownsRow_le ho3 (unhide HB2).size)
  have HB3 := hide ((unhide HB2).trans (hb3.mono (unhide HB2).size))
  clear ho3 hb3
  go_wp2_with fail
  go_ret2
  exact ⟨_, _, rfl, unhide HO3, unhide HB3⟩
end Go.Proofs.Ytlngajonfbnhiaa

/- All that FnExactLayoutOK's walk names. -/
