/- Texts put together: ArAll LokAll LatI. -/
import Derived.Test.YtgnecacoehedkaaDoorZArS
import Derived.Test.YtgnecacoehedkaaDoorZG23
import Derived.Test.YtgnecacoehedkaaDoorZOkL
import Derived.Test.YtgnecacoehedkaaDoorZG0
import Derived.Test.YtgnecacoehedkaaDoorZG1
/- LayoutAreas: what both sides answer; marks over rows of areas. -/
namespace Go.Proofs.YtgnecacoehedkaaDoor
open Go.ChangeShapes Go.WideShapes Go.ChangeAt Go.RowKit
def arL (l : List Pt) (W H : Int) : List Ar := match tofS l W H with
 | none => []
 | some t => t.areas 0 0 W H
def arC (l : List Pt) (W H : Int) : Int := match tofS l W H with
 | none => 1
 | some _ => 0
set_option maxHeartbeats 400000 in
set_option maxRecDepth 100000 in
theorem ilareas (a : Option Addr) (cap L : Nat) (l : List Pt) (HLL : Hid (l.length = L)) (hl : L ≤ 1048576) (W H c : Int) (l2 : List Ar) (HC : Hid (c = arC l W H)) (HL2 : Hid (l2 = arL l W H)) (w : World) (hr : RowV w a (cPt l)) :
  Calls Tryd.prog 10 #[.agg #[.slice a L cap], .int .i64 W, .int .i64 H] w fun e w' => ∃ a2 cap2, e = .returned (.tuple #[.slice a2 l2.length cap2, .int .i64 c]) ∧ w'.ownsRow w.heap.size 32 5 (.slice a2 l2.length cap2) l2.length (cAr l2) ∧ Below w.heap.size w w' := by
 have HB0 := hide (Go.Joins.below_alloc1 w (.cells #[.slice a L cap] 26))
 obtain ⟨Q, hQ⟩ : ∃ Q, Q = tofS l W H := ⟨_, rfl⟩
 have T := hide (itreeof a cap L l HLL hl W H Q hQ _ (hr.below (unhide HB0)))
 unfold arC at HC
 unfold arL at HL2
 rw [← hQ] at HC HL2
 have HQ := hide hQ
 clear hQ
 go_enter Tryd.func10, Tryd.ntmps10
 go_wp2_with fail
 refine (unhide T).mono ?_
 rintro e w2 ⟨h2, hb2⟩
 have HB2 := hide ((unhide HB0).trans (hb2.mono (unhide HB0).size))
 clear hb2 T
 cases Q with
 | none =>
  have h2' : e = .returned (.pointer none) := h2
  have hc : c = 1 := unhide HC
  have hl2 : l2 = [] := unhide HL2
  clear h2 HC HL2
  subst h2' hc hl2
  go_wp2_with fail
  go_ret2
  exact ⟨none, 0, rfl, World.ownsRow_nil _ _ _ _, unhide HB2⟩
 | some t =>
  obtain ⟨b, bs, rfl, hT⟩ := h2
  have hc : c = 0 := unhide HC
  have hl2 : l2 = t.areas 0 0 W H := unhide HL2
  obtain ⟨o1, o2, o3, o4, o5, o6, o7⟩ := tofS_ok (unhide HQ).symm
  obtain ⟨hW1, hW2, hH1, hH2⟩ : 2 ≤ W ∧ W ≤ 24 ∧ 2 ≤ H ∧ H ≤ 10 := of_decide_eq_true o1
  have T2 := hide (iareas t b bs 0 0 0 W H w2 hT.1 (by omega) (by omega) (by omega) (by omega) (by omega) (by omega) o7 (by omega))
  rw [← hl2] at T2
  clear HC HL2 hl2 o1 o2 o3 o4 o5 o6 o7 hT
  subst hc
  go_wp2_with fail
  refine (unhide T2).mono ?_
  rintro e w3 ⟨a3, cap3, rfl, ho3, hb3⟩
  have HO3 := hide (Go.Joins.ownsRow_le ho3 (unhide HB2).size)
  have HB3 := hide ((unhide HB2).trans (hb3.mono (unhide HB2).size))
  clear ho3 hb3
  go_wp2_with fail
  go_ret2
  exact ⟨_, _, rfl, unhide HO3, unhide HB3⟩
set_option maxHeartbeats 400000 in
set_option maxRecDepth 100000 in
theorem slareas (a : Option Addr) (cap L : Nat) (l : List Pt) (HLL : Hid (l.length = L)) (hl : L ≤ 1048576) (W H c : Int) (l2 : List Ar) (HC : Hid (c = arC l W H)) (HL2 : Hid (l2 = arL l W H)) (w : World) (hr : RowV w a (cPt l)) :
  Calls Tryd.prog 6 #[.agg #[.slice a L cap], .int .i64 W, .int .i64 H] w fun e w' => ∃ a2 cap2, e = .returned (.tuple #[.slice a2 l2.length cap2, .int .i64 c]) ∧ w'.ownsRow w.heap.size 32 5 (.slice a2 l2.length cap2) l2.length (cAr l2) ∧ Below w.heap.size w w' := by
 have HB0 := hide (Go.Joins.below_alloc1 w (.cells #[.slice a L cap] 26))
 have BA := hide (BF.new w #[.slice a L cap] 26)
 obtain ⟨Q, hQ⟩ : ∃ Q, Q = tofS l W H := ⟨_, rfl⟩
 obtain ⟨R, hR⟩ : ∃ R, R = (tofS l W H).isSome := ⟨_, rfl⟩
 have T := hide (sl05ok a cap L l HLL hl W H R hR _ (hr.below (unhide HB0)))
 unfold arC at HC
 unfold arL at HL2
 rw [← hQ] at HC HL2 hR
 have HQ := hide hQ
 have HR := hide hr
 clear hQ hr
 go_enter Tryd.func6, Tryd.ntmps6
 go_wp2_with fail
 refine (unhide T).mono ?_
 rintro e w2 ⟨rfl, hb2⟩
 have HB2 := hide ((unhide HB0).trans (hb2.mono (unhide HB0).size))
 have A2 := hide ((unhide BA).below hb2)
 clear hb2 T
 have c2 := (unhide A2).S
 cases Q with
 | none =>
  have hc : c = 1 := unhide HC
  have hl2 : l2 = [] := unhide HL2
  have hRf : R = false := hR
  clear HC HL2 hR
  subst hc hl2 hRf
  go_wp2_with fail
  go_ret2
  refine ⟨_, _, rfl, ?_, (unhide HB2).alloc (unhide HB2).size _⟩
  exact World.ownsRow_lit (e := 32) (base := w.heap.size) (size := 5) w2 #[] 0 (unhide HB2).size (by decide) rfl
 | some t =>
  have hc : c = 0 := unhide HC
  have hl2 : l2 = t.areas 0 0 W H := unhide HL2
  have hRt : R = true := hR
  obtain ⟨o1, o2, o3, o4, o5, o6, o7⟩ := tofS_ok (unhide HQ).symm
  obtain ⟨hW1, hW2, hH1, hH2⟩ : 2 ≤ W ∧ W ≤ 24 ∧ 2 ≤ H ∧ H ≤ 10 := of_decide_eq_true o1
  have T2 := hide (sareas a cap l L HLL (by rw [← unhide HLL]; omega) t 0 0 0 W H l2 w2 hl2 ⟨[], by rw [List.drop_zero, List.append_nil]; exact o2⟩ ((unhide HR).below (unhide HB2)) o7 (by omega) (by omega) (by omega) (by omega) (by omega) (by omega) (by omega))
  clear HC HL2 hl2 o1 o2 o3 o4 o5 o6 o7 hR
  subst hc hRt
  go_wp2_with fail
  refine (unhide T2).mono ?_
  rintro e w3 ⟨a3, cap3, rfl, ho3, hb3⟩
  have HO3 := hide (Go.Joins.ownsRow_le ho3 (unhide HB2).size)
  have HB3 := hide ((unhide HB2).trans (hb3.mono (unhide HB2).size))
  clear ho3 hb3
  go_wp2_with fail
  go_ret2
  exact ⟨_, _, rfl, unhide HO3, unhide HB3⟩
end Go.Proofs.YtgnecacoehedkaaDoor

/- All that FnExactLayoutOK's walk names. -/

/- The laws' own helper at. -/
namespace Go.Proofs.YtgnecacoehedkaaDoor
open Go.ChangeShapes Go.WideShapes Go.ChangeAt Go.RowKit
set_option linter.unusedVariables false
theorem below_drewM {B : Nat} {a b : World} (h : Below B a b) (n : Nat) : Below B a (b.drewN n) := ⟨h.os, h.tape, h.output, h.size, h.block⟩
/-- What a drawn number is. -/
def atV (l : List UInt8) (i n : Nat) : Nat := if l.length = 0 then i * 7 % n else ((l.getD (i % l.length) 0).toNat * 31 + (l.getD ((i + 1) % l.length) 0).toNat + i / l.length) % n
set_option maxHeartbeats 1000000 in
set_option maxRecDepth 100000 in
theorem latV (a : Option Addr) (cap : Nat) (l : List UInt8) (i n v0 : Nat) (HE0 : Hid (v0 = atV l i n)) (hl : l.length ≤ 1048576) (hi : i ≤ 1000) (hn : 2 ≤ n) (hn2 : n ≤ 100000) (w : World) (hr : RowV w a (B8 l)) :
  Calls Tryd.prog 4 #[.slice a l.length cap, .int .i64 (i : Int), .int .i64 (n : Int)] w fun e w' => e = .returned (.int .i64 (v0 : Int)) ∧ Below w.heap.size w w' := by
 have n1 : ¬ (n : Int) ≤ 1 := by omega
 have n3 : ¬ (n : Int) = 0 := by omega
 have n4 : ((n : Int) == 0) = false := beq_eq_false_iff_ne.2 (by omega)
 by_cases h0 : l.length = 0
 ·have e0 : ((l.length : Int) == 0) = true := by rw [h0]; rfl
  have e1 : (l.length : Int) = 0 := by omega
  obtain ⟨v, hv⟩ : ∃ v, v = i * 7 % n := ⟨_, rfl⟩
  have HE : Hid (v = v0) := by show _ = _; rw [unhide HE0, hv]; unfold atV; rw [if_pos h0]
  have HV : Hid (v < n) := by show _ < _; rw [hv]; exact Nat.mod_lt _ (by omega)
  have k2 : ((i : Int) * 7) % (n : Int) = (v : Int) := by rw [hv]; push_cast; rfl
  have k1 : ((i : Int) * 7).tmod (n : Int) = (v : Int) := by rw [Int.tmod_eq_emod_of_nonneg (by omega)]; exact k2
  clear hv hr
  go_enter Tryd.func4, Tryd.ntmps4
  go_wp2_with fail
  go_ret
  have e0 := unhide HE
  subst e0
  exact ⟨rfl, Below.refl _ _⟩
 ·obtain ⟨L, hL⟩ : ∃ L, L = l.length := ⟨_, rfl⟩
  rw [← hL] at h0 hl ⊢
  have e0 : ((L : Int) == 0) = false := beq_eq_false_iff_ne.2 (by omega)
  have e1 : ¬ (L : Int) = 0 := by omega
  obtain ⟨q1, hq1⟩ : ∃ q, q = i % L := ⟨_, rfl⟩
  obtain ⟨q2, hq2⟩ : ∃ q, q = (i + 1) % L := ⟨_, rfl⟩
  obtain ⟨q3, hq3⟩ : ∃ q, q = i / L := ⟨_, rfl⟩
  have q1l : q1 < L := by rw [hq1]; exact Nat.mod_lt _ (by omega)
  have q2l : q2 < L := by rw [hq2]; exact Nat.mod_lt _ (by omega)
  have q3l : q3 ≤ 1000 := by rw [hq3]; exact Nat.le_trans (Nat.div_le_self _ _) hi
  have a2 : (i : Int) % (L : Int) = (q1 : Int) := by rw [hq1]; push_cast; rfl
  have a1 : (i : Int).tmod (L : Int) = (q1 : Int) := by rw [Int.tmod_eq_emod_of_nonneg (by omega)]; exact a2
  have b2 : ((i : Int) + 1) % (L : Int) = (q2 : Int) := by rw [hq2]; push_cast; rfl
  have b1 : ((i : Int) + 1).tmod (L : Int) = (q2 : Int) := by rw [Int.tmod_eq_emod_of_nonneg (by omega)]; exact b2
  have c2 : (i : Int) / (L : Int) = (q3 : Int) := by rw [hq3]; push_cast; rfl
  have c1 : (i : Int).tdiv (L : Int) = (q3 : Int) := by rw [Int.tdiv_eq_ediv_of_nonneg (by omega)]; exact c2
  obtain ⟨b, off, ha, hblt, hc⟩ := hr.at (by rw [B8_len]; omega)
  subst ha
  obtain ⟨x, hx⟩ : ∃ x, x = l[q1].toNat := ⟨_, rfl⟩
  obtain ⟨y, hy⟩ : ∃ y, y = l[q2].toNat := ⟨_, rfl⟩
  have x255 : x ≤ 255 := by rw [hx]; have := l[q1].toNat_lt; omega
  have y255 : y ≤ 255 := by rw [hy]; have := l[q2].toNat_lt; omega
  have r1 : w.cell? ⟨b, off + q1, none⟩ = some (.int .u8 (x : Int)) := by rw [hx]; exact hc q1 _ (by unfold B8; rw [List.getElem?_map, List.getElem?_eq_getElem (by omega)]; rfl)
  have r2 : w.cell? ⟨b, off + q2, none⟩ = some (.int .u8 (y : Int)) := by rw [hy]; exact hc q2 _ (by unfold B8; rw [List.getElem?_map, List.getElem?_eq_getElem (by omega)]; rfl)
  obtain ⟨v, hv⟩ : ∃ v, v = (x * 31 + y + q3) % n := ⟨_, rfl⟩
  have HE : Hid (v = v0) := by
   show _ = _
   rw [unhide HE0]
   unfold atV
   rw [if_neg (by rw [← hL]; exact h0), show i % l.length = q1 from by rw [hq1, hL], show (i + 1) % l.length = q2 from by rw [hq2, hL], show i / l.length = q3 from by rw [hq3, hL], List.getD_eq_getElem?_getD, List.getD_eq_getElem?_getD, List.getElem?_eq_getElem (by omega : q1 < l.length), List.getElem?_eq_getElem (by omega : q2 < l.length), hv, hx, hy]
   rfl
  have HV : Hid (v < n) := by show _ < _; rw [hv]; exact Nat.mod_lt _ (by omega)
  have k2 : ((x : Int) * 31 + (y : Int) + (q3 : Int)) % (n : Int) = (v : Int) := by rw [hv]; push_cast; rfl
  have k1 : ((x : Int) * 31 + (y : Int) + (q3 : Int)).tmod (n : Int) = (v : Int) := by rw [Int.tmod_eq_emod_of_nonneg (by omega)]; exact k2
  have w1 : IntKind.i64.wrap ((x : Int) * 31) = (x : Int) * 31 := wrapi _ (by omega) (by omega)
  have w2 : IntKind.i64.wrap ((x : Int) * 31 + (y : Int)) = (x : Int) * 31 + (y : Int) := wrapi _ (by omega) (by omega)
  have w3 : IntKind.i64.wrap ((x : Int) * 31 + (y : Int) + (q3 : Int)) = (x : Int) * 31 + (y : Int) + (q3 : Int) := wrapi _ (by omega) (by omega)
  have w4 : IntKind.i64.wrap ((i : Int) + 1) = (i : Int) + 1 := wrapi _ (by omega) (by omega)
  have w5 : IntKind.i64.wrap (q1 : Int) = (q1 : Int) := wrapi _ (by omega) (by omega)
  have w6 : IntKind.i64.wrap (q2 : Int) = (q2 : Int) := wrapi _ (by omega) (by omega)
  have w7 : IntKind.i64.wrap (q3 : Int) = (q3 : Int) := wrapi _ (by omega) (by omega)
  have w8 : IntKind.i64.wrap (v : Int) = (v : Int) := wrapi _ (by have := unhide HV; omega) (by have := unhide HV; omega)
  have w9 : IntKind.i64.wrap (x : Int) = (x : Int) := wrapi _ (by omega) (by omega)
  have w10 : IntKind.i64.wrap (y : Int) = (y : Int) := wrapi _ (by omega) (by omega)
  have l1 : (q1 : Int) < (L : Int) := by omega
  have l2 : (q2 : Int) < (L : Int) := by omega
  have l3 : (0 : Int) ≤ (q1 : Int) := by omega
  have l4 : (0 : Int) ≤ (q2 : Int) := by omega
  clear hc hx hy hv hq1 hq2 hq3 hr hL
  go_enter Tryd.func4, Tryd.ntmps4
  go_wp2_with fail
  go_quiet (fail)
  go_wp2_with fail
  go_ret
  have e0 := unhide HE
  subst e0
  exact ⟨rfl, below_drewM (Below.refl _ _) _⟩
theorem atV_lt (l : List UInt8) (i n : Nat) (h : 0 < n) : atV l i n < n := by unfold atV; split <;> exact Nat.mod_lt _ h
theorem lat (a : Option Addr) (cap : Nat) (l : List UInt8) (i n : Nat) (hl : l.length ≤ 1048576) (hi : i ≤ 1000) (hn : 2 ≤ n) (hn2 : n ≤ 100000) (w : World) (hr : RowV w a (B8 l)) :
  Calls Tryd.prog 4 #[.slice a l.length cap, .int .i64 (i : Int), .int .i64 (n : Int)] w fun e w' => ∃ v : Nat, e = .returned (.int .i64 (v : Int)) ∧ v < n ∧ Below w.heap.size w w' :=
 (latV a cap l i n _ rfl hl hi hn hn2 w hr).mono (fun _ _ h => ⟨_, h.1, atV_lt l i n (by omega), h.2⟩)
set_option maxRecDepth 100000 in
theorem lat_one (a : Option Addr) (cap : Nat) (l : List UInt8) (i : Int) (w : World) :
  Calls Tryd.prog 4 #[.slice a l.length cap, .int .i64 i, .int .i64 1] w fun e w' => e = .returned (.int .i64 0) ∧ w' = w := by
 go_enter Tryd.func4, Tryd.ntmps4
 go_wp2_with fail
 go_ret
 exact ⟨rfl, rfl⟩
theorem latN (a : Option Addr) (cap : Nat) (l : List UInt8) (i n : Nat) (hl : l.length ≤ 1048576) (hi : i ≤ 1000) (hn : 1 ≤ n) (hn2 : n ≤ 100000) (w : World) (hr : RowV w a (B8 l)) :
  Calls Tryd.prog 4 #[.slice a l.length cap, .int .i64 (i : Int), .int .i64 (n : Int)] w fun e w' => ∃ v : Nat, e = .returned (.int .i64 (v : Int)) ∧ v < n ∧ Below w.heap.size w w' := by
 by_cases h : n = 1
 ·subst h
  refine (lat_one a cap l (i : Int) w).mono ?_
  rintro e w' ⟨rfl, rfl⟩
  exact ⟨0, rfl, by omega, Below.refl _ _⟩
 ·exact lat a cap l i n hl hi (by omega) hn2 w hr
end Go.Proofs.YtgnecacoehedkaaDoor
