/- Texts put together: NumbersI NumT FldT EqE. -/
import Derived.Test.YtkdplhhkkpkmoaaDoorZG3
import Derived.Test.YtkdplhhkkpkmoaaDoorZG25
import Derived.Test.YtkdplhhkkpkmoaaDoorZG4
import Derived.Test.YtkdplhhkkpkmoaaDoorZFieldsI
import Derived.Test.YtkdplhhkkpkmoaaDoorZG2
import Derived.BigQuiet
import Derived.WalkSmall
/- NumbersBytes: what the program answers at every list. -/
namespace Go.Proofs.YtkdplhhkkpkmoaaDoor
open Go.ChangeShapes Go.WideShapes Go.ChangeAt Go.RowKit
set_option maxHeartbeats 400000 in
set_option maxRecDepth 100000 in
theorem inumbers (a : Option Addr) (cap : Nat) (l : List Int) (hl : l.length ≤ 1048576) (w : World) (hr : RowV w a (cI l)) :
  Calls Tryd.prog 30 #[.slice a l.length cap] w fun e w' => ∃ v', e = .returned (.tuple #[v', .int .i64 (nbC l)]) ∧ w'.ownsRow w.heap.size 5 1 v' (nbL l).length (B8 (nbL l)) ∧ Below w.heap.size w w' := by
 have HR := hide hr
 have HCL := hide (cI_len l)
 clear hr
 by_cases long : 4096 < l.length
 ·have HV := hide (nb_long long)
  go_enter Tryd.func30, Tryd.ntmps30
  go_wp2_with fail
  go_ret2
  rw [(unhide HV).1, (unhide HV).2]
  exact ⟨_, rfl, nil_own _ _ _, Below.refl _ _⟩
 ·have HLO := hide long
  go_enter Tryd.func30, Tryd.ntmps30
  go_wp2_with fail
  go_loopw [4, 12] (fun v i wr => ∃ (k : Nat) (m : List UInt8), k ≤ l.length ∧ i = .int .i64 k ∧ Hid (m = numsL (l.take k)) ∧ m.length ≤ 12288 ∧ Hid (∀ q (h : q < l.length), q < k → fitsN l[q]) ∧ Hid (wr.ownsRow w.heap.size 5 1 v m.length (B8 m)) ∧ Hid (Below w.heap.size w wr)) (fun _ i _ => l.length - (intOf i).toNat)
  case atStart => exact ⟨0, [], by omega, rfl, rfl, by simp, fun q _ h => absurd h (Nat.not_lt_zero _), nil_own _ _ _, Below.refl _ _⟩
  case round =>
   obtain ⟨k, m, hk, rfl, HM, hm, HF, HO, HB⟩ := hrel
   by_cases hlt : k < l.length
   ·obtain ⟨b, off, ha, hblt, hc⟩ := (unhide HR).at (by rw [unhide HCL]; omega)
    subst ha
    have hc1 : wr.cell? ⟨b, off + k, none⟩ = some (.int .i64 l[k]) := ((unhide HB).cell (p := ⟨b, off + k, none⟩) hblt).trans (hc k _ (cI_at l k hlt))
    have hlt' : (k : Int) < (l.length : Int) := by omega
    by_cases hf : fitsN l[k]
    ·obtain ⟨n, hn, hn2, hn3⟩ := fit_nat _ hf
     have HN : Hid (numsL (l.take (k + 1)) = m ++ be n 3) := by show _ = _; rw [numsL_snoc l k hlt, unhide HM, hn3]
     have HF2 : Hid (∀ q (h : q < l.length), q < k + 1 → fitsN l[q]) := fun q h hq => by
      by_cases e : q = k
      ·subst e; exact hf
      ·exact unhide HF q h (by omega)
     have HZ := hide (unhide HB).size
     rw [hn] at hc1
     clear hc hf hn hn3 HR HCL HF HM
     go_wp2_with (go_at_call 43; refine (iappend w.heap.size _ m n 3 (by omega) (by omega) (by omega) _ (unhide HO) (unhide HZ)).mono ?_; rintro e w2 ⟨v2, rfl, ho2, hb2⟩; have HO2 := hide ho2; have HB2 := hide ((unhide HB).trans hb2); clear ho2 hb2)
     go_roundw
     case rel => exact ⟨k + 1, m ++ be n 3, by omega, by go_num, (unhide HN).symm, by rw [← unhide HN, numsL_len]; have := List.length_take_le (k + 1) l; omega, HF2, HO2, HB2⟩
     case measure => simp [intOf]; omega
    ·have HV := hide (nb_bad (unhide HLO) (fun h => hf (h k hlt)))
     have hcase : l[k] < -1 ∨ (-1 ≤ l[k] ∧ 16777214 < l[k]) := by unfold fitsN at hf; omega
     obtain ⟨x, hx⟩ : ∃ x, x = l[k] := ⟨_, rfl⟩
     rw [← hx] at hc1 hcase
     clear hc hf hx
     rcases hcase with h1 | ⟨h1, h2⟩
     all_goals
      go_wp2
      go_ret2
      rw [(unhide HV).1, (unhide HV).2]
      exact ⟨_, rfl, nil_own _ _ _, unhide HB⟩
   ·have HV := hide (nb_ok (unhide HLO) (fun q hq => unhide HF q hq (by omega)))
    rw [List.take_of_length_le (by omega)] at HM
    go_wp2_with fail
    go_ret2
    rw [(unhide HV).1, (unhide HV).2, ← unhide HM]
    exact ⟨_, rfl, unhide HO, unhide HB⟩
theorem inumbersH (a : Option Addr) (cap : Nat) (l : List Int) (r : List UInt8) (c : Int) (hr : r = nbL l) (hc : c = nbC l) (hl : l.length ≤ 1048576) (w : World) (hrow : RowV w a (cI l)) :
  Calls Tryd.prog 30 #[.slice a l.length cap] w fun e w' => ∃ v', e = .returned (.tuple #[v', .int .i64 c]) ∧ w'.ownsRow w.heap.size 5 1 v' r.length (B8 r) ∧ Below w.heap.size w w' := by
 subst hr hc; exact inumbers a cap l hl w hrow
end Go.Proofs.YtkdplhhkkpkmoaaDoor

/- numbersText: what the program answers. -/
namespace Go.Proofs.YtkdplhhkkpkmoaaDoor
open Go.ChangeShapes Go.WideShapes Go.ChangeAt Go.RowKit
set_option linter.unusedVariables false
set_option maxHeartbeats 400000 in
theorem inumtext (a : Option Addr) (cap : Nat) (l : List Int) (hfit : allFit l) (hl : l.length ≤ 4096) (w : World) (hr : RowV w a (cI l)) : Calls Tryd.prog 16 #[.slice a l.length cap] w fun e w' => e = .returned (.string ⟨(numsL l).toArray⟩) ∧ Below w.heap.size w w' := by
 obtain ⟨h1, h2⟩ := nb_ok (show ¬ 4096 < l.length by omega) hfit
 have T := hide (inumbersH a cap l (numsL l) 0 h1.symm h2.symm (by omega) w hr)
 obtain ⟨L, hL⟩ : ∃ L, L = numsL l := ⟨_, rfl⟩
 rw [← hL] at T
 have HL := hide hL
 clear h1 h2 hr hL hfit hl
 rw [← unhide HL]
 go_enter Tryd.func16, Tryd.ntmps16
 go_wp2_with fail
 refine (unhide T).mono ?_
 rintro e w1 ⟨v, rfl, ho, hb⟩
 have hcv := conv_own (P := Tryd.prog) Tryd.underlying22 Tryd.underlying5 Tryd.underlying9 ho
 obtain ⟨a1, c1, rfl, -⟩ := own_rowV ho
 have HB := hide hb
 clear ho hb T
 go_wp2_with fail
 go_ret
 exact ⟨rfl, unhide HB⟩
end Go.Proofs.YtkdplhhkkpkmoaaDoor

/- fieldsText: what the program answers. -/
namespace Go.Proofs.YtkdplhhkkpkmoaaDoor
open Go.ChangeShapes Go.WideShapes Go.ChangeAt Go.RowKit
set_option linter.unusedVariables false
set_option maxHeartbeats 400000 in
theorem ifldtext (a : Option Addr) (cap : Nat) (l : List ByteArray) (hsz : ∀ x ∈ l, x.size ≤ 400) (hl : l.length ≤ 3) (w : World) (hr : RowV w a (cS l)) : Calls Tryd.prog 15 #[.slice a l.length cap] w fun e w' => e = .returned (.string (recT l)) ∧ Below w.heap.size w w' := by
 have hfb := fb_ok (l := l) (by omega) (short_of hsz (by decide)) (fsum_of (n := 3) hsz hl (by decide))
 have T := hide (ifieldsH a cap l (be l.length 1 ++ fieldsL l) 0 hfb.1.symm hfb.2.symm (by omega) (fun k h => Nat.le_trans (hsz _ (List.getElem_mem h)) (by decide)) w hr)
 unfold recT
 obtain ⟨L, hL⟩ : ∃ L, L = be l.length 1 ++ fieldsL l := ⟨_, rfl⟩
 rw [← hL] at T
 rw [← hL]
 clear hr hL hfb hsz hl
 go_enter Tryd.func15, Tryd.ntmps15
 go_wp2_with fail
 refine (unhide T).mono ?_
 rintro e w1 ⟨v, rfl, ho, hb⟩
 have hcv := conv_own (P := Tryd.prog) Tryd.underlying22 Tryd.underlying5 Tryd.underlying9 ho
 obtain ⟨a1, c1, rfl, -⟩ := own_rowV ho
 have HB := hide hb
 clear ho hb T
 go_wp2_with fail
 go_ret
 exact ⟨rfl, unhide HB⟩
end Go.Proofs.YtkdplhhkkpkmoaaDoor

/- Entries compared. -/
namespace Go.Proofs.YtkdplhhkkpkmoaaDoor
open Go.ChangeShapes Go.WideShapes Go.ChangeAt Go.RowKit
def entEq (t u : Int) (d e : ByteArray) : Bool := decide (t = u ∧ d = e)
theorem list_text {a b : ByteArray} (h : a.toList = b.toList) : a = b := by
 rw [ByteArray.toList_eq, ByteArray.toList_eq] at h
 obtain ⟨⟨x⟩⟩ := a
 obtain ⟨⟨y⟩⟩ := b
 simp at h; rw [h]
set_option maxRecDepth 100000 in
theorem run_eqEnt (w : World) (t u : Int) (d e : ByteArray) : (binOp .eql 46 (.agg #[.int .i64 t, .string d]) (.agg #[.int .i64 u, .string e])).run Tryd.prog w = .ok (.bool (entEq t u d e)) w := by
 by_cases h : t = u
 ·subst h
  by_cases h2 : d = e
  ·subst h2
   have hh : entEq t t d d = true := decide_eq_true ⟨rfl, rfl⟩
   rw [hh]
   go_simp
  ·have hh : entEq t t d e = false := decide_eq_false fun hx => h2 hx.2
   have hl : (d.toList == e.toList) = false := by rw [beq_eq_false_iff_ne]; exact fun hx => h2 (list_text hx)
   rw [hh]
   go_simp
 ·have hh : entEq t u d e = false := decide_eq_false fun hx => h hx.1
  have hl : (t == u) = false := by rw [beq_eq_false_iff_ne]; exact h
  rw [hh]
  go_simp
set_option maxRecDepth 100000 in
theorem run_neEnt (w : World) (t u : Int) (d e : ByteArray) : (binOp .neq 46 (.agg #[.int .i64 t, .string d]) (.agg #[.int .i64 u, .string e])).run Tryd.prog w = .ok (.bool (!(entEq t u d e))) w := by
 by_cases h : t = u
 ·subst h
  by_cases h2 : d = e
  ·subst h2
   have hh : entEq t t d d = true := decide_eq_true ⟨rfl, rfl⟩
   rw [hh]
   go_simp
  ·have hh : entEq t t d e = false := decide_eq_false fun hx => h2 hx.2
   have hl : (d.toList == e.toList) = false := by rw [beq_eq_false_iff_ne]; exact fun hx => h2 (list_text hx)
   rw [hh]
   go_simp
 ·have hh : entEq t u d e = false := decide_eq_false fun hx => h hx.1
  have hl : (t == u) = false := by rw [beq_eq_false_iff_ne]; exact h
  rw [hh]
  go_simp
theorem ent_cmp {l m : List Ent} {k : Nat} {h1 : k < l.length} {h2 : k < m.length} {t u : Int} {d e : ByteArray} (a1 : t = l[k].1) (a2 : d = l[k].2) (b1 : u = m[k].1) (b2 : e = m[k].2) : (entEq t u d e = true → l[k] = m[k]) ∧ (entEq t u d e = false → l[k] ≠ m[k]) :=
 ⟨fun h => Prod.ext (by rw [← a1, ← b1]; exact (of_decide_eq_true h).1) (by rw [← a2, ← b2]; exact (of_decide_eq_true h).2), fun h hh => of_decide_eq_false h ⟨by rw [a1, b1, hh], by rw [a2, b2, hh]⟩⟩
end Go.Proofs.YtkdplhhkkpkmoaaDoor
