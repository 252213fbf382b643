/- Texts put together: NumbersI NumT. -/
import Derived.Test.YtblhediekdeffaaDoorZG7
import Derived.Test.YtblhediekdeffaaDoorZG8
/- NumbersBytes: what the program answers at every list. -/
namespace Go.Proofs.YtblhediekdeffaaDoor
open Go.ChangeShapes Go.WideShapes Go.ChangeAt Go.RowKit
set_option maxHeartbeats 400000 in
set_option maxRecDepth 100000 in
theorem inumbers (a : Option Addr) (cap : Nat) (l : List Int) (hl : l.length ≤ 1048576) (w : World) (hr : RowV w a (cI l)) :
    Calls Tryd.prog 49 #[.slice a l.length cap] w fun e w' => ∃ v', e = .returned (.tuple #[v', .int .i64 (nbC l)]) ∧ w'.ownsRow w.heap.size 5 1 v' (nbL l).length (B8 (nbL l)) ∧ Below w.heap.size w w' := by
  have HR := hide hr
  have HCL := hide (cI_len l)
  clear hr
  by_cases long : 4096 < l.length
  · have HV := hide (nb_long long)
    go_enter Tryd.func49, Tryd.ntmps49
    go_wp2_with fail
    go_ret2
    rw [(unhide HV).1, (unhide HV).2]
    exact ⟨_, rfl, nil_own _ _ _, Below.refl _ _⟩
  · have HLO := hide long
    go_enter Tryd.func49, Tryd.ntmps49
    go_wp2_with fail
    go_loopw [4, 12] (fun v i wr => ∃ (k : Nat) (m : List UInt8), k ≤ l.length ∧ i = .int .i64 k ∧ Hid (m = numsL (l.take k)) ∧ m.length ≤ 12288 ∧ Hid (∀ q (h : q < l.length), q < k → fitsN l[q]) ∧ Hid (wr.ownsRow w.heap.size 5 1 v m.length (B8 m)) ∧ Hid (Below w.heap.size w wr)) (fun _ i _ => l.length - (intOf i).toNat)
    case atStart => exact ⟨0, [], by omega, rfl, rfl, by simp, fun q _ h => absurd h (Nat.not_lt_zero _), nil_own _ _ _, Below.refl _ _⟩
    case round =>
      obtain ⟨k, m, hk, rfl, HM, hm, HF, HO, HB⟩ := hrel
      by_cases hlt : k < l.length
      · obtain ⟨b, off, ha, hblt, hc⟩ := (unhide HR).at (by rw [unhide HCL]; omega)
        subst ha
        have hc1 : wr.cell? ⟨b, off + k, none⟩ = some (.int .i64 l[k]) := ((unhide HB).cell (p := ⟨b, off + k, none⟩) hblt).trans (hc k _ (cI_at l k hlt))
        have hlt' : (k : Int) < (l.length : Int) := by omega
        by_cases hf : fitsN l[k]
        · obtain ⟨n, hn, hn2, hn3⟩ := fit_nat _ hf
          have HN : Hid (numsL (l.take (k + 1)) = m ++ be n 3) := by show _ = _; rw [numsL_snoc l k hlt, unhide HM, hn3]
          have HF2 : Hid (∀ q (h : q < l.length), q < k + 1 → fitsN l[q]) := fun q h hq => by
            by_cases e : q = k
            · subst e; exact hf
            · exact unhide HF q h (by omega)
          have HZ := hide (unhide HB).size
          rw [hn] at hc1
          clear hc hf hn hn3 HR HCL HF HM
          go_wp2_with (go_at_call 50; refine (iappend w.heap.size _ m n 3 (by omega) (by omega) (by omega) _ (unhide HO) (unhide HZ)).mono ?_; rintro e w2 ⟨v2, rfl, ho2, hb2⟩; have HO2 := hide ho2; have HB2 := hide ((unhide HB).trans hb2); clear ho2 hb2)
          go_roundw
          case rel => exact ⟨k + 1, m ++ be n 3, by omega, by go_num, (unhide HN).symm, by rw [← unhide HN, numsL_len]; have := List.length_take_le (k + 1) l; omega, HF2, HO2, HB2⟩
          case measure => simp [intOf]; omega
        · have HV := hide (nb_bad (unhide HLO) (fun h => hf (h k hlt)))
          have hcase : l[k] < -1 ∨ (-1 ≤ l[k] ∧ 16777214 < l[k]) := by unfold fitsN at hf; omega
          obtain ⟨x, hx⟩ : ∃ x, x = l[k] := ⟨_, rfl⟩
          rw [← hx] at hc1 hcase
          clear hc hf hx
          rcases hcase with h1 | ⟨h1, h2⟩
          all_goals
            go_wp2
            go_ret2
            rw [(unhide HV).1, (unhide HV).2]
            exact ⟨_, rfl, nil_own _ _ _, unhide HB⟩
      · have HV := hide (nb_ok (unhide HLO) (fun q hq => unhide HF q hq (by omega)))
        rw [List.take_of_length_le (by omega)] at HM
        go_wp2_with fail
        go_ret2
        rw [(unhide HV).1, (unhide HV).2, ← unhide HM]
        exact ⟨_, rfl, unhide HO, unhide HB⟩
theorem inumbersH (a : Option Addr) (cap : Nat) (l : List Int) (r : List UInt8) (c : Int) (hr : r = nbL l) (hc : c = nbC l) (hl : l.length ≤ 1048576) (w : World) (hrow : RowV w a (cI l)) :
    Calls Tryd.prog 49 #[.slice a l.length cap] w fun e w' => ∃ v', e = .returned (.tuple #[v', .int .i64 c]) ∧ w'.ownsRow w.heap.size 5 1 v' r.length (B8 r) ∧ Below w.heap.size w w' := by
  subst hr hc; exact inumbers a cap l hl w hrow
end Go.Proofs.YtblhediekdeffaaDoor

/- numbersText: what the program answers. -/
namespace Go.Proofs.YtblhediekdeffaaDoor
open Go.ChangeShapes Go.WideShapes Go.ChangeAt Go.RowKit
set_option linter.unusedVariables false
set_option maxHeartbeats 400000 in
theorem inumtext (a : Option Addr) (cap : Nat) (l : List Int) (hfit : allFit l) (hl : l.length ≤ 4096) (w : World) (hr : RowV w a (cI l)) : Calls Tryd.prog 29 #[.slice a l.length cap] w fun e w' => e = .returned (.string ⟨(numsL l).toArray⟩) ∧ Below w.heap.size w w' := by
  obtain ⟨h1, h2⟩ := nb_ok (show ¬ 4096 < l.length by omega) hfit
  have T := hide (inumbersH a cap l (numsL l) 0 h1.symm h2.symm (by omega) w hr)
  obtain ⟨L, hL⟩ : ∃ L, L = numsL l := ⟨_, rfl⟩
  rw [← hL] at T
  have HL := hide hL
  clear h1 h2 hr hL hfit hl
  rw [← unhide HL]
  go_enter Tryd.func29, Tryd.ntmps29
  go_wp2_with fail
  refine (unhide T).mono ?_
  rintro e w1 ⟨v, rfl, ho, hb⟩
  have hcv := conv_own (P := Tryd.prog) Tryd.underlying22 Tryd.underlying5 Tryd.underlying9 ho
  obtain ⟨a1, c1, rfl, -⟩ := own_rowV ho
  have HB := hide hb
  clear ho hb T
  go_wp2_with fail
  go_ret
  exact ⟨rfl, unhide HB⟩
end Go.Proofs.YtblhediekdeffaaDoor
