/- ViewOK: what the program answers. -/
import Derived.Test.YtblhediekdeffaaDoorZVoM
import Derived.Test.YtblhediekdeffaaDoorZVwI
import Derived.Test.YtblhediekdeffaaDoorZG13
import Derived.Deep.AppendSrc
namespace Go.Proofs.YtblhediekdeffaaDoor
open Go.ChangeShapes Go.WideShapes Go.ChangeAt Go.RowKit
set_option linter.unusedVariables false
set_option maxHeartbeats 4000000 in
set_option maxRecDepth 100000 in
theorem iplaces (nb fr : Int) (fu : Bool) (vw : Int) (H : Nat) (hH : H ≤ 10) (hH2 : 2 ≤ H) (a : Option Addr) (cap n : Nat) (l : List Rw) (HN : Hid (l.length = n)) (hn : n ≤ 1048576) (t : Nat) (Q : Bool) (HQ : Hid (Q = riseB (H : Int) l)) (HT : Hid (t = if Q then tol l n else 0)) (w : World) (hr : RowV w a (cE l)) :
    Calls Tryd.prog 44 #[.agg #[.int .i64 nb, .int .i64 fr, .bool fu, .int .i64 vw, .int .i64 (H : Int), .slice a n cap]] w fun e w' => e = .returned (.tuple #[.int .u16 (t : Int), .bool Q]) ∧ Below w.heap.size w w' := by
  have HCL := hide (cE_len l)
  have B0 := hide (Go.Joins.below_alloc1 w (.cells #[.int .i64 nb, .int .i64 fr, .bool fu, .int .i64 vw, .int .i64 (H : Int), .slice a n cap] 25))
  have HA := hide (BF.new w #[.int .i64 nb, .int .i64 fr, .bool fu, .int .i64 vw, .int .i64 (H : Int), .slice a n cap] 25)
  have HR := hide hr
  obtain ⟨h1, hh1⟩ : ∃ h1 : Nat, h1 = H - 1 := ⟨_, rfl⟩
  have e1 : (H : Int) - 1 = (h1 : Int) := by omega
  clear hr hh1
  go_enter Tryd.func44, Tryd.ntmps44
  go_wp2_with fail
  go_loopw [2, 9] (fun s i wr => ∃ (k q : Nat), k ≤ n ∧ i = .int .i64 (k : Int) ∧ s = .int .u16 (q : Int) ∧ Hid (q = tol l k) ∧ Hid (∀ i, i < k → stepB (H : Int) l i = true) ∧ Hid (Below w.heap.size w wr) ∧ Hid (BF w.heap.size #[.int .i64 nb, .int .i64 fr, .bool fu, .int .i64 vw, .int .i64 (H : Int), .slice a n cap] wr)) (fun _ i _ => n - (intOf i).toNat)
  case atStart => exact ⟨0, 0, by omega, rfl, rfl, rfl, fun i h => absurd h (Nat.not_lt_zero _), B0, HA⟩
  case round =>
    clear B0 HA
    obtain ⟨k, q, hk, rfl, rfl, HTQ, HF, HB, HA⟩ := hrel
    by_cases hlt : k < n
    · have hlt' : (k : Int) < (n : Int) := by omega
      have hkR : k < l.length := by rw [unhide HN]; exact hlt
      obtain ⟨b1, off, ha, hblt, hc⟩ := (unhide HR).at (by rw [unhide HCL, unhide HN]; omega)
      subst ha
      obtain ⟨x0, x1⟩ := row_ent hc k hkR
      obtain ⟨y, ey⟩ : ∃ y, y = l[k].1 := ⟨_, rfl⟩
      obtain ⟨d, ed⟩ : ∃ d, d = l[k].2 := ⟨_, rfl⟩
      rw [← ey] at x0
      rw [← ed] at x1
      have hx0 : wr.cell? ⟨b1, off + k * 2, none⟩ = some (.int .i64 y) := ((unhide HB).cell (p := ⟨b1, off + k * 2, none⟩) hblt).trans x0
      have hx1 : wr.cell? ⟨b1, off + k * 2 + 1, none⟩ = some (.string d) := ((unhide HB).cell (p := ⟨b1, off + k * 2 + 1, none⟩) hblt).trans x1
      have HYA : Hid (yAt l k = y) := by show _ = _; rw [yAt_at l k hkR, ey]
      have HB2 := hide ((unhide HB).alloc (unhide HB).size (.cells #[.int .i64 y, .string d] 51))
      have HA2 := hide ((unhide HA).alloc (.cells #[.int .i64 y, .string d] 51))
      have kA := (unhide HA).S
      have kL : w.heap.size < wr.heap.size := (unhide HA).lt
      clear hc x0 x1 ey ed
      obtain ⟨c1, hc1⟩ : ∃ c, c = inB y 0 (h1 : Int) := ⟨_, rfl⟩
      have HC1 := hide hc1
      cases c1 with
      | false =>
        have HQF : Hid (Q = false) := by
          show _ = _
          rw [unhide HQ]
          refine rise_no hkR ?_
          unfold stepB
          rw [unhide HYA]
          have h3 := prev_ge k (unhide HF)
          have h4 : ¬ (0 ≤ y ∧ y ≤ (h1 : Int)) := of_decide_eq_false hc1.symm
          rw [Bool.and_eq_false_iff]
          by_cases h5 : 0 ≤ y
          · right; exact decide_eq_false (by omega)
          · left; exact decide_eq_false (by omega)
        obtain rfl : Q = false := unhide HQF
        obtain rfl : t = 0 := unhide HT
        clear HF hc1
        go_wp2_with (go_at_call 48; refine (iwi y 0 _ false HC1 _).mono ?_; rintro e w2 ⟨rfl, rfl⟩)
        go_ret2
        exact ⟨rfl, unhide HB2⟩
      | true =>
        have h4 : 0 ≤ y ∧ y ≤ (h1 : Int) := of_decide_eq_true hc1.symm
        obtain ⟨Y, rfl⟩ : ∃ Y : Nat, y = (Y : Int) := ⟨y.toNat, by omega⟩
        have hY : Y < 10 := by omega
        obtain ⟨c2, hc2⟩ : ∃ c, c = decide (q < 2 ^ Y) := ⟨_, rfl⟩
        have HC2 := hide hc2
        have hcmp : c2 = decide (yPrev l k < (Y : Int)) := by rw [hc2, unhide HTQ]; exact tol_cmp k Y (unhide HF)
        have HCMP := hide hcmp
        have hq10 : q < 1024 := by rw [unhide HTQ]; exact tol_small (by omega) (unhide HF)
        clear hc1 hc2 hcmp
        cases c2 with
        | false =>
          have HQF : Hid (Q = false) := by
            show _ = _
            rw [unhide HQ]
            refine rise_no hkR ?_
            unfold stepB
            rw [unhide HYA, ← unhide HCMP]
            rfl
          obtain rfl : Q = false := unhide HQF
          obtain rfl : t = 0 := unhide HT
          clear HF h4
          go_wp2_with (first | (go_at_call 48; refine (iwi _ 0 _ true HC1 _).mono ?_; rintro e w2 ⟨rfl, rfl⟩) | (go_at_call 57; refine (iends q Y hY false HC2 _).mono ?_; rintro e w2 ⟨rfl, rfl⟩))
          go_ret2
          exact ⟨rfl, unhide HB2⟩
        | true =>
          have HF2 : Hid (∀ i, i < k + 1 → stepB (H : Int) l i = true) := fun i hi => by
            by_cases e : i = k
            · subst e; unfold stepB; rw [unhide HYA, ← unhide HCMP, decide_eq_true (by omega)]; rfl
            · exact unhide HF i (by omega)
          obtain ⟨q2, hq2⟩ : ∃ q2, q2 = (q ||| 2 ^ Y) := ⟨_, rfl⟩
          have HQ2 := hide hq2
          have HTQ2 : Hid (q2 = tol l (k + 1)) := by
            show _ = _
            unfold tol
            rw [hq2, unhide HTQ, unhide HYA]; rfl
          clear HF h4 hq2
          go_wp2_with (first | (go_at_call 48; refine (iwi _ 0 _ true HC1 _).mono ?_; rintro e w2 ⟨rfl, rfl⟩) | (go_at_call 57; refine (iends q Y hY true HC2 _).mono ?_; rintro e w2 ⟨rfl, rfl⟩) | (go_at_call 58; refine (iwith q Y q2 hq10 hY HQ2 _).mono ?_; rintro e w2 ⟨rfl, rfl⟩))
          go_roundw
          case rel => exact ⟨k + 1, q2, by omega, by go_num, rfl, HTQ2, HF2, HB2, HA2⟩
          case measure => simp [intOf]; omega
    · obtain rfl : k = n := by omega
      have HQT : Hid (Q = true) := by show _ = _; rw [unhide HQ]; exact rise_yes fun i hi => unhide HF i (by have := unhide HN; omega)
      obtain rfl : Q = true := unhide HQT
      obtain rfl : t = q := (unhide HT).trans (unhide HTQ).symm
      go_wp2_with fail
      go_ret2
      exact ⟨rfl, unhide HB⟩
end Go.Proofs.YtblhediekdeffaaDoor
