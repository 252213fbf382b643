/- NewClient: what the specification answers. -/
import Derived.Test.YtcgklaplofnemaaDoorZG23
import Derived.Test.YtcgklaplofnemaaDoorZIssS
namespace Go.Proofs.YtcgklaplofnemaaDoor
open Go.ChangeShapes Go.WideShapes Go.ChangeAt Go.RowKit
set_option linter.unusedVariables false
set_option maxHeartbeats 2000000 in
set_option maxRecDepth 100000 in
theorem sl13new (key : ByteArray) (id : Int) (win : ByteArray) (HKS : Hid (key.size ≤ 65536)) (HT : Hid (tokB id win (-1) = true)) (S : ByteArray) (HS : Hid (S = issT key id win (-1))) (w : World) :
    Calls Tryd.prog 10 #[.string key, .int .i64 id, .string win] w fun e w' => ∃ v, e = .returned (.agg #[.int .i64 id, .string win, .string S, .int .i64 (-1), .int .i64 0, .int .i64 0, v]) ∧ w'.ownsRow w.heap.size 9 1 v 0 [] ∧ Below w.heap.size w w' := by
  have B0 := hide (Go.Joins.below_alloc1 w (.cells #[.int .i64 0, .string ⟨#[]⟩, .string ⟨#[]⟩, .int .i64 0, .int .i64 0, .int .i64 0, .slice none 0 0] 26))
  have Z0 := hide (BF.new w #[.int .i64 0, .string ⟨#[]⟩, .string ⟨#[]⟩, .int .i64 0, .int .i64 0, .int .i64 0, .slice none 0 0] 26)
  go_enter Tryd.func10, Tryd.ntmps10
  go_wp2_with (go_at_call 17; refine (sissue id win (-1) HT key HKS S HS _).mono ?_; rintro e w2 ⟨rfl, hb2⟩; have B2 := hide ((unhide B0).trans (hb2.mono (unhide B0).size)); have Z2 := hide ((unhide Z0).below hb2); have Z3 := hide ((unhide Z2).alloc (.cells #[] 9)); have kz := (unhide Z3).S; have kf := (unhide Z3).F; clear hb2)
  have zl := (unhide Z2).lt
  refine bodyPost_ret (v := .agg #[.int .i64 id, .string win, .string S, .int .i64 (-1), .int .i64 0, .int .i64 0, .slice (some ⟨w2.heap.size, 0, none⟩) 0 0]) (by simp [results, Tryd.results10, go_sem, kz]) rfl ⟨_, rfl, ?_, ?_⟩
  · refine Go.Joins.ownsRow_le (base := w.heap.size + 1) ?_ (by omega)
    repeat refine ownsRow_setCell_below ?_ (by exact Nat.lt_succ_self _) _
    exact World.ownsRow_lit (e := 9) (base := w.heap.size + 1) (size := 1) w2 #[] 0 (by omega) (by unfold maxLen; omega) rfl
  · repeat refine Below.setCell ?_ (by exact Nat.le_refl _) _
    exact (unhide B2).alloc (unhide B2).size (.cells #[] 9)
set_option maxHeartbeats 2000000 in
set_option maxRecDepth 100000 in
theorem snewcl (key : ByteArray) (id : Int) (win : ByteArray) (HKS : Hid (key.size ≤ 1048576)) (HWS : Hid (win.size ≤ 1048576)) (id2 : Int) (win2 S : ByteArray) (nb2 q : Int) (HI : Hid (NcIs key id win id2 win2 S nb2 q)) (w : World) :
    Calls Tryd.prog 4 #[.string key, .int .i64 id, .string win] w fun e w' => ∃ v, e = .returned (.tuple #[.agg #[.int .i64 id2, .string win2, .string S, .int .i64 nb2, .int .i64 0, .int .i64 0, v], .int .i64 q]) ∧ w'.ownsRow w.heap.size 9 1 v 0 [] ∧ Below w.heap.size w w' := by
  have B0 := hide (Go.Joins.below_alloc1 w (.cells #[.int .i64 0, .string ⟨#[]⟩, .string ⟨#[]⟩, .int .i64 0, .int .i64 0, .int .i64 0, .slice none 0 0] 26))
  have Z0 := hide (BF.new w #[.int .i64 0, .string ⟨#[]⟩, .string ⟨#[]⟩, .int .i64 0, .int .i64 0, .int .i64 0, .slice none 0 0] 26)
  have HS := (unhide HI).1
  have HQ := (unhide HI).2.1
  have h1 := (unhide HI).2.2.1
  have h2 := (unhide HI).2.2.2
  clear HI
  cases hl : tmL key win with
  | true =>
    obtain rfl : q = 2 := by rw [HQ]; unfold tmC; rw [hl]; rfl
    obtain ⟨rfl, rfl, rfl⟩ := h2 (by decide)
    obtain rfl : S = ⟨#[]⟩ := by rw [HS]; unfold itkS; rw [hl]; rfl
    have hl' : 65536 < key.size ∨ 65536 < win.size := of_decide_eq_true hl
    clear h1 h2 HS HQ hl
    by_cases b0 : 65536 < key.size
    · go_enter Tryd.func4, Tryd.ntmps4
      go_wp2_with fail
      refine bodyPost_ret (v := .tuple #[.agg #[.int .i64 0, .string ⟨#[]⟩, .string ⟨#[]⟩, .int .i64 0, .int .i64 0, .int .i64 0, .slice none 0 0], .int .i64 2]) (by simp [results, Tryd.results4, go_sem]) rfl ?_
      exact ⟨_, rfl, World.ownsRow_nil _ _ _ _, by (repeat refine Below.setCell ?_ (by exact Nat.le_refl _) _); exact unhide B0⟩
    · have b1 : 65536 < win.size := by omega
      clear hl'
      go_enter Tryd.func4, Tryd.ntmps4
      go_wp2_with fail
      refine bodyPost_ret (v := .tuple #[.agg #[.int .i64 0, .string ⟨#[]⟩, .string ⟨#[]⟩, .int .i64 0, .int .i64 0, .int .i64 0, .slice none 0 0], .int .i64 2]) (by simp [results, Tryd.results4, go_sem]) rfl ?_
      exact ⟨_, rfl, World.ownsRow_nil _ _ _ _, by (repeat refine Below.setCell ?_ (by exact Nat.le_refl _) _); exact unhide B0⟩
  | false =>
    have hlp := tml_parts hl
    have HKS2 := hide hlp.1
    have b0 : ¬ (65536 : Int) < (key.size : Int) := by omega
    have b1 : ¬ (65536 : Int) < (win.size : Int) := by omega
    obtain ⟨k, hk⟩ : ∃ k, k = tokB id win 0 := ⟨_, rfl⟩
    have HKB := hide hk
    cases k with
    | false =>
      have hk1 : tokB id win (-1) = false := by rw [← tok_m1]; exact hk.symm
      obtain rfl : q = 1 := by rw [HQ]; unfold tmC; rw [hl, hk1]; rfl
      obtain ⟨rfl, rfl, rfl⟩ := h2 (by decide)
      obtain rfl : S = ⟨#[]⟩ := by rw [HS]; unfold itkS; rw [hl, hk1]; rfl
      clear h1 h2 HS HQ hl hlp hk hk1
      go_enter Tryd.func4, Tryd.ntmps4
      go_wp2_with (go_at_call 9; refine (sask id win 0 HWS false HKB _).mono ?_; rintro e w2 ⟨rfl, hw⟩; subst w2)
      refine bodyPost_ret (v := .tuple #[.agg #[.int .i64 0, .string ⟨#[]⟩, .string ⟨#[]⟩, .int .i64 0, .int .i64 0, .int .i64 0, .slice none 0 0], .int .i64 1]) (by simp [results, Tryd.results4, go_sem]) rfl ?_
      exact ⟨_, rfl, World.ownsRow_nil _ _ _ _, by (repeat refine Below.setCell ?_ (by exact Nat.le_refl _) _); exact unhide B0⟩
    | true =>
      have hk1 : tokB id win (-1) = true := by rw [← tok_m1]; exact hk.symm
      obtain rfl : q = 0 := by rw [HQ]; unfold tmC; rw [hl, hk1]; rfl
      obtain ⟨rfl, rfl, rfl⟩ := h1 rfl
      have HS2 : Hid (S = issT key id2 win2 (-1)) := by show _ = _; rw [HS]; unfold itkS; rw [hl, hk1]; rfl
      have HT := hide hk1
      clear h1 h2 HS HQ hl hlp hk hk1
      go_enter Tryd.func4, Tryd.ntmps4
      go_wp2_with (first | (go_at_call 9; refine (sask id2 win2 0 HWS true HKB _).mono ?_; rintro e w2 ⟨rfl, hw⟩; subst w2; have B2 := hide (unhide B0); have Z2 := hide (unhide Z0)) | (go_at_call 10; have B2' := B2; refine (sl13new key id2 win2 HKS2 HT S HS2 _).mono ?_; rintro e w3 ⟨v3, rfl, ho3, hb3⟩; obtain ⟨a3, c3, rfl, -⟩ := own_rowV ho3; have B3 := hide ((unhide B2).trans (hb3.mono (unhide B2).size)); have Z3 := hide ((unhide Z2).below hb3); have kz := (unhide Z3).S; have kf := (unhide Z3).F; have O3 := hide (Go.Joins.ownsRow_le ho3 (show (w.heap.size + 1) ≤ _ from (unhide Z2).lt)); clear hb3 ho3))
      refine bodyPost_ret (v := .tuple #[.agg #[.int .i64 id2, .string win2, .string S, .int .i64 (-1), .int .i64 0, .int .i64 0, .slice a3 0 c3], .int .i64 0]) (by simp [results, Tryd.results4, go_sem, kz]) rfl ⟨_, rfl, ?_, ?_⟩
      · refine Go.Joins.ownsRow_le (base := w.heap.size + 1) ?_ (by omega)
        repeat refine ownsRow_setCell_below ?_ (by exact Nat.lt_succ_self _) _
        exact unhide O3
      · repeat refine Below.setCell ?_ (by exact Nat.le_refl _) _
        exact unhide B3
end Go.Proofs.YtcgklaplofnemaaDoor
