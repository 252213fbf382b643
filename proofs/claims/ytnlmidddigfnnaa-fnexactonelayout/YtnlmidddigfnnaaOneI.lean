/- OneLayout: what the program and the specification answer. -/
import Derived.Test.YtnlmidddigfnnaaAppT
import Derived.Test.YtnlmidddigfnnaaLayL
import Derived.Test.YtnlmidddigfnnaaInS
namespace Go.Proofs.Ytnlmidddigfnnaa
open Go.ChangeShapes Go.WideShapes Go.ChangeAt Go.RowKit
def oneL (n : Int) : List Pt := if pnB n then [⟨n, false, 0, -1, -1⟩] else []
def oneC (n : Int) : Int := if pnB n then 0 else 4
set_option maxHeartbeats 400000 in
set_option maxRecDepth 100000 in
theorem ione (n c : Int) (l : List Pt) (hc : c = oneC n) (hl : l = oneL n) (w : World) : Calls Try.prog 5 #[.int .i64 n] w fun e w' => ∃ a cap, e = .returned (.tuple #[.agg #[.slice a l.length cap], .int .i64 c]) ∧ w'.ownsRow w.heap.size 39 5 (.slice a l.length cap) l.length (cPt l) ∧ Below w.heap.size w w' := by
  cases hs : pnB n with
  | false =>
    have hc' : c = 4 := by rw [hc]; unfold oneC; rw [hs]; rfl
    have hl' : l = [] := by rw [hl]; unfold oneL; rw [hs]; rfl
    clear hc hl
    subst hc' hl'
    go_enter Try.func5, Try.ntmps5
    go_wp2_with (go_at_call 11; refine (ipnok n _).mono ?_; rintro e w1 ⟨rfl, rfl⟩; rw [hs])
    refine bodyPost_ret (v := .tuple #[.agg #[.slice none 0 0], .int .i64 4]) (by simp [results, Try.results5, go_sem]) rfl ⟨none, 0, rfl, World.ownsRow_nil _ _ _ _, ?_⟩
    exact Go.Joins.below_alloc1 w _
  | true =>
    have hc' : c = 0 := by rw [hc]; unfold oneC; rw [hs]; rfl
    have hl' : l = [⟨n, false, 0, -1, -1⟩] := by rw [hl]; unfold oneL; rw [hs]; rfl
    clear hc hl
    subst hc' hl'
    go_enter Try.func5, Try.ntmps5
    go_wp2_with (go_at_call 11; refine (ipnok n _).mono ?_; rintro e w1 ⟨rfl, rfl⟩; rw [hs])
    have hT : TreeAt iBx ((w.alloc (Obj.cells #[.slice none 0 0] 24)).alloc (Obj.cells #[.int .i64 n, .bool false, .int .i64 0, .pointer none, .pointer none] 34)) (.pane n) (w.heap.size + 1) [w.heap.size + 1] := ⟨rfl, by have := BF.new (w.alloc (Obj.cells #[.slice none 0 0] 24)) #[.int .i64 n, .bool false, .int .i64 0, .pointer none, .pointer none] 34; simp at this; exact this⟩
    refine (ilayout (.pane n) (w.heap.size + 1) _ _ hT (by simp [Tr.cnt])).mono ?_
    rintro e w2 ⟨va, vc, rfl, ho2, hb2⟩
    have e1 : (Tr.pane n).cnt = 1 := rfl
    rw [e1] at ho2 ⊢
    clear e1
    obtain ⟨hc2, hf2⟩ := bcell hb2
    have x0 : w2.cell? ⟨w.heap.size, 0, none⟩ = some (.slice none 0 0) := (hc2 _ _ (by simp; omega)).trans ((World.cell?_alloc_lt _ _ ⟨w.heap.size, 0, none⟩ (by simp)).trans (World.cell?_alloc_mark w _ _ _ 0))
    have x1 : w2.frozen? ⟨w.heap.size, 0, none⟩ = false := (hf2 _ _ (by simp; omega)).trans (by simp [go_sem])
    have HO2 := hide ho2
    have HB2 := hide ((Go.Joins.below_alloc2 w _ _).trans (hb2.mono (by simp; omega)))
    clear ho2 hb2 hc2 hf2 hT
    go_wp2_with fail
    refine bodyPost_ret (v := .tuple #[.agg #[.slice va 1 vc], .int .i64 0]) (by simp [results, Try.results5, go_sem, x0]) rfl ⟨va, vc, rfl, ?_, ?_⟩
    · refine Go.Joins.ownsRow_le (base := w.heap.size + 1) ?_ (by omega)
      refine ownsRow_setCell_below ?_ (by exact Nat.lt_succ_self _) _
      refine Go.Joins.ownsRow_le (unhide HO2) ?_
      simp
    · exact Below.setCell (unhide HB2) (by exact Nat.le_refl _) _
set_option maxHeartbeats 400000 in
set_option maxRecDepth 100000 in
theorem sl05one (n : Int) (w : World) : Calls Try.prog 10 #[.int .i64 n] w fun e w' => ∃ g, e = .returned (.agg #[.slice (some ⟨g, 0, none⟩) 1 1]) ∧ w'.ownsRow w.heap.size 39 5 (.slice (some ⟨g, 0, none⟩) 1 1) 1 (cPt [⟨n, false, 0, -1, -1⟩]) ∧ Below w.heap.size w w' := by
  go_enter Try.func10, Try.ntmps10
  go_wp2_with fail
  refine bodyPost_ret (v := .agg #[.slice (some ⟨w.heap.size + 1, 0, none⟩) 1 1]) (by simp [results, Try.results10, go_sem]) rfl ⟨w.heap.size + 1, rfl, ?_, ?_⟩
  · refine Go.Joins.ownsRow_le (base := w.heap.size + 1) ?_ (by omega)
    have := World.ownsRow_lit (e := 39) (base := w.heap.size + 1) (size := 5) (w.alloc (Obj.cells #[.slice (some ⟨w.heap.size + 1, 0, none⟩) 1 1] 24)) #[.int .i64 n, .bool false, .int .i64 0, .int .i64 (-1), .int .i64 (-1)] 1 (by simp) (by decide) rfl
    simp at this
    exact this
  · repeat refine Below.setCell ?_ (by exact Nat.le_refl _) _
    exact Go.Joins.below_alloc2 w _ _
set_option maxHeartbeats 400000 in
set_option maxRecDepth 100000 in
theorem sone (n c : Int) (l : List Pt) (hc : c = oneC n) (hl : l = oneL n) (w : World) : Calls Try.prog 4 #[.int .i64 n] w fun e w' => ∃ a cap, e = .returned (.tuple #[.agg #[.slice a l.length cap], .int .i64 c]) ∧ w'.ownsRow w.heap.size 39 5 (.slice a l.length cap) l.length (cPt l) ∧ Below w.heap.size w w' := by
  cases hs : pnB n with
  | false =>
    have hc' : c = 4 := by rw [hc]; unfold oneC; rw [hs]; rfl
    have hl' : l = [] := by rw [hl]; unfold oneL; rw [hs]; rfl
    clear hc hl
    subst hc' hl'
    go_enter Try.func4, Try.ntmps4
    go_wp2_with (go_at_call 9; refine (sin n 1 1000 _).mono ?_; rintro e w1 ⟨rfl, rfl⟩; rw [show inB n 1 1000 = false from hs])
    refine bodyPost_ret (v := .tuple #[.agg #[.slice none 0 0], .int .i64 4]) (by simp [results, Try.results4, go_sem]) rfl ⟨none, 0, rfl, World.ownsRow_nil _ _ _ _, ?_⟩
    exact Go.Joins.below_alloc1 w _
  | true =>
    have hc' : c = 0 := by rw [hc]; unfold oneC; rw [hs]; rfl
    have hl' : l = [⟨n, false, 0, -1, -1⟩] := by rw [hl]; unfold oneL; rw [hs]; rfl
    clear hc hl
    subst hc' hl'
    go_enter Try.func4, Try.ntmps4
    go_wp2_with (first | (go_at_call 9; refine (sin n 1 1000 _).mono ?_; rintro e w1 ⟨rfl, rfl⟩; rw [show inB n 1 1000 = true from hs]))
    refine (sl05one n _).mono ?_
    rintro e w2 ⟨g, rfl, ho2, hb2⟩
    obtain ⟨hc2, hf2⟩ := bcell hb2
    have x0 : w2.cell? ⟨w.heap.size, 0, none⟩ = some (.slice none 0 0) := (hc2 _ _ (by simp)).trans (World.cell?_alloc_mark w _ _ _ 0)
    have x1 : w2.frozen? ⟨w.heap.size, 0, none⟩ = false := (hf2 _ _ (by simp)).trans (by simp [go_sem])
    have HO2 := hide ho2
    have HB2 := hide ((Go.Joins.below_alloc1 w _).trans (hb2.mono (by simp)))
    clear ho2 hb2 hc2 hf2
    go_wp2_with fail
    refine bodyPost_ret (v := .tuple #[.agg #[.slice (some ⟨g, 0, none⟩) 1 1], .int .i64 0]) (by simp [results, Try.results4, go_sem, x0]) rfl ⟨_, _, rfl, ?_, ?_⟩
    · refine Go.Joins.ownsRow_le (base := w.heap.size + 1) ?_ (by omega)
      refine ownsRow_setCell_below ?_ (by exact Nat.lt_succ_self _) _
      refine Go.Joins.ownsRow_le (unhide HO2) ?_
      simp
    · exact Below.setCell (unhide HB2) (by exact Nat.le_refl _) _
end Go.Proofs.Ytnlmidddigfnnaa
