/- Clients in the law's own words: two that are alike. -/
import Derived.Test.YtilnpkonhbmdpaaDoorZMrL
namespace Go.Proofs.YtilnpkonhbmdpaaDoor
open Go.ChangeShapes Go.WideShapes Go.ChangeAt Go.RowKit
set_option linter.unusedVariables false
set_option maxHeartbeats 2000000 in
set_option maxRecDepth 100000 in
theorem eqCl (id : Int) (win tok : ByteArray) (nb vw vh : Int) (a c : Option Addr) (cap cap2 n : Nat) (l : List ByteArray) (HN : Hid (l.length = n)) (hl : n ≤ 1048576) (w : World) (hr : RowV w a (cS l)) (hr2 : RowV w c (cS l)) :
    Calls Tryd.prog 8 #[.agg #[.int .i64 id, .string win, .string tok, .int .i64 nb, .int .i64 vw, .int .i64 vh, .slice a n cap], .agg #[.int .i64 id, .string win, .string tok, .int .i64 nb, .int .i64 vw, .int .i64 vh, .slice c n cap2]] w fun e w' => e = .returned (.bool true) ∧ Below w.heap.size w w' := by
  have HB := hide (Go.Joins.below_alloc2 w (.cells #[.int .i64 id, .string win, .string tok, .int .i64 nb, .int .i64 vw, .int .i64 vh, .slice a n cap] 31) (.cells #[.int .i64 id, .string win, .string tok, .int .i64 nb, .int .i64 vw, .int .i64 vh, .slice c n cap2] 31))
  have HR := hide (hr.below (unhide HB))
  have HR2 := hide (hr2.below (unhide HB))
  have n0 : (id != id) = false := by simp
  have n1 : (win.toList != win.toList) = false := by simp
  have n2 : (tok.toList != tok.toList) = false := by simp
  have HL := hide hl
  clear hr hr2 hl
  go_enter Tryd.func8, Tryd.ntmps8
  go_wp2_with fail
  refine (eqMr nb vw vh a c cap cap2 n l HN (unhide HL) _ (unhide HR) (unhide HR2)).mono ?_
  rintro e w2 ⟨rfl, hb2⟩
  have HB2 := hide ((unhide HB).trans (hb2.mono (unhide HB).size))
  clear hb2 HB HR HR2
  go_wp2_with fail
  go_ret
  exact ⟨rfl, unhide HB2⟩
set_option maxHeartbeats 2000000 in
set_option maxRecDepth 100000 in
theorem szCl (id : Int) (win tok : ByteArray) (nb vw vh : Int) (a : Option Addr) (cap n : Nat) (l : List ByteArray) (HN : Hid (l.length = n)) (hw : win.size ≤ maxLen) (ht : tok.size ≤ maxLen) (Y : Nat) (hY : Y ≤ 1048576) (hl : Hid (n ≤ maxLen)) (hsz : Hid (∀ k (h : k < l.length), l[k].size ≤ maxLen)) (w : World) (hr : RowV w a (cS l)) :
    Calls Tryd.prog 4 #[.agg #[.int .i64 id, .string win, .string tok, .int .i64 nb, .int .i64 vw, .int .i64 vh, .slice a n cap], .int .i64 (Y : Int)] w fun e w' => ∃ x : Int, e = .returned (.int .i64 x) ∧ Below w.heap.size w w' ∧ (x = -1 ∨ ∃ z : Nat, x = (z : Int) ∧ z + n ≤ Y ∧ n ≤ 1048576 ∧ (∀ k (h : k < l.length), l[k].size ≤ 1048576) ∧ win.size ≤ 1048576 ∧ tok.size ≤ 1048576) := by
  have HB := hide (Go.Joins.below_alloc1 w (.cells #[.int .i64 id, .string win, .string tok, .int .i64 nb, .int .i64 vw, .int .i64 vh, .slice a n cap] 26))
  have HR := hide (hr.below (unhide HB))
  have hw2 : (win.size : Int) ≤ 9223372036854775807 := by unfold maxLen at hw; omega
  have ht2 : (tok.size : Int) ≤ 9223372036854775807 := by unfold maxLen at ht; omega
  have HYY := hide hY
  clear hr hw ht
  by_cases g1 : Y < win.size
  · have c1 : (Y : Int) - (win.size : Int) < 0 := by omega
    clear g1
    go_enter Tryd.func4, Tryd.ntmps4
    go_wp2_with fail
    go_ret
    exact ⟨_, rfl, unhide HB, .inl rfl⟩
  · obtain ⟨Y1, hY1⟩ : ∃ Y1, Y1 = Y - win.size := ⟨_, rfl⟩
    have e1 : (Y : Int) - (win.size : Int) = (Y1 : Int) := by omega
    have c1 : ¬ (Y1 : Int) < 0 := by omega
    have y1 : (Y1 : Int) ≤ 1048576 := by omega
    have K1 : Hid (Y1 ≤ Y ∧ win.size ≤ Y) := ⟨by omega, by omega⟩
    clear g1 hY1
    by_cases g2 : Y1 < tok.size
    · have c2 : (Y1 : Int) - (tok.size : Int) < 0 := by omega
      clear g2
      go_enter Tryd.func4, Tryd.ntmps4
      go_wp2_with fail
      go_ret
      exact ⟨_, rfl, unhide HB, .inl rfl⟩
    · obtain ⟨Y2, hY2⟩ : ∃ Y2, Y2 = Y1 - tok.size := ⟨_, rfl⟩
      have e2 : (Y1 : Int) - (tok.size : Int) = (Y2 : Int) := by omega
      have c2 : ¬ (Y2 : Int) < 0 := by omega
      have y2 : (Y2 : Int) ≤ 1048576 := by omega
      have K2 : Hid (Y2 ≤ Y1 ∧ tok.size ≤ Y1) := ⟨by omega, by omega⟩
      clear g2 hY2 hY
      go_enter Tryd.func4, Tryd.ntmps4
      go_wp2_with fail
      refine (szMr nb vw vh a cap n l HN Y2 (by have := unhide K1; have := unhide K2; have := unhide HYY; omega) hl hsz _ (unhide HR)).mono ?_
      rintro e w2 ⟨x, rfl, hb2, hx⟩
      have HB2 := hide ((unhide HB).trans (hb2.mono (unhide HB).size))
      clear HB HR hb2
      rcases hx with rfl | ⟨z, rfl, hz, h1, h2⟩
      · go_wp2_with fail
        go_ret
        exact ⟨_, rfl, unhide HB2, .inl rfl⟩
      · have hz0 : ¬ (z : Int) < 0 := by omega
        have H1 := hide h1
        have H2 := hide h2
        have HZ := hide hz
        clear h1 h2 hz
        go_wp2_with fail
        go_ret
        have q1 := unhide K1
        have q2 := unhide K2
        have q3 := unhide HYY
        have q4 := unhide HZ
        exact ⟨_, rfl, unhide HB2, .inr ⟨z, rfl, by omega, unhide H1, unhide H2, by omega, by omega⟩⟩
set_option maxHeartbeats 2000000 in
set_option maxRecDepth 100000 in
theorem toCl (id : Int) (win tok : ByteArray) (nb vw vh : Int) (a : Option Addr) (cap n : Nat) (l : List ByteArray) (HN : Hid (l.length = n)) (hl : n ≤ 1048576) (w : World) (hr : RowV w a (cS l)) :
    Calls Tryd.prog 6 #[.agg #[.int .i64 id, .string win, .string tok, .int .i64 nb, .int .i64 vw, .int .i64 vh, .slice a n cap]] w fun e w' => ∃ g, e = .returned (.agg #[.int .i64 id, .string win, .string tok, .int .i64 nb, .int .i64 vw, .int .i64 vh, .slice (some ⟨g, 0, none⟩) n n]) ∧ w'.ownsRow w.heap.size 9 1 (.slice (some ⟨g, 0, none⟩) n n) n (cS l) ∧ Below w.heap.size w w' := by
  have HR := hide hr
  have HLN := hide hl
  clear hr hl
  have HB0 := hide (Go.Joins.below_alloc3 w (Obj.cells #[.int .i64 id, .string win, .string tok, .int .i64 nb, .int .i64 vw, .int .i64 vh, .slice a n cap] 26) (Obj.cells #[.int .i64 0, .string ⟨#[]⟩, .string ⟨#[]⟩, .int .i64 0, .int .i64 0, .int .i64 0, .slice none 0 0] 31) (Obj.cells #[.int .i64 id, .string win, .string tok, .int .i64 0, .int .i64 0, .int .i64 0, .slice none 0 0] 31))
  go_enter Tryd.func6, Tryd.ntmps6
  go_wp2_with fail
  refine (toMr nb vw vh a cap n l HN (unhide HLN) _ ((unhide HR).below (unhide HB0))).mono ?_
  rintro e w2 ⟨g2, rfl, ho2, hb2⟩
  simp only [World.size_alloc] at ho2
  obtain ⟨hc2, hf2⟩ := bcell hb2
  have x0 : ∀ o, w2.cell? ⟨w.heap.size + 1, o, none⟩ = (#[.int .i64 0, .string ⟨#[]⟩, .string ⟨#[]⟩, .int .i64 0, .int .i64 0, .int .i64 0, .slice none 0 0] : Array Value)[o]? := fun o => by
    rw [hc2 _ _ (by simp), World.cell?_alloc_past _ _ _ (by simp), show (⟨w.heap.size + 1, o, none⟩ : Addr) = ⟨(w.alloc (Obj.cells #[.int .i64 id, .string win, .string tok, .int .i64 nb, .int .i64 vw, .int .i64 vh, .slice a n cap] 26)).heap.size, o, none⟩ from by simp]; exact World.cell?_alloc_mark _ _ _ _ o
  have x1 : ∀ o, w2.frozen? ⟨w.heap.size + 1, o, none⟩ = false := fun o => (hf2 _ _ (by simp)).trans (by simp [go_sem])
  have y0 : ∀ o, w2.cell? ⟨w.heap.size + 1 + 1, o, none⟩ = (#[.int .i64 id, .string win, .string tok, .int .i64 0, .int .i64 0, .int .i64 0, .slice none 0 0] : Array Value)[o]? := fun o => by
    rw [hc2 _ _ (by simp), show (⟨w.heap.size + 1 + 1, o, none⟩ : Addr) = ⟨((w.alloc (Obj.cells #[.int .i64 id, .string win, .string tok, .int .i64 nb, .int .i64 vw, .int .i64 vh, .slice a n cap] 26)).alloc (Obj.cells #[.int .i64 0, .string ⟨#[]⟩, .string ⟨#[]⟩, .int .i64 0, .int .i64 0, .int .i64 0, .slice none 0 0] 31)).heap.size, o, none⟩ from by simp]; exact World.cell?_alloc_mark _ _ _ _ o
  have y1 : ∀ o, w2.frozen? ⟨w.heap.size + 1 + 1, o, none⟩ = false := fun o => (hf2 _ _ (by simp)).trans (by simp [go_sem])
  have HO2 := hide ho2
  have HB2 := hide ((unhide HB0).trans (hb2.mono (unhide HB0).size))
  clear ho2 hb2 hc2 hf2
  go_wp2_with fail
  refine bodyPost_ret (v := .agg #[.int .i64 id, .string win, .string tok, .int .i64 nb, .int .i64 vw, .int .i64 vh, .slice (some ⟨g2, 0, none⟩) n n]) (by simp [results, Tryd.results6, go_sem, x0]) rfl ⟨g2, rfl, ?_, ?_⟩
  · have hl1 : w.heap.size + 1 < w.heap.size + 1 + 1 + 1 := by omega
    have hl2 : w.heap.size + 1 + 1 < w.heap.size + 1 + 1 + 1 := by omega
    refine Go.Joins.ownsRow_le (base := w.heap.size + 1 + 1 + 1) ?_ (by omega)
    repeat refine ownsRow_setCell_below ?_ (by first | exact hl1 | exact hl2) _
    exact unhide HO2
  · have hl1 : w.heap.size ≤ w.heap.size + 1 := by omega
    have hl2 : w.heap.size ≤ w.heap.size + 1 + 1 := by omega
    repeat refine Below.setCell ?_ (by first | exact hl1 | exact hl2) _
    exact unhide HB2
end Go.Proofs.YtilnpkonhbmdpaaDoor
