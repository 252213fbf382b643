/- Texts put together: CliL MarkS. -/
import Derived.Test.YtmmnoepcklfonaaGreatDoorZG44
import Derived.Test.YtmmnoepcklfonaaGreatDoorZStrS
/- Clients in the law's own words: two that are alike. -/
namespace Go.Proofs.YtmmnoepcklfonaaGreatDoor
open Go.ChangeShapes Go.WideShapes Go.ChangeAt Go.RowKit
set_option linter.unusedVariables false
set_option maxHeartbeats 2000000 in
set_option maxRecDepth 100000 in
theorem eqCl (id : Int) (win tok : ByteArray) (nb vw vh : Int) (a c : Option Addr) (cap cap2 n : Nat) (l : List ByteArray) (HN : Hid (l.length = n)) (hl : n ≤ 1048576) (w : World) (hr : RowV w a (cS l)) (hr2 : RowV w c (cS l)) :
    Calls Tryz.prog 10 #[.agg #[.int .i64 id, .string win, .string tok, .int .i64 nb, .int .i64 vw, .int .i64 vh, .slice a n cap], .agg #[.int .i64 id, .string win, .string tok, .int .i64 nb, .int .i64 vw, .int .i64 vh, .slice c n cap2]] w fun e w' => e = .returned (.bool true) ∧ Below w.heap.size w w' := by
  have HB := hide (Go.Joins.below_alloc2 w (.cells #[.int .i64 id, .string win, .string tok, .int .i64 nb, .int .i64 vw, .int .i64 vh, .slice a n cap] 34) (.cells #[.int .i64 id, .string win, .string tok, .int .i64 nb, .int .i64 vw, .int .i64 vh, .slice c n cap2] 34))
  have HR := hide (hr.below (unhide HB))
  have HR2 := hide (hr2.below (unhide HB))
  have n0 : (id != id) = false := by simp
  have n1 : (win.toList != win.toList) = false := by simp
  have n2 : (tok.toList != tok.toList) = false := by simp
  have HL := hide hl
  clear hr hr2 hl
  go_enter Tryz.func10, Tryz.ntmps10
  go_wp2_with fail
  refine (eqMr nb vw vh a c cap cap2 n l HN (unhide HL) _ (unhide HR) (unhide HR2)).mono ?_
  rintro e w2 ⟨rfl, hb2⟩
  have HB2 := hide ((unhide HB).trans (hb2.mono (unhide HB).size))
  clear hb2 HB HR HR2
  go_wp2_with fail
  go_ret
  exact ⟨rfl, unhide HB2⟩
set_option maxHeartbeats 2000000 in
set_option maxRecDepth 100000 in
theorem szCl (id : Int) (win tok : ByteArray) (nb vw vh : Int) (a : Option Addr) (cap n : Nat) (l : List ByteArray) (HN : Hid (l.length = n)) (hw : win.size ≤ maxLen) (ht : tok.size ≤ maxLen) (Y : Nat) (hY : Y ≤ 1048576) (hl : Hid (n ≤ maxLen)) (hsz : Hid (∀ k (h : k < l.length), l[k].size ≤ maxLen)) (w : World) (hr : RowV w a (cS l)) :
    Calls Tryz.prog 4 #[.agg #[.int .i64 id, .string win, .string tok, .int .i64 nb, .int .i64 vw, .int .i64 vh, .slice a n cap], .int .i64 (Y : Int)] w fun e w' => ∃ x : Int, e = .returned (.int .i64 x) ∧ Below w.heap.size w w' ∧ (x = -1 ∨ ∃ z : Nat, x = (z : Int) ∧ z + n ≤ Y ∧ n ≤ 1048576 ∧ (∀ k (h : k < l.length), l[k].size ≤ 1048576) ∧ win.size ≤ 1048576 ∧ tok.size ≤ 1048576) := by
  have HB := hide (Go.Joins.below_alloc1 w (.cells #[.int .i64 id, .string win, .string tok, .int .i64 nb, .int .i64 vw, .int .i64 vh, .slice a n cap] 26))
  have HR := hide (hr.below (unhide HB))
  have hw2 : (win.size : Int) ≤ 9223372036854775807 := by unfold maxLen at hw; omega
  have ht2 : (tok.size : Int) ≤ 9223372036854775807 := by unfold maxLen at ht; omega
  have HYY := hide hY
  clear hr hw ht
  by_cases g1 : Y < win.size
  · have c1 : (Y : Int) - (win.size : Int) < 0 := by omega
    clear g1
    go_enter Tryz.func4, Tryz.ntmps4
    go_wp2_with fail
    go_ret
    exact ⟨_, rfl, unhide HB, .inl rfl⟩
  · obtain ⟨Y1, hY1⟩ : ∃ Y1, Y1 = Y - win.size := ⟨_, rfl⟩
    have e1 : (Y : Int) - (win.size : Int) = (Y1 : Int) := by omega
    have c1 : ¬ (Y1 : Int) < 0 := by omega
    have y1 : (Y1 : Int) ≤ 1048576 := by omega
    have K1 : Hid (Y1 ≤ Y ∧ win.size ≤ Y) := ⟨by omega, by omega⟩
    clear g1 hY1
    by_cases g2 : Y1 < tok.size
    · have c2 : (Y1 : Int) - (tok.size : Int) < 0 := by omega
      clear g2
      go_enter Tryz.func4, Tryz.ntmps4
      go_wp2_with fail
      go_ret
      exact ⟨_, rfl, unhide HB, .inl rfl⟩
    · obtain ⟨Y2, hY2⟩ : ∃ Y2, Y2 = Y1 - tok.size := ⟨_, rfl⟩
      have e2 : (Y1 : Int) - (tok.size : Int) = (Y2 : Int) := by omega
      have c2 : ¬ (Y2 : Int) < 0 := by omega
      have y2 : (Y2 : Int) ≤ 1048576 := by omega
      have K2 : Hid (Y2 ≤ Y1 ∧ tok.size ≤ Y1) := ⟨by omega, by omega⟩
      clear g2 hY2 hY
      go_enter Tryz.func4, Tryz.ntmps4
      go_wp2_with fail
      refine (szMr nb vw vh a cap n l HN Y2 (by have := unhide K1; have := unhide K2; have := unhide HYY; omega) hl hsz _ (unhide HR)).mono ?_
      rintro e w2 ⟨x, rfl, hb2, hx⟩
      have HB2 := hide ((unhide HB).trans (hb2.mono (unhide HB).size))
      clear HB HR hb2
      rcases hx with rfl | ⟨z, rfl, hz, h1, h2⟩
      · go_wp2_with fail
        go_ret
        exact ⟨_, rfl, unhide HB2, .inl rfl⟩
      · have hz0 : ¬ (z : Int) < 0 := by omega
        have H1 := hide h1
        have H2 := hide h2
        have HZ := hide hz
        clear h1 h2 hz
        go_wp2_with fail
        go_ret
        have q1 := unhide K1
        have q2 := unhide K2
        have q3 := unhide HYY
        have q4 := unhide HZ
        exact ⟨_, rfl, unhide HB2, .inr ⟨z, rfl, by omega, unhide H1, unhide H2, by omega, by omega⟩⟩
set_option maxHeartbeats 2000000 in
set_option maxRecDepth 100000 in
theorem toCl (id : Int) (win tok : ByteArray) (nb vw vh : Int) (a : Option Addr) (cap n : Nat) (l : List ByteArray) (HN : Hid (l.length = n)) (hl : n ≤ 1048576) (w : World) (hr : RowV w a (cS l)) :
    Calls Tryz.prog 7 #[.agg #[.int .i64 id, .string win, .string tok, .int .i64 nb, .int .i64 vw, .int .i64 vh, .slice a n cap]] w fun e w' => ∃ g, e = .returned (.agg #[.int .i64 id, .string win, .string tok, .int .i64 nb, .int .i64 vw, .int .i64 vh, .slice (some ⟨g, 0, none⟩) n n]) ∧ w'.ownsRow w.heap.size 9 1 (.slice (some ⟨g, 0, none⟩) n n) n (cS l) ∧ Below w.heap.size w w' := by
  have HR := hide hr
  have HLN := hide hl
  clear hr hl
  have HB0 := hide (Go.Joins.below_alloc3 w (Obj.cells #[.int .i64 id, .string win, .string tok, .int .i64 nb, .int .i64 vw, .int .i64 vh, .slice a n cap] 26) (Obj.cells #[.int .i64 0, .string ⟨#[]⟩, .string ⟨#[]⟩, .int .i64 0, .int .i64 0, .int .i64 0, .slice none 0 0] 34) (Obj.cells #[.int .i64 id, .string win, .string tok, .int .i64 0, .int .i64 0, .int .i64 0, .slice none 0 0] 34))
  go_enter Tryz.func7, Tryz.ntmps7
  go_wp2_with fail
  refine (toMr nb vw vh a cap n l HN (unhide HLN) _ ((unhide HR).below (unhide HB0))).mono ?_
  rintro e w2 ⟨g2, rfl, ho2, hb2⟩
  simp only [World.size_alloc] at ho2
  obtain ⟨hc2, hf2⟩ := bcell hb2
  have x0 : ∀ o, w2.cell? ⟨w.heap.size + 1, o, none⟩ = (#[.int .i64 0, .string ⟨#[]⟩, .string ⟨#[]⟩, .int .i64 0, .int .i64 0, .int .i64 0, .slice none 0 0] : Array Value)[o]? := fun o => by
    rw [hc2 _ _ (by simp), World.cell?_alloc_past _ _ _ (by simp), show (⟨w.heap.size + 1, o, none⟩ : Addr) = ⟨(w.alloc (Obj.cells #[.int .i64 id, .string win, .string tok, .int .i64 nb, .int .i64 vw, .int .i64 vh, .slice a n cap] 26)).heap.size, o, none⟩ from by simp]; exact World.cell?_alloc_mark _ _ _ _ o
  have x1 : ∀ o, w2.frozen? ⟨w.heap.size + 1, o, none⟩ = false := fun o => (hf2 _ _ (by simp)).trans (by simp [go_sem])
  have y0 : ∀ o, w2.cell? ⟨w.heap.size + 1 + 1, o, none⟩ = (#[.int .i64 id, .string win, .string tok, .int .i64 0, .int .i64 0, .int .i64 0, .slice none 0 0] : Array Value)[o]? := fun o => by
    rw [hc2 _ _ (by simp), show (⟨w.heap.size + 1 + 1, o, none⟩ : Addr) = ⟨((w.alloc (Obj.cells #[.int .i64 id, .string win, .string tok, .int .i64 nb, .int .i64 vw, .int .i64 vh, .slice a n cap] 26)).alloc (Obj.cells #[.int .i64 0, .string ⟨#[]⟩, .string ⟨#[]⟩, .int .i64 0, .int .i64 0, .int .i64 0, .slice none 0 0] 34)).heap.size, o, none⟩ from by simp]; exact World.cell?_alloc_mark _ _ _ _ o
  have y1 : ∀ o, w2.frozen? ⟨w.heap.size + 1 + 1, o, none⟩ = false := fun o => (hf2 _ _ (by simp)).trans (by simp [go_sem])
  have HO2 := hide ho2
  have HB2 := hide ((unhide HB0).trans (hb2.mono (unhide HB0).size))
  clear ho2 hb2 hc2 hf2
  go_wp2_with fail
  refine bodyPost_ret (v := .agg #[.int .i64 id, .string win, .string tok, .int .i64 nb, .int .i64 vw, .int .i64 vh, .slice (some ⟨g2, 0, none⟩) n n]) (by simp [results, Tryz.results7, go_sem, x0]) rfl ⟨g2, rfl, ?_, ?_⟩
  · have hl1 : w.heap.size + 1 < w.heap.size + 1 + 1 + 1 := by omega
    have hl2 : w.heap.size + 1 + 1 < w.heap.size + 1 + 1 + 1 := by omega
    refine Go.Joins.ownsRow_le (base := w.heap.size + 1 + 1 + 1) ?_ (by omega)
    repeat refine ownsRow_setCell_below ?_ (by first | exact hl1 | exact hl2) _
    exact unhide HO2
  · have hl1 : w.heap.size ≤ w.heap.size + 1 := by omega
    have hl2 : w.heap.size ≤ w.heap.size + 1 + 1 := by omega
    repeat refine Below.setCell ?_ (by first | exact hl1 | exact hl2) _
    exact unhide HB2
end Go.Proofs.YtmmnoepcklfonaaGreatDoor

/- Rows of texts: marked by the laws' own helper. -/
namespace Go.Proofs.YtmmnoepcklfonaaGreatDoor
open Go.ChangeShapes Go.WideShapes Go.ChangeAt Go.RowKit
def onesString (n : Nat) : List Value := (List.range n).map fun j => .string (mtS (1 + j))
theorem below_asGrown {w w' : World} {row : Option Nat} (h : Below w.heap.size w w') : w.grownBy w' row := ⟨h.os, h.tape, h.output, h.size, fun k hk _ => h.block k hk⟩
set_option maxHeartbeats 400000 in
set_option maxRecDepth 100000 in
theorem markString (v : Value) (n lo hi k0 : Nat) (xs : List Value) (hn : n ≤ 2000000) (h1 : 0 < k0) (hk0 : k0 ≤ 2000000) (w : World) (h : Held w lo hi 9 v n xs) :
    Calls Tryz.prog 59 #[v, .int .i64 (k0 : Int)] w fun e w' => e = .returned (.int .i64 ((k0 + n : Nat) : Int)) ∧ Held w' lo hi 9 v n ((List.range n).map fun j => .string (mtS (k0 + j))) ∧ w.grownBy w' v.ownBlock := by
  have HX := hide (show xs.length = n from by have := h.1.1; omega)
  rcases h.1.2 with ⟨rfl, rfl⟩ | ⟨g, cap, cur, rfl, _⟩
  · go_enter Tryz.func59, Tryz.ntmps59
    go_wp2_with fail
    go_loopw [1, 5] (fun kk i wr => kk = .int .i64 (k0 : Int) ∧ i = .int .i64 0 ∧ wr = w) (fun _ _ _ => 0)
    case atStart => exact ⟨rfl, rfl, rfl⟩
    case round =>
      obtain ⟨rfl, rfl, rfl⟩ := hrel
      have h' : Held wr lo hi 9 (.slice none 0 0) 0 ((List.range 0).map fun j => .string (mtS (k0 + j))) := by
        have := List.length_eq_zero_iff.1 (unhide HX); subst this; exact h
      go_wp2_with fail
      go_ret
      exact ⟨ret_int (by simp), h', grownBy_refl _ _⟩
  · have HH := hide h
    clear h
    go_enter Tryz.func59, Tryz.ntmps59
    go_wp2_with fail
    go_loopw [1, 5] (fun kk i wr => ∃ j q : Nat, j ≤ n ∧ Hid (q = k0 + j) ∧ i = .int .i64 j ∧ kk = .int .i64 (q : Int) ∧ Hid (Held wr lo hi 9 (.slice (some ⟨g, 0, none⟩) n cap) n (markV xs (fun j => .string (mtS (k0 + j))) j)) ∧ Hid (w.grownBy wr (some g))) (fun _ i _ => n - (intOf i).toNat)
    case atStart => exact ⟨0, k0, by omega, rfl, rfl, rfl, by rw [markV_zero]; exact HH, grownBy_refl _ _⟩
    case round =>
      clear HH
      obtain ⟨j, q, hj, HQ, rfl, rfl, HH, HG⟩ := hrel
      have hq := unhide HQ
      have hq2 : q ≤ 4000000 := by omega
      by_cases hlt : j < n
      · have hlt' : (j : Int) < (n : Int) := by omega
        have hq1 : 0 < q := by omega
        clear hq
        go_wp2_with fail
        refine (markText27 q hq1 hq2 _).mono ?_
        rintro e w2 ⟨rfl, hb2⟩
        obtain ⟨u0, hu0⟩ := cell_of (xs := xs) (j := j) (by rw [unhide HX]; exact hlt)
        have H2 := (unhide HH).below hb2 (unhide HH).le
        have hown := H2.1
        have hc2 : w2.cell? ⟨g, j, none⟩ = some u0 := by rw [hown.cellAt j (by omega), markV_at, hu0]
        have hf2 := hown.frozenAt j
        have hz2 : ¬ w2.heap.size = g := by have := (H2.blk g rfl).2; have := H2.le; omega
        have R := (hown.stored j (.string (mtS q))).1
        have hqe : mtS q = mtS (k0 + j) := by rw [unhide HQ]
        have hst := markV_set xs (fun j => Value.string (mtS (k0 + j))) j (by rw [unhide HX]; exact hlt)
        rw [hqe] at R
        rw [hst] at R
        rw [← hqe] at R
        have RH : Hid (Held (w2.setCell ⟨g, j, none⟩ (.string (mtS q))) lo hi 9 (.slice (some ⟨g, 0, none⟩) n cap) n (markV xs (fun j => .string (mtS (k0 + j))) (j + 1))) := ⟨R, H2.2.1, by have := H2.2.2; simpa using this⟩
        have RG := hide (World.grownBy.trans' (World.grownBy.trans' (unhide HG) (below_asGrown hb2)) (stored_grown (g := g) (j := j) (u := .string (mtS q))))
        clear hown R HH HG hu0 H2 hst hqe hb2
        go_wp2_with fail
        go_roundw
        case rel => exact ⟨j + 1, q + 1, by omega, by show q + 1 = k0 + (j + 1); have := unhide HQ; omega, by go_num, by go_num, RH, RG⟩
        case measure => simp [intOf]; omega
      · have ej : j = n := by omega
        rw [ej, markV_all xs _ n (unhide HX).symm] at HH
        have eq2 : (q : Int) = ((k0 + n : Nat) : Int) := by omega
        clear hq
        go_wp2_with fail
        go_ret
        exact ⟨ret_int eq2, unhide HH, unhide HG⟩
end Go.Proofs.YtmmnoepcklfonaaGreatDoor
