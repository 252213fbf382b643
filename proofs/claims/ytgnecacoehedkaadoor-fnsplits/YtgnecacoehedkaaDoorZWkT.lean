/- l05Walk: what the specification answers at every row of parts. -/
import Derived.Test.YtgnecacoehedkaaDoorZG19
namespace Go.Proofs.YtgnecacoehedkaaDoor
open Go.ChangeShapes Go.WideShapes Go.ChangeAt Go.RowKit
set_option maxHeartbeats 2000000 in
set_option maxRecDepth 100000 in
theorem swalk (a : Option Addr) (cap : Nat) (l : List Pt) (L : Nat) (HLL : Hid (l.length = L)) (hl : L ≤ 11) : ∀ (f k : Nat) (W H : Int) (R : Option Nat) (w : World), R = wk f l k W H → RowV w a (cPt l) → L < f + k → k ≤ 100 → -1000 ≤ W → W ≤ 1000 → -1000 ≤ H → H ≤ 1000 →
  Calls Tryd.prog 34 #[.agg #[.slice a L cap], .int .i64 (k : Int), .int .i64 W, .int .i64 H] w fun e w' => wkT e R ∧ Below w.heap.size w w' := by
 intro f
 induction f with
 | zero =>
  intro k W H R w hR hr hf hk hW1 hW2 hH1 hH2
  have hRn : R = none := by rw [hR]; exact wk_none rfl
  clear hR
  subst hRn
  have hlt' : (L : Int) ≤ (k : Int) := by omega
  go_enter Tryd.func34, Tryd.ntmps34
  go_wp2_with fail
  go_ret2
  exact ⟨⟨_, rfl⟩, Go.Joins.below_alloc1 w _⟩
 | succ f ih =>
  intro k W H R w hR hr hf hk hW1 hW2 hH1 hH2
  have HI := hide ih
  have HR := hide hr
  have HRR := hide hR
  have HB0 := hide (Go.Joins.below_alloc1 w (.cells #[.slice a L cap] 26))
  clear ih hr hR
  by_cases hlt : k < L
  ·by_cases h2 : 2 ≤ W ∧ 2 ≤ H
   ·obtain ⟨h2a, h2b⟩ := h2
    have hkl : k < l.length := by rw [unhide HLL]; exact hlt
    obtain ⟨b, off, ha, hblt, hc⟩ := (unhide HR).at (by rw [cPt_len, unhide HLL]; omega)
    subst ha
    obtain ⟨x0, x1, x2, x3, x4⟩ := rowPt hc k hkl
    have hpk := List.getElem?_eq_getElem hkl
    obtain ⟨p, ep⟩ : ∃ p, p = l[k] := ⟨_, rfl⟩
    rw [← ep] at x0 x1 x2 x3 x4 hpk
    have HPK := hide hpk
    have hlt' : (k : Int) < (L : Int) := by omega
    have hk0 : (0 : Int) ≤ (k : Int) := by omega
    have hk1 : (k : Int) ≤ 11 := by omega
    have g : ∀ (o : Obj) (j : Nat), (w.alloc o).cell? ⟨b, j, none⟩ = w.cell? ⟨b, j, none⟩ := fun o j => World.cell?_alloc_lt w o ⟨b, j, none⟩ hblt
    have y0 : ∀ o, (w.alloc o).cell? ⟨b, off + k * 5, none⟩ = some (.int .i64 p.pane) := fun o => (g o _).trans x0
    have y1 : ∀ o, (w.alloc o).cell? ⟨b, off + k * 5 + 1, none⟩ = some (.bool p.rows) := fun o => (g o _).trans x1
    have y2 : ∀ o, (w.alloc o).cell? ⟨b, off + k * 5 + 2, none⟩ = some (.int .i64 p.size) := fun o => (g o _).trans x2
    have y3 : ∀ o, (w.alloc o).cell? ⟨b, off + k * 5 + 3, none⟩ = some (.int .i64 p.left) := fun o => (g o _).trans x3
    have y4 : ∀ o, (w.alloc o).cell? ⟨b, off + k * 5 + 4, none⟩ = some (.int .i64 p.right) := fun o => (g o _).trans x4
    clear hc ep hkl hpk g x0 x1 x2 x3 x4
    by_cases hl1 : p.left = -1
    ·have hRe := unhide HRR
     unfold wk at hRe
     rw [prs_leaf (unhide HPK) hl1] at hRe
     have HRE := hide hRe
     rw [hl1] at y3
     clear HRR hRe hl1
     by_cases hq : p.right = -1 ∧ p.rows = false ∧ p.size = 0
     ·obtain ⟨q1, q2, q3⟩ := hq
      rw [q1] at y4
      rw [q2] at y1
      rw [q3] at y2
      cases hpn : inB p.pane 1 1000 with
      | false =>
       have hRn : R = none := by rw [unhide HRE, if_neg (fun e => by have e4 := e.2.2.2; rw [show pnB p.pane = false from hpn] at e4; cases e4)]
       clear HRE q1 q2 q3
       subst hRn
       go_enter Tryd.func34, Tryd.ntmps34
       go_wp2_with fail
       refine (sin p.pane 1 1000 _).mono ?_
       rintro e w1 ⟨rfl, rfl⟩
       rw [hpn]
       go_wp2_with fail
       go_ret2
       exact ⟨⟨_, rfl⟩, Go.Joins.below_alloc2 w _ _⟩
      | true =>
       have hRs : R = some (k + 1) := by
        rw [unhide HRE, if_pos ⟨q1, q2, q3, hpn⟩]
        simp only
        rw [if_pos (show (Tr.pane p.pane).fits W H = true from decide_eq_true ⟨h2a, h2b⟩)]
        rfl
       have HRS := hide hRs
       clear HRE q1 q2 q3 hRs
       go_enter Tryd.func34, Tryd.ntmps34
       go_wp2_with fail
       refine (sin p.pane 1 1000 _).mono ?_
       rintro e w1 ⟨rfl, rfl⟩
       rw [hpn]
       go_wp2_with fail
       go_ret2
       refine ⟨?_, Go.Joins.below_alloc2 w _ _⟩
       rw [unhide HRS]
       rfl
     ·have hRn : R = none := by rw [unhide HRE, if_neg (fun e => hq ⟨e.1, e.2.1, e.2.2.1⟩)]
      clear HRE
      subst hRn
      have hq3 : (¬ p.right = -1) ∨ (p.right = -1 ∧ p.rows = true) ∨ (p.right = -1 ∧ p.rows = false ∧ ¬ p.size = 0) := by
       by_cases q1 : p.right = -1
       ·cases q2 : p.rows
        ·right; right; exact ⟨q1, rfl, fun q3 => hq ⟨q1, q2, q3⟩⟩
        ·right; left; exact ⟨q1, rfl⟩
       ·left; exact q1
      clear hq
      rcases hq3 with q1 | ⟨q1, q2⟩ | ⟨q1, q2, q3⟩
      ·go_enter Tryd.func34, Tryd.ntmps34
       go_wp2_with fail
       go_ret2
       exact ⟨⟨_, rfl⟩, Go.Joins.below_alloc2 w _ _⟩
      ·rw [q1] at y4
       rw [q2] at y1
       clear q1 q2
       go_enter Tryd.func34, Tryd.ntmps34
       go_wp2_with fail
       go_ret2
       exact ⟨⟨_, rfl⟩, Go.Joins.below_alloc2 w _ _⟩
      ·rw [q1] at y4
       rw [q2] at y1
       clear q1 q2
       go_enter Tryd.func34, Tryd.ntmps34
       go_wp2_with fail
       go_ret2
       exact ⟨⟨_, rfl⟩, Go.Joins.below_alloc2 w _ _⟩
    ·obtain ⟨k1, hk1'⟩ : ∃ k1, k1 = k + 1 := ⟨_, rfl⟩
     have HK1 := hide hk1'
     have a1 : (k : Int) + 1 = (k1 : Int) := by omega
     by_cases hgood : p.pane = 0 ∧ p.left = (k1 : Int)
     ·obtain ⟨g0, g1⟩ := hgood
      rw [g0] at y0
      rw [g1] at y3
      have hk1n : ¬ (k1 : Int) = -1 := by omega
      obtain ⟨Wl, Hl, Wr, Hr, hpt, hpv, hbd⟩ : ∃ Wl Hl Wr Hr : Int, ((p.rows = true ∧ Wl = W ∧ Hl = szC p.size ∧ Wr = W ∧ Hr = H - szC p.size) ∨ (p.rows = false ∧ Wl = szC p.size ∧ Hl = H ∧ Wr = W - szC p.size ∧ Hr = H)) ∧
        (if p.rows then Value.tuple #[.int .i64 W, .int .i64 (szC p.size), .int .i64 W, .int .i64 (H - szC p.size)] else Value.tuple #[.int .i64 (szC p.size), .int .i64 H, .int .i64 (W - szC p.size), .int .i64 H]) = Value.tuple #[.int .i64 Wl, .int .i64 Hl, .int .i64 Wr, .int .i64 Hr] ∧
        (-1000 ≤ Wl ∧ Wl ≤ 1000 ∧ -1000 ≤ Hl ∧ Hl ≤ 1000 ∧ -1000 ≤ Wr ∧ Wr ≤ 1000 ∧ -1000 ≤ Hr ∧ Hr ≤ 1000) := by
       have := szC_bd p.size
       cases hrw : p.rows
       ·exact ⟨_, _, _, _, .inr ⟨rfl, rfl, rfl, rfl, rfl⟩, rfl, by omega⟩
       ·exact ⟨_, _, _, _, .inl ⟨rfl, rfl, rfl, rfl, rfl⟩, rfl, by omega⟩
      have hRe := unhide HRR
      rw [wk_split (unhide HPK) g0 (by rw [g1, hk1']) hW2 hH2 hpt, ← hk1'] at hRe
      have HRE := hide hRe
      have HPV := hide hpv
      have HBD := hide hbd
      have TP := hide (sparts p W H (by omega) (by omega))
      rw [g0, g1, hpv] at TP
      clear HRR hRe hpv hbd hpt hk1' hl1 g0 g1
      go_enter Tryd.func34, Tryd.ntmps34
      go_wp2_with fail
      refine (unhide TP _).mono ?_
      rintro e w1 ⟨rfl, hb1⟩
      have HB1 := hide ((Go.Joins.below_alloc2 w (.cells #[.slice (some ⟨b, off, none⟩) L cap] 26) (.cells #[.int .i64 0, .bool p.rows, .int .i64 p.size, .int .i64 (k1 : Int), .int .i64 p.right] 53)).trans (hb1.mono (by simp; omega)))
      have A1 := hide (((BF.new w #[.slice (some ⟨b, off, none⟩) L cap] 26).alloc (.cells #[.int .i64 0, .bool p.rows, .int .i64 p.size, .int .i64 (k1 : Int), .int .i64 p.right] 53)).below hb1)
      have P1 := hide ((BF.new (w.alloc (.cells #[.slice (some ⟨b, off, none⟩) L cap] 26)) #[.int .i64 0, .bool p.rows, .int .i64 p.size, .int .i64 (k1 : Int), .int .i64 p.right] 53).below hb1)
      rw [show (w.alloc (.cells #[.slice (some ⟨b, off, none⟩) L cap] 26)).heap.size = w.heap.size + 1 from by simp] at P1
      clear hb1 y0 y1 y2 y3 y4
      have c1 := (unhide A1).S
      have d1 := (unhide P1).S
      obtain ⟨B1, B2, B3, B4, B5, B6, B7, B8⟩ := unhide HBD
      obtain ⟨R1, hR1⟩ : ∃ R1, R1 = wk f l k1 Wl Hl := ⟨_, rfl⟩
      have HR1 := hide hR1
      have T1 := hide (unhide HI k1 Wl Hl R1 w1 hR1 ((unhide HR).below (unhide HB1)) (by have := unhide HK1; omega) (by have := unhide HK1; omega) B1 B2 B3 B4)
      clear hR1
      go_wp2_with fail
      refine (unhide T1).mono ?_
      clear T1
      rintro e w2 ⟨h2', hb2⟩
      have HB2 := hide ((unhide HB1).trans (hb2.mono (unhide HB1).size))
      have A2 := hide ((unhide A1).below hb2)
      have P2 := hide ((unhide P1).below hb2)
      clear hb2 c1 d1
      have c1 := (unhide A2).S
      have d1 := (unhide P2).S
      have hRe := unhide HRE
      rw [← unhide HR1] at hRe
      cases R1 with
      | none =>
       obtain ⟨x, rfl⟩ := h2'
       have hRn : R = none := hRe
       clear HRE hRe
       subst hRn
       go_wp2_with fail
       go_ret2
       exact ⟨⟨_, rfl⟩, unhide HB2⟩
      | some n =>
       have h3' : e = .returned (.tuple #[.int .i64 (n : Int), .bool true]) := h2'
       subst h3'
       simp only at hRe
       by_cases hrn : p.right = (n : Int)
       ·rw [if_pos hrn] at hRe
        have hn100 : n ≤ 11 := by
         have := unhide HR1
         unfold wk at this
         cases hpp : prs f l k1 with
         | none => rw [hpp] at this; cases this
         | some t' =>
          rw [hpp] at this
          simp only at this
          split at this
          ·cases this; have := (prs_spec _ _ _ _ hpp).1; rw [unhide HLL] at this; omega
          ·cases this
        have hkn : k1 < n := by
         have := unhide HR1
         unfold wk at this
         cases hpp : prs f l k1 with
         | none => rw [hpp] at this; cases this
         | some t' =>
          rw [hpp] at this
          simp only at this
          split at this
          ·cases this; have := t'.cnt_pos; omega
          ·cases this
        have T2 := hide (unhide HI n Wr Hr R w2 hRe ((unhide HR).below (unhide HB2)) (by have := unhide HK1; omega) (by omega) B5 B6 B7 B8)
        rw [hrn] at d1
        clear HRE hRe hrn h2' hn100 hkn
        go_wp2_with fail
        refine (unhide T2).mono ?_
        clear T2
        rintro e w3 ⟨h3', hb3⟩
        have HB3 := hide ((unhide HB2).trans (hb3.mono (unhide HB2).size))
        clear hb3
        cases R with
        | none =>
         obtain ⟨x, rfl⟩ := h3'
         go_wp2_with fail
         go_ret2
         exact ⟨⟨_, rfl⟩, unhide HB3⟩
        | some m =>
         have h4' : e = .returned (.tuple #[.int .i64 (m : Int), .bool true]) := h3'
         subst h4'
         clear h3'
         go_wp2_with fail
         go_ret2
         exact ⟨rfl, unhide HB3⟩
       ·have hRn : R = none := by rw [hRe, if_neg hrn]
        clear HRE hRe h2'
        subst hRn
        go_wp2_with fail
        go_ret2
        exact ⟨⟨_, rfl⟩, unhide HB2⟩
     ·have hRn : R = none := by rw [unhide HRR]; exact wk_none (prs_bad (unhide HPK) hl1 (by rw [← hk1']; exact hgood))
      clear HRR
      subst hRn
      by_cases g0 : p.pane = 0
      ·have g1 : ¬ p.left = (k1 : Int) := fun h => hgood ⟨g0, h⟩
       rw [g0] at y0
       clear hgood g0 hk1'
       go_enter Tryd.func34, Tryd.ntmps34
       go_wp2_with fail
       go_ret2
       exact ⟨⟨_, rfl⟩, Go.Joins.below_alloc2 w _ _⟩
      ·clear hgood hk1'
       go_enter Tryd.func34, Tryd.ntmps34
       go_wp2_with fail
       go_ret2
       exact ⟨⟨_, rfl⟩, Go.Joins.below_alloc2 w _ _⟩
   ·have hRn : R = none := by rw [unhide HRR]; exact wk_small h2
    have hlt' : ¬ (L : Int) ≤ (k : Int) := by omega
    clear HRR
    subst hRn
    by_cases h2a : W < 2
    ·go_enter Tryd.func34, Tryd.ntmps34
     go_wp2_with fail
     go_ret2
     exact ⟨⟨_, rfl⟩, unhide HB0⟩
    ·have h2b : H < 2 := by omega
     go_enter Tryd.func34, Tryd.ntmps34
     go_wp2_with fail
     go_ret2
     exact ⟨⟨_, rfl⟩, unhide HB0⟩
  ·have hlt' : (L : Int) ≤ (k : Int) := by omega
   have hRn : R = none := by rw [unhide HRR]; exact wk_none (prs_end (by rw [unhide HLL]; omega))
   clear HRR
   subst hRn
   go_enter Tryd.func34, Tryd.ntmps34
   go_wp2_with fail
   go_ret2
   exact ⟨⟨_, rfl⟩, unhide HB0⟩
end Go.Proofs.YtgnecacoehedkaaDoor
