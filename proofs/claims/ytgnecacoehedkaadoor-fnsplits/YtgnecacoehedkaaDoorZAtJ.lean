/- treeAt: the tree that is read off a row of parts. -/
import Derived.Test.YtgnecacoehedkaaDoorZAtI
namespace Go.Proofs.YtgnecacoehedkaaDoor
open Go.ChangeShapes Go.WideShapes Go.ChangeAt Go.RowKit
theorem prs_end {f : Nat} {l : List Pt} {k : Nat} (h : l.length ≤ k) : prs (f + 1) l k = none := by rw [prs, List.getElem?_eq_none h]
theorem prs_pane {f : Nat} {l : List Pt} {k : Nat} {p : Pt} (h : l[k]? = some p) (h0 : ¬ p.pane = 0) : prs (f + 1) l k = if pnQ p = true ∧ pnB p.pane = true then some (.pane p.pane) else none := by rw [prs, h]; simp only; rw [if_pos h0]
theorem prs_no1 {f : Nat} {l : List Pt} {k : Nat} {p : Pt} (h : l[k]? = some p) (h0 : p.pane = 0) (h1 : prs f l (k + 1) = none) : prs (f + 1) l k = none := by rw [prs, h]; simp only; rw [if_neg (fun e => e h0), h1]
theorem prs_no2 {f : Nat} {l : List Pt} {k : Nat} {p : Pt} {a : Tr} (h : l[k]? = some p) (h0 : p.pane = 0) (h1 : prs f l (k + 1) = some a) (h2 : prs f l (k + 1 + a.cnt) = none) : prs (f + 1) l k = none := by rw [prs, h]; simp only; rw [if_neg (fun e => e h0), h1]; simp only; rw [h2]
theorem prs_both {f : Nat} {l : List Pt} {k : Nat} {p : Pt} {a b : Tr} (h : l[k]? = some p) (h0 : p.pane = 0) (h1 : prs f l (k + 1) = some a) (h2 : prs f l (k + 1 + a.cnt) = some b) : prs (f + 1) l k = if p.left = ((k + 1 : Nat) : Int) ∧ p.right = ((k + 1 + a.cnt : Nat) : Int) then some (.split p.rows p.size a b) else none := by rw [prs, h]; simp only; rw [if_neg (fun e => e h0), h1]; simp only; rw [h2]
set_option maxHeartbeats 1000000 in
set_option maxRecDepth 100000 in
theorem itreeat (a : Option Addr) (cap : Nat) (l : List Pt) (L : Nat) (HLL : Hid (l.length = L)) (hl : L ≤ 11) : ∀ (f k : Nat) (R : Option Tr) (w : World), R = prs f l k → RowV w a (cPt l) → k ≤ L → L < f + k →
  Calls Tryd.prog 37 #[.slice a L cap, .int .i64 (k : Int)] w fun e w' => atT w w' e k R ∧ Below w.heap.size w w' := by
 intro f
 induction f with
 | zero =>
  intro k R w hR hr hk hf
  omega
 | succ f ih =>
  intro k R w hR hr hk hf
  have HI := hide ih
  have HR := hide hr
  have HRR := hide hR
  clear ih hr hR
  by_cases hlt : k < L
  ·have hkl : k < l.length := by rw [unhide HLL]; exact hlt
   obtain ⟨b, off, ha, hblt, hc⟩ := (unhide HR).at (by rw [cPt_len, unhide HLL]; omega)
   subst ha
   obtain ⟨x0, x1, x2, x3, x4⟩ := rowPt hc k hkl
   have hpk := List.getElem?_eq_getElem hkl
   obtain ⟨p, ep⟩ : ∃ p, p = l[k] := ⟨_, rfl⟩
   rw [← ep] at x0 x1 x2 x3 x4 hpk
   have HPK := hide hpk
   have hlt' : (k : Int) < (L : Int) := by omega
   have hk0 : (0 : Int) ≤ (k : Int) := by omega
   have hk1 : (k : Int) ≤ 11 := by omega
   clear hc ep hkl hpk
   by_cases h0 : p.pane = 0
   ·have HP0 := hide h0
    rw [h0] at x0
    clear h0
    obtain ⟨k1, hk1'⟩ : ∃ k1, k1 = k + 1 := ⟨_, rfl⟩
    have HK1 := hide hk1'
    have a1 : (k : Int) + 1 = (k1 : Int) := by omega
    have BX := hide (BF.new w #[.int .i64 0, .bool p.rows, .int .i64 p.size, .int .i64 p.left, .int .i64 p.right] 53)
    have HB0 := hide (Go.Joins.below_alloc1 w (Obj.cells #[.int .i64 0, .bool p.rows, .int .i64 p.size, .int .i64 p.left, .int .i64 p.right] 53))
    obtain ⟨R1, hR1⟩ : ∃ R1, R1 = prs f l k1 := ⟨_, rfl⟩
    have T1 := hide (unhide HI k1 R1 _ hR1 ((unhide HR).below (unhide HB0)) (by omega) (by omega))
    have HR1 := hide hR1
    clear hk1' hR1
    go_enter Tryd.func37, Tryd.ntmps37
    go_wp2_with fail
    refine (unhide T1).mono ?_
    clear T1
    rintro e w2 ⟨h2, hb2⟩
    have B2 := hide ((unhide BX).below hb2)
    have HB2 := hide ((unhide HB0).trans (hb2.mono (unhide HB0).size))
    clear hb2 x0 x1 x2 x3 x4
    cases R1 with
    | none =>
     obtain ⟨x, rfl⟩ := h2
     have hRn : R = none := by rw [unhide HRR]; exact prs_no1 (unhide HPK) (unhide HP0) (by have := unhide HR1; rw [unhide HK1] at this; exact this.symm)
     clear HRR
     subst hRn
     go_wp2_with fail
     go_ret2
     exact ⟨⟨_, rfl⟩, unhide HB2⟩
    | some tl =>
     obtain ⟨bl, Ls, rfl, hT2⟩ := h2
     obtain ⟨q1, q2, q3⟩ := prs_spec _ _ _ _ (unhide HR1).symm
     obtain ⟨m, hm⟩ : ∃ m, m = k1 + tl.cnt := ⟨_, rfl⟩
     rw [← hm, unhide HLL] at q1
     rw [← hm]
     have HT2 := hide hT2
     have HM := hide hm
     obtain ⟨R2, hR2⟩ : ∃ R2, R2 = prs f l m := ⟨_, rfl⟩
     have T3 := hide (unhide HI m R2 _ hR2 ((unhide HR).below (unhide HB2)) q1 (by have := unhide HK1; have := tl.cnt_pos; omega))
     have HR2 := hide hR2
     have hm0 : (m : Int) ≤ 11 := by omega
     clear q1 q2 q3 hm hT2 hR2
     go_wp2_with fail
     refine (unhide T3).mono ?_
     clear T3
     rintro e w3 ⟨h3, hb3⟩
     have B3 := hide ((unhide B2).below hb3)
     have HB3 := hide ((unhide HB2).trans (hb3.mono (unhide HB2).size))
     have c3 := (unhide B3).S
     have e1 : prs f l (k + 1) = some tl := by have := unhide HR1; rw [unhide HK1] at this; exact this.symm
     have e2 : prs f l (k + 1 + tl.cnt) = R2 := by have := unhide HR2; rw [unhide HM, unhide HK1] at this; exact this.symm
     cases R2 with
     | none =>
      obtain ⟨x, rfl⟩ := h3
      have hRn : R = none := by rw [unhide HRR]; exact prs_no2 (unhide HPK) (unhide HP0) e1 e2
      clear HRR e1 e2 hb3
      subst hRn
      go_wp2_with fail
      go_ret2
      exact ⟨⟨_, rfl⟩, unhide HB3⟩
     | some tr =>
      obtain ⟨br, Rs, rfl, hT3⟩ := h3
      have hz2 : w.heap.size ≤ (w.alloc (Obj.cells #[.int .i64 0, .bool p.rows, .int .i64 p.size, .int .i64 p.left, .int .i64 p.right] 53)).heap.size := by simp
      have hTN : ∀ r s, TreeNew iBx w (w3.alloc (.cells (iBx.node r s bl br) 58)) (.split r s tl tr) w3.heap.size (w3.heap.size :: (Ls ++ Rs)) := fun r s => TreeNew.node (t := 58) (r := r) (s := s) hz2 (unhide HT2) hT3 hb3
      have HTN := hide hTN
      have eR := prs_both (unhide HPK) (unhide HP0) e1 e2
      rw [← unhide HRR, ← unhide HK1, ← unhide HM] at eR
      obtain ⟨n3, hn3⟩ : ∃ n3, n3 = m + tr.cnt := ⟨_, rfl⟩
      rw [← hn3]
      have HN3 := hide hn3
      clear HRR e1 e2 hT3 hz2 hb3 hTN hn3
      by_cases hL1 : p.left = (k1 : Int)
      ·by_cases hL2 : p.right = (m : Int)
       ·rw [if_pos ⟨hL1, hL2⟩] at eR
        subst eR
        rw [hL1, hL2] at c3 B3
        clear hL1 hL2
        go_wp2_with fail
        go_ret2
        have hcn : k + (Tr.split p.rows p.size tl tr).cnt = n3 := by have := unhide HN3; have := unhide HM; have := unhide HK1; simp only [Tr.cnt]; omega
        exact ⟨⟨_, _, by rw [hcn]; rfl, unhide HTN _ _⟩, (unhide HB3).alloc (unhide HB3).size _⟩
       ·rw [if_neg (fun h => hL2 h.2)] at eR
        subst eR
        rw [hL1] at c3 B3
        clear hL1
        go_wp2_with fail
        go_ret2
        exact ⟨⟨_, rfl⟩, unhide HB3⟩
      ·rw [if_neg (fun h => hL1 h.1)] at eR
       subst eR
       go_wp2_with fail
       go_ret2
       exact ⟨⟨_, rfl⟩, unhide HB3⟩
   ·have hRp := unhide HRR
    rw [prs_pane (unhide HPK) h0] at hRp
    have T := ipanetree p
    rw [← hRp] at T
    have HT := hide T
    have HRP := hide hRp
    clear T hRp
    go_enter Tryd.func37, Tryd.ntmps37
    go_wp2_with fail
    refine (unhide HT _).mono ?_
    rintro e w2 ⟨h2, hb2⟩
    have HB2 := hide ((Go.Joins.below_alloc1 w (Obj.cells #[.int .i64 p.pane, .bool p.rows, .int .i64 p.size, .int .i64 p.left, .int .i64 p.right] 53)).trans (hb2.mono (by simp)))
    clear hb2 x0 x1 x2 x3 x4
    cases R with
    | none =>
     have h2' : e = .returned (.pointer none) := h2
     subst h2'
     clear h2
     go_wp2_with fail
     go_ret2
     exact ⟨⟨_, rfl⟩, unhide HB2⟩
    | some t =>
     obtain ⟨b2, bs2, rfl, ht⟩ := h2
     have hc1 : t.cnt = 1 := by
      have := unhide HRP
      split at this
      ·cases this; rfl
      ·cases this
     have HC1 := hide hc1
     have HT2 := hide (ht.le (w0 := w) (by simp))
     clear ht hc1
     go_wp2_with fail
     go_ret2
     exact ⟨⟨b2, bs2, by rw [unhide HC1]; rfl, unhide HT2⟩, unhide HB2⟩
  ·have hlt' : (L : Int) ≤ (k : Int) := by omega
   have hRn : R = none := by rw [unhide HRR]; exact prs_end (by rw [unhide HLL]; omega)
   clear HRR
   subst hRn
   go_enter Tryd.func37, Tryd.ntmps37
   go_wp2_with fail
   go_ret2
   exact ⟨⟨_, rfl⟩, Below.refl _ _⟩
end Go.Proofs.YtgnecacoehedkaaDoor
