/- treeOf: the tree of a layout that is right. -/
import Derived.Test.YtgnecacoehedkaaDoorZDifI
import Derived.Test.YtgnecacoehedkaaDoorZSzI
namespace Go.Proofs.YtgnecacoehedkaaDoor
open Go.ChangeShapes Go.WideShapes Go.ChangeAt Go.RowKit
def tofS (l : List Pt) (w h : Int) : Option Tr := if sizeB w h = true then tof l w h else none
theorem tofS_size {l : List Pt} {w h : Int} (e : sizeB w h = false) : tofS l w h = none := by unfold tofS; rw [e]; rfl
theorem tofS_long {l : List Pt} {w h : Int} (e : ¬ l.length ≤ 11) : tofS l w h = none := by unfold tofS tof; rw [if_neg e]; split <;> rfl
theorem tofS_none {l : List Pt} {w h : Int} (e : prs 12 l 0 = none) : tofS l w h = none := by unfold tofS tof; rw [e]; split <;> (try split) <;> rfl
theorem tofS_some {l : List Pt} {w h : Int} {t : Tr} (hs : sizeB w h = true) (hl : l.length ≤ 11) (e : prs 12 l 0 = some t) : tofS l w h = if t.cnt = l.length ∧ t.panes.Nodup ∧ t.fits w h = true then some t else none := by
 unfold tofS tof; rw [if_pos hs, if_pos hl, e]
theorem own_cap3 {w : World} {base : Nat} {e : TypeId} {z : Nat} {a : Option Addr} {n cap : Nat} {xs : List Value} (h : w.ownsRow base e z (.slice a n cap) n xs) : n ≤ cap := by
 rcases h.2 with ⟨e, e2⟩ | ⟨g, c, cur, e, _, _, h3⟩
 ·cases e; omega
 ·cases e; exact h3.1
set_option maxHeartbeats 1000000 in
set_option maxRecDepth 100000 in
theorem itreeof (a : Option Addr) (cap L : Nat) (l : List Pt) (HLL : Hid (l.length = L)) (hl : L ≤ 1048576) (W H : Int) (R : Option Tr) (HRR : Hid (R = tofS l W H)) (w : World) (hr : RowV w a (cPt l)) :
  Calls Tryd.prog 17 #[.agg #[.slice a L cap], .int .i64 W, .int .i64 H] w fun e w' => ptT w w' e R ∧ Below w.heap.size w w' := by
 have HB0 := hide (Go.Joins.below_alloc1 w (.cells #[.slice a L cap] 26))
 have BA := hide (BF.new w #[.slice a L cap] 26)
 have HR := hide hr
 clear hr
 cases hs : sizeB W H with
 | false =>
  have hRn : R = none := by rw [unhide HRR]; exact tofS_size hs
  clear HRR
  subst hRn
  go_enter Tryd.func17, Tryd.ntmps17
  go_wp2_with (go_at_call 36; refine (isize W H _).mono ?_; rintro e w1 ⟨rfl, rfl⟩; rw [hs])
  go_ret
  exact ⟨rfl, unhide HB0⟩
 | true =>
  by_cases hL : L ≤ 11
  ·obtain ⟨R1, hR1⟩ : ∃ R1, R1 = prs 12 l 0 := ⟨_, rfl⟩
   have T := hide (itreeat a cap l L HLL hL 12 0 R1 _ hR1 ((unhide HR).below (unhide HB0)) (by omega) (by omega))
   have HR1 := hide hR1
   have hL' : ¬ (11 : Int) < (L : Int) := by omega
   clear hR1
   go_enter Tryd.func17, Tryd.ntmps17
   go_wp2_with (go_at_call 36; refine (isize W H _).mono ?_; rintro e w1 ⟨rfl, rfl⟩; rw [hs])
   refine (unhide T).mono ?_
   clear T
   rintro e w2 ⟨h2, hb2⟩
   have HB2 := hide ((unhide HB0).trans (hb2.mono (unhide HB0).size))
   have A2 := hide ((unhide BA).below hb2)
   clear hb2
   cases R1 with
   | none =>
    obtain ⟨x, rfl⟩ := h2
    have hRn : R = none := by rw [unhide HRR]; exact tofS_none (unhide HR1).symm
    clear HRR
    subst hRn
    go_wp2_with fail
    go_ret
    exact ⟨rfl, unhide HB2⟩
   | some t =>
    obtain ⟨b, bs, rfl, hT⟩ := h2
    have eR := unhide HRR
    rw [tofS_some hs (by rw [unhide HLL]; exact hL) (unhide HR1).symm, unhide HLL] at eR
    have hcn : t.cnt ≤ 11 := by have := (prs_spec _ _ _ _ (unhide HR1).symm).1; rw [unhide HLL] at this; omega
    have HT := hide (hT.le (w0 := w) (by simp))
    have a2 := (unhide A2).S
    obtain ⟨N, hN⟩ : ∃ N, N = 0 + t.cnt := ⟨_, rfl⟩
    rw [← hN]
    by_cases hc : N = L
    ·obtain ⟨P, hP⟩ : ∃ P, P = t.panes.length := ⟨_, rfl⟩
     have hP11 : P ≤ 1000 := by have := panes_len t; omega
     have HP := hide hP
     have HCN := hide (show t.cnt = L from by omega)
     have T2 := hide (ipanes t b bs w2 (unhide HT).1 (by omega))
     rw [← unhide HP] at T2
     subst hc
     clear hN hT HRR hcn hP
     by_cases hnd : t.panes.Nodup
     ·cases hf : t.fits W H with
      | false =>
       have hRn : R = none := by rw [eR, if_neg (fun h => by rw [hf] at h; cases h.2.2)]
       clear eR
       subst hRn
       go_wp2_with fail
       refine (unhide T2).mono ?_
       rintro e w3 ⟨pa, pcap, rfl, ho3, hb3⟩
       have hpc := own_cap3 ho3
       have HPR := hide (rowZ_at ho3)
       have HB3 := hide ((unhide HB2).trans (hb3.mono (unhide HB2).size))
       have HT3 := hide ((unhide HT).below hb3)
       clear ho3 hb3
       go_wp2_with fail
       refine (idiffer pa pcap P t.panes true (decide_eq_true hnd).symm (unhide HP).symm hP11 hpc _ (unhide HPR)).mono ?_
       rintro e w4 ⟨rfl, rfl⟩
       obtain ⟨hW1, hW2, hH1, hH2⟩ : 2 ≤ W ∧ W ≤ 24 ∧ 2 ≤ H ∧ H ≤ 10 := of_decide_eq_true hs
       go_wp2_with fail
       refine (isizes t b bs 0 0 0 W H false _ hf.symm (unhide HT3).1 (by omega) (by omega) (by omega) (by omega) (by omega) (by omega)).mono ?_
       rintro e w5 ⟨rfl, hb5⟩
       have HB4 := hide ((unhide HB3).trans (hb5.mono (unhide HB3).size))
       have HT4 := hide ((unhide HT3).below hb5)
       clear hb5
       go_wp2_with fail
       go_ret
       exact ⟨rfl, unhide HB4⟩
      | true =>
       have hRs : R = some t := by rw [eR, if_pos ⟨unhide HCN, hnd, hf⟩]
       clear eR
       subst hRs
       go_wp2_with fail
       refine (unhide T2).mono ?_
       rintro e w3 ⟨pa, pcap, rfl, ho3, hb3⟩
       have hpc := own_cap3 ho3
       have HPR := hide (rowZ_at ho3)
       have HB3 := hide ((unhide HB2).trans (hb3.mono (unhide HB2).size))
       have HT3 := hide ((unhide HT).below hb3)
       clear ho3 hb3
       go_wp2_with fail
       refine (idiffer pa pcap P t.panes true (decide_eq_true hnd).symm (unhide HP).symm hP11 hpc _ (unhide HPR)).mono ?_
       rintro e w4 ⟨rfl, rfl⟩
       obtain ⟨hW1, hW2, hH1, hH2⟩ : 2 ≤ W ∧ W ≤ 24 ∧ 2 ≤ H ∧ H ≤ 10 := of_decide_eq_true hs
       go_wp2_with fail
       refine (isizes t b bs 0 0 0 W H true _ hf.symm (unhide HT3).1 (by omega) (by omega) (by omega) (by omega) (by omega) (by omega)).mono ?_
       rintro e w5 ⟨rfl, hb5⟩
       have HB4 := hide ((unhide HB3).trans (hb5.mono (unhide HB3).size))
       have HT4 := hide ((unhide HT3).below hb5)
       clear hb5
       go_wp2_with fail
       go_ret
       exact ⟨⟨b, bs, rfl, unhide HT4⟩, unhide HB4⟩
     ·have hRn : R = none := by rw [eR, if_neg (fun h => hnd h.2.1)]
      clear eR
      subst hRn
      go_wp2_with fail
      refine (unhide T2).mono ?_
      rintro e w3 ⟨pa, pcap, rfl, ho3, hb3⟩
      have hpc := own_cap3 ho3
      have HPR := hide (rowZ_at ho3)
      have HB3 := hide ((unhide HB2).trans (hb3.mono (unhide HB2).size))
      clear ho3 hb3
      go_wp2_with fail
      refine (idiffer pa pcap P t.panes false (decide_eq_false hnd).symm (unhide HP).symm hP11 hpc _ (unhide HPR)).mono ?_
      rintro e w4 ⟨rfl, rfl⟩
      go_wp2_with fail
      go_ret
      exact ⟨rfl, unhide HB3⟩
    ·have hRn : R = none := by rw [eR, if_neg (fun h => hc (by omega))]
     have hne : ¬ (N : Int) = (L : Int) := by omega
     clear eR HRR hN
     subst hRn
     go_wp2_with fail
     go_ret
     exact ⟨rfl, unhide HB2⟩
  ·have hRn : R = none := by rw [unhide HRR]; exact tofS_long (by rw [unhide HLL]; exact hL)
   have hL' : (11 : Int) < (L : Int) := by omega
   clear HRR
   subst hRn
   go_enter Tryd.func17, Tryd.ntmps17
   go_wp2_with (go_at_call 36; refine (isize W H _).mono ?_; rintro e w1 ⟨rfl, rfl⟩; rw [hs])
   go_ret
   exact ⟨rfl, unhide HB0⟩
end Go.Proofs.YtgnecacoehedkaaDoor
