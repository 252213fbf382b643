/- Move: what is answered; the specification's inner function. -/
import Derived.Test.YtgnecacoehedkaaDoorZFtS
import Derived.Test.YtgnecacoehedkaaDoorZPutS
import Derived.Test.YtgnecacoehedkaaDoorZG23
import Derived.Test.YtgnecacoehedkaaDoorZG27
namespace Go.Proofs.YtgnecacoehedkaaDoor
open Go.ChangeShapes Go.WideShapes Go.ChangeAt Go.RowKit
def moveL (l : List Pt) (W H : Int) (pane dy : Int) : List Pt := match tofS l W H with
 | none => []
 | some t => if inB dy (-100) 100 = true then (if spC t pane = 0 then ((t.mv pane dy).fit W H).flat 0 else t.flat 0) else []
def moveC (l : List Pt) (W H : Int) (pane dy : Int) : Int := match tofS l W H with
 | none => 1
 | some t => if inB dy (-100) 100 = true then spC t pane else 4
set_option maxHeartbeats 1000000 in
set_option maxRecDepth 100000 in
theorem smovein (a : Option Addr) (cap L : Nat) (l : List Pt) (HLL : Hid (l.length = L)) (t : Tr) {W H : Int} (hQ : tofS l W H = some t) (_ _ : Int) (pane dy : Int) (c : Int) (l2 : List Pt) (hs : inB dy (-100) 100 = true) (HC : Hid (c = moveC l W H pane dy)) (HL2 : Hid (l2 = moveL l W H pane dy)) (w : World) (hr : RowV w a (cPt l)) :
  Calls Tryd.prog 31 #[.agg #[.slice a L cap], .int .i64 W, .int .i64 H, .int .i64 pane, .int .i64 dy] w fun e w' => ∃ a2 cap2, e = .returned (.tuple #[.agg #[.slice a2 l2.length cap2], .int .i64 c]) ∧ RowV w' a2 (cPt l2) ∧ Below w.heap.size w w' := by
 obtain ⟨o1, o2, o3, o4, o5, o6, o7⟩ := tofS_ok hQ
 have hL11 : L ≤ 11 := by rw [← unhide HLL]; omega
 have hcc := unhide HC
 have hll := unhide HL2
 unfold moveC at hcc
 unfold moveL at hll
 rw [hQ] at hcc hll
 simp only [hs, if_true] at hcc hll
 have HB0 := hide (Go.Joins.below_alloc2 w (.cells #[.slice a L cap] 26) (.cells #[.slice none 0 0] 26))
 have BA := hide ((BF.new w #[.slice a L cap] 26).alloc (.cells #[.slice none 0 0] 26))
 have BZ := hide (BF.new (w.alloc (.cells #[.slice a L cap] 26)) #[.slice none 0 0] 26)
 rw [show (w.alloc (.cells #[.slice a L cap] 26)).heap.size = w.heap.size + 1 from by simp] at BZ
 have hfl : fnd l pane ↔ pane ∈ t.panes := by rw [o2]; exact fnd_flat t 0 pane
 have TF := hide (fun R (hR : R = true ↔ pane ∈ t.panes) w0 (h0 : RowV w0 a (cPt l)) => sfind a cap L l pane HLL (by omega) R (hR.trans hfl.symm) w0 h0)
 have T := hide (fun w0 (h0 : RowV w0 a (cPt l)) => sof a cap l L HLL hL11 t 0 w0 ⟨[], by rw [List.drop_zero, List.append_nil]; exact o2⟩ h0)
 have HR := hide hr
 have HLF := hide o2
 have hcL : t.cnt = L := by rw [← unhide HLL]; exact o3
 obtain ⟨hn1, hn2, hn3, hn4⟩ : 2 ≤ W ∧ W ≤ 24 ∧ 2 ≤ H ∧ H ≤ 10 := of_decide_eq_true o1
 have hszk := fits_szok t W H (by omega) (by omega) o7
 have HLE := hide (And.intro (fits_least t W H o7).1 (fits_least t W H o7).2)
 clear hr o1 o2 o3 o5 HC HL2 hQ hfl
 by_cases hm : pane ∈ t.panes
 ·have F1 := hide (unhide TF true (by simp [hm]))
  clear TF
  by_cases hi : t.is pane = true
  ·have hsp : spC t pane = 17 := by unfold spC; rw [if_pos hi]
   rw [hsp] at hcc hll
   rw [if_neg (by decide)] at hll
   have hll' : l2 = l := by rw [hll]; exact (unhide HLF).symm
   have HL1 : Hid (L = 1) := by show _ = _; rw [← hcL, is_panes hi]; rfl
   subst hcc hll'
   rw [unhide HLL]
   clear hll hm hi hsp T o4 o6 o7 hszk HLE hcL
   go_enter Tryd.func31, Tryd.ntmps31
   go_wp2_with fail
   refine (unhide F1 _ ((unhide HR).below (unhide HB0))).mono ?_
   rintro e w1 ⟨rfl, hb1⟩
   have HB1 := hide ((unhide HB0).trans (hb1.mono (unhide HB0).size))
   have BZ1 := hide ((unhide BZ).below hb1)
   have BA1 := hide ((unhide BA).below hb1)
   clear hb1 BA BZ HB0
   have y1 := (unhide BA1).S
   go_wp2_with fail
   refine (scount a cap L (by omega) w1).mono ?_
   rintro e w2 ⟨x, rfl, hb2, hx⟩
   have hx1 : x = 1 := hx.2 (.inl (unhide HL1))
   subst hx1
   have HB2 := hide ((unhide HB1).trans (hb2.mono (unhide HB1).size))
   have BZ2 := hide ((unhide BZ1).below hb2)
   have BA2 := hide ((unhide BA1).below hb2)
   clear hb2 hx y1 BA1 BZ1 HB1
   have z4 := (unhide BZ2).S 0
   have z4f := (unhide BZ2).F 0
   have y4 := (unhide BA2).S 0
   go_wp2_with fail
   refine bodyPost_ret (v := .tuple #[.agg #[.slice a L cap], .int .i64 17]) (by simp [results, Tryd.results31, go_sem, z4]) rfl ⟨a, cap, rfl, ?_, ?_⟩
   ·exact row_far (unhide HR) (unhide HB2) (Nat.le_refl _) (by exact Nat.le_succ _)
   ·exact Below.setCell (unhide HB2) (by exact Nat.le_succ _) _
  ·have hsp : spC t pane = 0 := by unfold spC; rw [if_neg hi, if_pos hm]
   rw [hsp] at hcc hll
   rw [if_pos rfl] at hll
   have hL3 : 3 ≤ L := by
    rw [← hcL]
    cases t using Tr.ind with
    | pane m => exact absurd (pane_is hm) hi
    | split r s l1 l2 _ _ => have := l1.cnt_pos; have := l2.cnt_pos; simp only [Tr.cnt]; omega
   have HLL2 := hide hll
   have hn : l2.length = t.cnt := by rw [hll, Tr.flat_len]; rw [fit_cnt, mv_cnt]
   rw [hn]
   subst hcc
   clear hn hll hcL
   go_enter Tryd.func31, Tryd.ntmps31
   go_wp2_with fail
   refine (unhide F1 _ ((unhide HR).below (unhide HB0))).mono ?_
   rintro e w1 ⟨rfl, hb1⟩
   have HB1 := hide ((unhide HB0).trans (hb1.mono (unhide HB0).size))
   have BZ1 := hide ((unhide BZ).below hb1)
   have BA1 := hide ((unhide BA).below hb1)
   clear hb1 BA BZ HB0
   have y1 := (unhide BA1).S
   go_wp2_with fail
   refine (scount a cap L (by omega) w1).mono ?_
   rintro e w1b ⟨x, rfl, hb2, hx⟩
   have hx1 : ¬ x = 1 := fun h => by have := hx.1 h; omega
   have HB2 := hide ((unhide HB1).trans (hb2.mono (unhide HB1).size))
   have BZ2 := hide ((unhide BZ1).below hb2)
   have BA2 := hide ((unhide BA1).below hb2)
   have HZB : Hid (w.heap.size + 1 < w1b.heap.size) := (unhide BZ2).lt
   clear hb2 hx y1 BA1 BZ1 HB1
   have y1 := (unhide BA2).S
   go_wp2_with fail
   refine (unhide T _ ((unhide HR).below (unhide HB2))).mono ?_
   rintro e w3 ⟨b, bs, rfl, ht3, hb3⟩
   have HB3 := hide ((unhide HB2).trans (hb3.mono (unhide HB2).size))
   have BZ3 := hide ((unhide BZ2).below hb3)
   have HNB : Hid (w.heap.size + 1 ∉ bs) := fun h => by have := ht3.2.1 _ h; have := unhide HZB; omega
   have HGE : Hid (∀ k ∈ bs, w.heap.size ≤ k) := fun k hk => by have := ht3.2.1 _ hk; have := unhide HZB; omega
   have HT3 := hide ht3.1
   have HND := hide ht3.2.2
   clear ht3 hb3 T BA2 BZ2 HB2 y1
   go_wp2_with fail
   refine (smove pane dy (of_decide_eq_true hs) t b bs true w3 (by unfold mvB; simp [hm, hi]) (unhide HT3) (unhide HND) hszk).mono ?_
   rintro e w5 ⟨rfl, ht5, hd5⟩
   have HB5 := hide ((unhide HB3).trans (hd5.below (unhide HGE) (unhide HB3).size))
   have BZ5 := hide ((unhide BZ3).turned hd5 (unhide HNB))
   have HT5 := hide ht5
   have HND5 := HND
   have HSUB : Hid (∀ k ∈ bs, k ∈ bs) := fun _ h => h
   clear ht5 hd5
   go_wp2_with fail
   refine (sfit (t.mv pane dy) b bs W H w5 (unhide HT5) (unhide HND5) (by omega) (by omega) (by rw [(mv_least t pane dy).1]; exact (fits_least t W H o7).1) (by rw [(mv_least t pane dy).2]; exact (fits_least t W H o7).2) (by rw [mv_cnt]; omega)).mono ?_
   rintro e w6 ⟨rfl, ht6, hd6⟩
   have HB6 := hide ((unhide HB5).trans (hd6.below (fun k hk => unhide HGE k (unhide HSUB k hk)) (unhide HB5).size))
   have BZ6 := hide ((unhide BZ5).turned hd6 (fun h => unhide HNB (unhide HSUB _ h)))
   have HT6 := hide ht6
   clear ht6 hd6
   go_wp2_with fail
   refine (slayout ((t.mv pane dy).fit W H) b bs w6 (unhide HT6) (by rw [fit_cnt, mv_cnt]; omega)).mono ?_
   rw [show ((t.mv pane dy).fit W H).cnt = t.cnt from by rw [fit_cnt, mv_cnt]]
   rintro e w7 ⟨a7, cap7, rfl, ho7, hb7⟩
   have HB7 := hide ((unhide HB6).trans (hb7.mono (unhide HB6).size))
   have BZ7 := hide ((unhide BZ6).below hb7)
   have HZ6 := hide (unhide BZ6).lt
   have HO7 := hide ho7
   rw [← unhide HLL2] at HO7
   clear ho7 hb7
   have z7 := (unhide BZ7).S 0
   have z7f := (unhide BZ7).F 0
   go_wp2_with fail
   refine bodyPost_ret (v := .tuple #[.agg #[.slice a7 t.cnt cap7], .int .i64 0]) (by simp [results, Tryd.results31, go_sem, z7]) rfl ⟨a7, cap7, rfl, ?_, ?_⟩
   ·exact row_own (unhide HO7) (unhide HZ6)
   ·exact Below.setCell (unhide HB7) (by exact Nat.le_succ _) _
 ·have hi : ¬ t.is pane = true := fun h => hm (is_mem h)
  have hsp : spC t pane = 5 := by unfold spC; rw [if_neg hi, if_neg hm]
  rw [hsp] at hcc hll
  rw [if_neg (by decide)] at hll
  have hll' : l2 = l := by rw [hll]; exact (unhide HLF).symm
  have F1 := hide (unhide TF false (by simp [hm]))
  subst hcc hll'
  rw [unhide HLL]
  clear hll hm hi hsp T o4 o6 o7 hszk HLE TF hcL
  go_enter Tryd.func31, Tryd.ntmps31
  go_wp2_with fail
  refine (unhide F1 _ ((unhide HR).below (unhide HB0))).mono ?_
  rintro e w2 ⟨rfl, hb2⟩
  have HB2 := hide ((unhide HB0).trans (hb2.mono (unhide HB0).size))
  have BZ2 := hide ((unhide BZ).below hb2)
  have BA2 := hide ((unhide BA).below hb2)
  clear hb2 BA BZ HB0
  have z4 := (unhide BZ2).S 0
  have z4f := (unhide BZ2).F 0
  have y4 := (unhide BA2).S 0
  go_wp2_with fail
  refine bodyPost_ret (v := .tuple #[.agg #[.slice a L cap], .int .i64 5]) (by simp [results, Tryd.results31, go_sem, z4]) rfl ⟨a, cap, rfl, ?_, ?_⟩
  ·exact row_far (unhide HR) (unhide HB2) (Nat.le_refl _) (by exact Nat.le_succ _)
  ·exact Below.setCell (unhide HB2) (by exact Nat.le_succ _) _
end Go.Proofs.YtgnecacoehedkaaDoor
