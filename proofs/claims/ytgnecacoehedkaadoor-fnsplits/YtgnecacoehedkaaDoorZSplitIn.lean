/- SplitArea: what is answered; the specification's inner function. -/
import Derived.Test.YtgnecacoehedkaaDoorZPutS
import Derived.Test.YtgnecacoehedkaaDoorZG23
import Derived.Test.YtgnecacoehedkaaDoorZSplS
namespace Go.Proofs.YtgnecacoehedkaaDoor
open Go.ChangeShapes Go.WideShapes Go.ChangeAt Go.RowKit
def scd (t : Tr) (W H : Int) (pane fresh : Int) (rows : Bool) : Int :=
 if pane ∈ t.panes then (if fresh ∈ t.panes then 9 else if t.panes.length = 6 then 7 else if t.sid pane rows W H / 2 < 2 then 10 else 0) else 5
def splitL (l : List Pt) (W H : Int) (pane fresh : Int) (rows : Bool) : List Pt := match tofS l W H with
 | none => []
 | some t => if inB fresh 1 1000 = true then (if scd t W H pane fresh rows = 0 then (t.spl pane rows (t.sid pane rows W H / 2) fresh).flat 0 else t.flat 0) else []
def splitC (l : List Pt) (W H : Int) (pane fresh : Int) (rows : Bool) : Int := match tofS l W H with
 | none => 1
 | some t => if inB fresh 1 1000 = true then scd t W H pane fresh rows else 4
theorem scd_ok {t : Tr} {W H pane fresh : Int} {rows : Bool} (h : scd t W H pane fresh rows = 0) : pane ∈ t.panes ∧ fresh ∉ t.panes ∧ ¬ t.panes.length = 6 ∧ 2 ≤ t.sid pane rows W H / 2 := by
 unfold scd at h
 split at h
 ·split at h
  ·exact absurd h (by decide)
  ·split at h
   ·exact absurd h (by decide)
   ·split at h
    ·exact absurd h (by decide)
    ·refine ⟨by assumption, by assumption, by assumption, by omega⟩
 ·exact absurd h (by decide)
theorem spl_le {t : Tr} {pane fresh s : Int} {rows : Bool} (h4 : t.cnt ≤ 11) (hn : t.panes.Nodup) (hm : pane ∈ t.panes) (h6 : ¬ t.panes.length = 6) : (t.spl pane rows s fresh).cnt ≤ 11 := by
 rw [spl_cnt t pane rows s fresh hn hm]
 have := cnt_panes t
 omega
theorem splitL_bd (l : List Pt) (W H : Int) (pane fresh : Int) (rows : Bool) (t : Tr) (h : tofS l W H = some t) (hs : inB fresh 1 1000 = true) : 0 < (splitL l W H pane fresh rows).length ∧ (splitL l W H pane fresh rows).length ≤ 11 := by
 obtain ⟨-, -, -, h4, -, h6, -⟩ := tofS_ok h
 have h5 := t.cnt_pos
 unfold splitL
 rw [h]
 simp only [hs, if_true]
 split
 ·rename_i e
  obtain ⟨e1, e2, e3, e4⟩ := scd_ok e
  rw [Tr.flat_len]
  exact ⟨Tr.cnt_pos _, spl_le h4 h6 e1 e3⟩
 ·rw [Tr.flat_len]; omega
theorem splitL_le (l : List Pt) (W H : Int) (pane fresh : Int) (rows : Bool) : (splitL l W H pane fresh rows).length ≤ 13 := by
 cases h : tofS l W H with
 | none => unfold splitL; rw [h]; simp
 | some t =>
  cases hs : inB fresh 1 1000 with
  | false => unfold splitL; rw [h]; simp [hs]
  | true => have := splitL_bd l W H pane fresh rows t h hs; omega
/-- Whether a layout with one pane more is right. -/
theorem spl_ok {l l3 : List Pt} {W H pane fresh S : Int} {rows : Bool} {t : Tr} (h : tofS l W H = some t) (hs : inB fresh 1 1000 = true) (hm : pane ∈ t.panes) (hf : fresh ∉ t.panes) (h6 : ¬ t.panes.length = 6) (hS : S = t.sid pane rows W H / 2) (h3 : l3 = (t.spl pane rows S fresh).flat 0) : (tofS l3 W H).isSome = decide (2 ≤ S) := by
 obtain ⟨o1, o2, o3, o4, o5, o6, o7⟩ := tofS_ok h
 have hg := spl_good t pane rows S fresh o5 (by exact hs)
 have hn := spl_nodup t pane rows S fresh o6 hf
 have hc : (t.spl pane rows S fresh).cnt ≤ 11 := spl_le o4 o6 hm h6
 have hlen : l3.length = (t.spl pane rows S fresh).cnt := by rw [h3, Tr.flat_len]
 have hp := prs_flat (t.spl pane rows S fresh) 12 l3 0 [] hg (by rw [List.drop_zero, List.append_nil]; exact h3) (by omega)
 have hfit := spl_fits t pane rows fresh W H o7 o6 hm
 rw [← hS] at hfit
 rw [tofS_some o1 (by omega) hp]
 by_cases e : 2 ≤ S
 ·rw [if_pos ⟨hlen.symm, hn, by rw [hfit]; exact decide_eq_true e⟩, decide_eq_true e]; rfl
 ·rw [if_neg (fun h => by have := h.2.2; rw [hfit] at this; exact e (of_decide_eq_true this)), decide_eq_false e]; rfl
theorem scount6 (a : Option Addr) (cap L : Nat) (hl : L ≤ 1000) (w : World) :
  Calls Tryd.prog 46 #[.agg #[.slice a L cap]] w fun e w' => ∃ x : Int, e = .returned (.int .i64 x) ∧ Below w.heap.size w w' ∧ (x = 6 ↔ L = 11 ∨ L = 12) := by
 have HB0 := hide (Go.Joins.below_alloc1 w (.cells #[.slice a L cap] 26))
 have hL : (L : Int) ≤ 1000 := by omega
 go_enter Tryd.func46, Tryd.ntmps46
 go_wp2_with fail
 go_ret
 refine ⟨_, rfl, unhide HB0, ?_⟩
 omega
set_option maxHeartbeats 1000000 in
set_option maxRecDepth 100000 in
theorem ssplitin (a : Option Addr) (cap L : Nat) (l : List Pt) (HLL : Hid (l.length = L)) (t : Tr) {W H : Int} (hQ : tofS l W H = some t) (_ _ : Int) (pane fresh : Int) (rows : Bool) (c : Int) (l2 : List Pt) (hs : inB fresh 1 1000 = true) (HC : Hid (c = splitC l W H pane fresh rows)) (HL2 : Hid (l2 = splitL l W H pane fresh rows)) (w : World) (hr : RowV w a (cPt l)) :
  Calls Tryd.prog 22 #[.agg #[.slice a L cap], .int .i64 W, .int .i64 H, .int .i64 pane, .int .i64 fresh, .bool rows] w fun e w' => ∃ a2 cap2, e = .returned (.tuple #[.agg #[.slice a2 l2.length cap2], .int .i64 c]) ∧ RowV w' a2 (cPt l2) ∧ Below w.heap.size w w' := by
 obtain ⟨o1, o2, o3, o4, o5, o6, o7⟩ := tofS_ok hQ
 have hL11 : L ≤ 11 := by rw [← unhide HLL]; omega
 have hcc := unhide HC
 have hll := unhide HL2
 unfold splitC at hcc
 unfold splitL at hll
 rw [hQ] at hcc hll
 simp only [hs, if_true] at hcc hll
 have HB0 := hide (Go.Joins.below_alloc2 w (.cells #[.slice a L cap] 26) (.cells #[.slice none 0 0] 26))
 have BA := hide ((BF.new w #[.slice a L cap] 26).alloc (.cells #[.slice none 0 0] 26))
 have BZ := hide (BF.new (w.alloc (.cells #[.slice a L cap] 26)) #[.slice none 0 0] 26)
 rw [show (w.alloc (.cells #[.slice a L cap] 26)).heap.size = w.heap.size + 1 from by simp] at BZ
 have hfl : ∀ n, fnd l n ↔ n ∈ t.panes := fun n => by rw [o2]; exact fnd_flat t 0 n
 have TF := hide (fun n R (hR : R = true ↔ n ∈ t.panes) w0 (h0 : RowV w0 a (cPt l)) => sfind a cap L l n HLL (by omega) R (hR.trans (hfl n).symm) w0 h0)
 have T := hide (fun w0 (h0 : RowV w0 a (cPt l)) => sof a cap l L HLL hL11 t 0 w0 ⟨[], by rw [List.drop_zero, List.append_nil]; exact o2⟩ h0)
 have HR := hide hr
 have HLF := hide o2
 have hcL : t.cnt = L := by rw [← unhide HLL]; exact o3
 obtain ⟨hn1, hn2, hn3, hn4⟩ : 2 ≤ W ∧ W ≤ 24 ∧ 2 ≤ H ∧ H ≤ 10 := of_decide_eq_true o1
 have HQ := hide hQ
 clear hr o1 o2 o3 o5 HC HL2 hQ hfl
 by_cases hm : pane ∈ t.panes
 ·have F1 := hide (unhide TF pane true (by simp [hm]))
  by_cases hm2 : fresh ∈ t.panes
  ·have hsp : scd t W H pane fresh rows = 9 := by unfold scd; rw [if_pos hm, if_pos hm2]
   rw [hsp] at hcc hll
   rw [if_neg (by decide)] at hll
   have hll' : l2 = l := by rw [hll]; exact (unhide HLF).symm
   have F2 := hide (unhide TF fresh true (by simp [hm2]))
   subst hcc hll'
   rw [unhide HLL]
   clear hll hm hm2 hsp T o4 o6 o7 hcL HQ TF hs
   go_enter Tryd.func22, Tryd.ntmps22
   go_wp2_with fail
   refine (unhide F1 _ ((unhide HR).below (unhide HB0))).mono ?_
   rintro e w1 ⟨rfl, hb1⟩
   have HB1 := hide ((unhide HB0).trans (hb1.mono (unhide HB0).size))
   have BZ1 := hide ((unhide BZ).below hb1)
   have BA1 := hide ((unhide BA).below hb1)
   clear hb1 BA BZ HB0 F1
   have y1 := (unhide BA1).S
   go_wp2_with fail
   refine (unhide F2 _ ((unhide HR).below (unhide HB1))).mono ?_
   rintro e w2 ⟨rfl, hb2⟩
   have HB2 := hide ((unhide HB1).trans (hb2.mono (unhide HB1).size))
   have BZ2 := hide ((unhide BZ1).below hb2)
   have BA2 := hide ((unhide BA1).below hb2)
   clear hb2 y1 BA1 BZ1 HB1
   have z4 := (unhide BZ2).S 0
   have z4f := (unhide BZ2).F 0
   have y4 := (unhide BA2).S 0
   go_wp2_with fail
   refine bodyPost_ret (v := .tuple #[.agg #[.slice a L cap], .int .i64 9]) (by simp [results, Tryd.results22, go_sem, z4]) rfl ⟨a, cap, rfl, ?_, ?_⟩
   ·exact row_far (unhide HR) (unhide HB2) (Nat.le_refl _) (by exact Nat.le_succ _)
   ·exact Below.setCell (unhide HB2) (by exact Nat.le_succ _) _
  ·have F2 := hide (unhide TF fresh false (by simp [hm2]))
   clear TF
   by_cases h6 : t.panes.length = 6
   ·have hsp : scd t W H pane fresh rows = 7 := by unfold scd; rw [if_pos hm, if_neg hm2, if_pos h6]
    rw [hsp] at hcc hll
    rw [if_neg (by decide)] at hll
    have hll' : l2 = l := by rw [hll]; exact (unhide HLF).symm
    have HL6 : Hid (L = 11) := by show _ = _; have := cnt_panes t; omega
    subst hcc hll'
    rw [unhide HLL]
    clear hll hm hm2 hsp T o4 o6 o7 hcL HQ hs h6
    go_enter Tryd.func22, Tryd.ntmps22
    go_wp2_with fail
    refine (unhide F1 _ ((unhide HR).below (unhide HB0))).mono ?_
    rintro e w1 ⟨rfl, hb1⟩
    have HB1 := hide ((unhide HB0).trans (hb1.mono (unhide HB0).size))
    have BZ1 := hide ((unhide BZ).below hb1)
    have BA1 := hide ((unhide BA).below hb1)
    clear hb1 BA BZ HB0 F1
    have y1 := (unhide BA1).S
    go_wp2_with fail
    refine (unhide F2 _ ((unhide HR).below (unhide HB1))).mono ?_
    rintro e w2 ⟨rfl, hb2⟩
    have HB2 := hide ((unhide HB1).trans (hb2.mono (unhide HB1).size))
    have BZ2 := hide ((unhide BZ1).below hb2)
    have BA2 := hide ((unhide BA1).below hb2)
    clear hb2 y1 BA1 BZ1 HB1 F2
    have y1 := (unhide BA2).S
    go_wp2_with fail
    refine (scount6 a cap L (by omega) w2).mono ?_
    rintro e w3 ⟨x, rfl, hb3, hx⟩
    have hx1 : x = 6 := hx.2 (.inl (unhide HL6))
    subst hx1
    have HB3 := hide ((unhide HB2).trans (hb3.mono (unhide HB2).size))
    have BZ3 := hide ((unhide BZ2).below hb3)
    have BA3 := hide ((unhide BA2).below hb3)
    clear hb3 hx y1 BA2 BZ2 HB2
    have z4 := (unhide BZ3).S 0
    have z4f := (unhide BZ3).F 0
    have y4 := (unhide BA3).S 0
    go_wp2_with fail
    refine bodyPost_ret (v := .tuple #[.agg #[.slice a L cap], .int .i64 7]) (by simp [results, Tryd.results22, go_sem, z4]) rfl ⟨a, cap, rfl, ?_, ?_⟩
    ·exact row_far (unhide HR) (unhide HB3) (Nat.le_refl _) (by exact Nat.le_succ _)
    ·exact Below.setCell (unhide HB3) (by exact Nat.le_succ _) _
   ·obtain ⟨S, hS⟩ : ∃ S, S = t.sid pane rows W H / 2 := ⟨_, rfl⟩
    obtain ⟨l3, h3⟩ : ∃ l3, l3 = (t.spl pane rows S fresh).flat 0 := ⟨_, rfl⟩
    obtain ⟨R3, hR3⟩ : ∃ R3, R3 = decide (2 ≤ S) := ⟨_, rfl⟩
    have HOK : Hid (R3 = (tofS l3 W H).isSome) := by show _ = _; rw [hR3]; exact (spl_ok (unhide HQ) hs hm hm2 h6 hS h3).symm
    have hL9 : ¬ L = 11 := by have := cnt_panes t; omega
    have HL12 : Hid (¬ (L = 11 ∨ L = 12)) := by show ¬ _; omega
    have hcnt : (t.spl pane rows S fresh).cnt ≤ 11 := spl_le o4 o6 hm h6
    obtain ⟨N3, hN3⟩ : ∃ N3, N3 = (t.spl pane rows S fresh).cnt := ⟨_, rfl⟩
    have HLN3 : Hid (l3.length = N3) := by show _ = _; rw [hN3, h3, Tr.flat_len]
    have HN3 := hide hN3
    have H3 := hide h3
    have TS := hide (fun b bs w0 (h0 : TreeAt sBx w0 t b bs) (hn : bs.Nodup) => ssplit pane fresh rows t b bs W H true S w0 (by simp [hm]) hS h0 hn o7 o6 (by omega) (by omega))
    have hsc : scd t W H pane fresh rows = if S < 2 then 10 else 0 := by unfold scd; rw [if_pos hm, if_neg hm2, if_neg h6, hS]
    rw [hsc] at hcc hll
    rw [← hS] at hll
    rw [← hN3] at hcnt
    have HLC := hide hcc
    have HLL2 := hide hll
    have HR3 := hide hR3
    clear hm hm2 h6 hS h3 hN3 hsc hcc hll hR3 hcL o4 o6 o7 hs HQ hL9
    go_enter Tryd.func22, Tryd.ntmps22
    go_wp2_with fail
    refine (unhide F1 _ ((unhide HR).below (unhide HB0))).mono ?_
    rintro e w1 ⟨rfl, hb1⟩
    have HB1 := hide ((unhide HB0).trans (hb1.mono (unhide HB0).size))
    have BZ1 := hide ((unhide BZ).below hb1)
    have BA1 := hide ((unhide BA).below hb1)
    clear hb1 BA BZ HB0 F1
    have y1 := (unhide BA1).S
    go_wp2_with fail
    refine (unhide F2 _ ((unhide HR).below (unhide HB1))).mono ?_
    rintro e w2 ⟨rfl, hb2⟩
    have HB2 := hide ((unhide HB1).trans (hb2.mono (unhide HB1).size))
    have BZ2 := hide ((unhide BZ1).below hb2)
    have BA2 := hide ((unhide BA1).below hb2)
    clear hb2 y1 BA1 BZ1 HB1 F2
    have y1 := (unhide BA2).S
    go_wp2_with fail
    refine (scount6 a cap L (by omega) w2).mono ?_
    rintro e w3 ⟨x, rfl, hb3, hx⟩
    have hx1 : ¬ x = 6 := fun h => unhide HL12 (hx.1 h)
    have HB3 := hide ((unhide HB2).trans (hb3.mono (unhide HB2).size))
    have BZ3 := hide ((unhide BZ2).below hb3)
    have BA3 := hide ((unhide BA2).below hb3)
    have HZB : Hid (w.heap.size + 1 < w3.heap.size) := (unhide BZ3).lt
    clear hb3 hx y1 BA2 BZ2 HB2
    have y1 := (unhide BA3).S
    go_wp2_with fail
    refine (unhide T _ ((unhide HR).below (unhide HB3))).mono ?_
    rintro e w4 ⟨b, bs, rfl, ht4, hb4⟩
    have HB4 := hide ((unhide HB3).trans (hb4.mono (unhide HB3).size))
    have BZ4 := hide ((unhide BZ3).below hb4)
    have BA4 := hide ((unhide BA3).below hb4)
    have HNB : Hid (w.heap.size + 1 ∉ bs) := fun h => by have := ht4.2.1 _ h; have := unhide HZB; omega
    have HNA : Hid (w.heap.size ∉ bs) := fun h => by have := ht4.2.1 _ h; have := unhide HZB; omega
    have HGE : Hid (∀ k ∈ bs, w.heap.size ≤ k) := fun k hk => by have := ht4.2.1 _ hk; have := unhide HZB; omega
    have T5 := hide (unhide TS b bs w4 ht4.1 ht4.2.2)
    clear ht4 hb4 T BA3 BZ3 HB3 y1 TS
    go_wp2_with fail
    refine (unhide T5).mono ?_
    rintro e w5 ⟨rfl, bs5, ht5, -, hd5⟩
    have HB5 := hide ((unhide HB4).trans (hd5.below (unhide HGE) (unhide HB4).size))
    have BZ5 := hide ((unhide BZ4).turned hd5 (unhide HNB))
    have BA5 := hide ((unhide BA4).turned hd5 (unhide HNA))
    have T6 := hide (slayout (t.spl pane rows S fresh) b bs5 w5 ht5 (by rw [← unhide HN3]; omega))
    rw [← unhide HN3, ← unhide H3] at T6
    clear ht5 hd5 BA4 BZ4 HB4 T5
    go_wp2_with fail
    refine (unhide T6).mono ?_
    rintro e w6 ⟨a6, cap6, rfl, ho6, hb6⟩
    have HB6 := hide (((unhide HB5).trans (hb6.mono (unhide HB5).size)).alloc (by have := (unhide HB5).size; have := hb6.size; omega) (.cells #[.slice a6 N3 cap6] 26))
    have BZ6 := hide (((unhide BZ5).below hb6).alloc (.cells #[.slice a6 N3 cap6] 26))
    have BA6 := hide (((unhide BA5).below hb6).alloc (.cells #[.slice a6 N3 cap6] 26))
    have BO6 := hide (BF.new w6 #[.slice a6 N3 cap6] 26)
    have HH6 := hide ((heldZ_of ho6).below (Go.Joins.below_alloc1 w6 (.cells #[.slice a6 N3 cap6] 26)) (Nat.le_refl _))
    have HZ5 : Hid (w.heap.size + 1 < w5.heap.size) := (unhide BZ5).lt
    have HLT6 : Hid (w.heap.size + 1 < w6.heap.size) := Nat.lt_of_lt_of_le (unhide BZ5).lt hb6.size
    have T7 := hide (sl05ok a6 cap6 N3 l3 HLN3 (by omega) W H R3 HOK _ (unhide HH6).rowV)
    clear ho6 hb6 BA5 BZ5 HB5 T6
    have y6 := (unhide BO6).S
    go_wp2_with fail
    refine (unhide T7).mono ?_
    rintro e w7 ⟨rfl, hb7⟩
    have HB7 := hide ((unhide HB6).trans (hb7.mono (unhide HB6).size))
    have BZ7 := hide ((unhide BZ6).below hb7)
    have BA7 := hide ((unhide BA6).below hb7)
    have BO7 := hide ((unhide BO6).below hb7)
    have HH7 := hide ((unhide HH6).below hb7 (by simp))
    clear hb7 T7 BZ6 BA6 BO6 HH6 HB6 y6
    have z7 := (unhide BZ7).S 0
    have z7f := (unhide BZ7).F 0
    have y7 := (unhide BA7).S 0
    have x7 := (unhide BO7).S 0
    have hne : ¬ w6.heap.size = w.heap.size + 1 := by have := unhide HLT6; omega
    have hcs := unhide HR3
    by_cases hS2 : 2 ≤ S
    ·have hR1 : R3 = true := by rw [hcs]; exact decide_eq_true hS2
     have hc0 : c = 0 := by rw [unhide HLC, if_neg (by omega)]
     have hl3 : l2 = l3 := by rw [unhide HLL2, if_neg (show ¬ S < 2 by omega), if_pos rfl]; exact (unhide H3).symm
     clear hcs HOK HLC HLL2 hS2 HR3
     subst hR1 hc0 hl3
     go_wp2_with fail
     refine bodyPost_ret (v := .tuple #[.agg #[.slice a6 N3 cap6], .int .i64 0]) (by simp [results, Tryd.results22, go_sem, z7]) rfl ⟨a6, cap6, by rw [unhide HLN3], ?_, ?_⟩
     ·exact row_own (unhide HH7).own (unhide HZ5)
     ·exact Below.setCell (unhide HB7) (by exact Nat.le_succ _) _
    ·have hR1 : R3 = false := by rw [hcs]; exact decide_eq_false hS2
     have hc0 : c = 10 := by rw [unhide HLC, if_pos (by omega)]
     have hl3 : l2 = l := by rw [unhide HLL2, if_pos (show S < 2 by omega), if_neg (by decide)]; exact (unhide HLF).symm
     clear hcs HOK HLC HLL2 hS2 HR3
     subst hR1 hc0 hl3
     go_wp2_with fail
     refine bodyPost_ret (v := .tuple #[.agg #[.slice a L cap], .int .i64 10]) (by simp [results, Tryd.results22, go_sem, z7]) rfl ⟨a, cap, by rw [unhide HLL], ?_, ?_⟩
     ·exact row_far (unhide HR) (unhide HB7) (Nat.le_refl _) (by exact Nat.le_succ _)
     ·exact Below.setCell (unhide HB7) (by exact Nat.le_succ _) _
 ·have hsp : scd t W H pane fresh rows = 5 := by unfold scd; rw [if_neg hm]
  rw [hsp] at hcc hll
  rw [if_neg (by decide)] at hll
  have hll' : l2 = l := by rw [hll]; exact (unhide HLF).symm
  have F1 := hide (unhide TF pane false (by simp [hm]))
  subst hcc hll'
  rw [unhide HLL]
  clear hll hm hsp T o4 o6 o7 TF hcL HQ hs
  go_enter Tryd.func22, Tryd.ntmps22
  go_wp2_with fail
  refine (unhide F1 _ ((unhide HR).below (unhide HB0))).mono ?_
  rintro e w2 ⟨rfl, hb2⟩
  have HB2 := hide ((unhide HB0).trans (hb2.mono (unhide HB0).size))
  have BZ2 := hide ((unhide BZ).below hb2)
  have BA2 := hide ((unhide BA).below hb2)
  clear hb2 BA BZ HB0
  have z4 := (unhide BZ2).S 0
  have z4f := (unhide BZ2).F 0
  have y4 := (unhide BA2).S 0
  go_wp2_with fail
  refine bodyPost_ret (v := .tuple #[.agg #[.slice a L cap], .int .i64 5]) (by simp [results, Tryd.results22, go_sem, z4]) rfl ⟨a, cap, rfl, ?_, ?_⟩
  ·exact row_far (unhide HR) (unhide HB2) (Nat.le_refl _) (by exact Nat.le_succ _)
  ·exact Below.setCell (unhide HB2) (by exact Nat.le_succ _) _
end Go.Proofs.YtgnecacoehedkaaDoor
