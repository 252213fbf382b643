/- Texts put together: KillIn LayK. -/
import Derived.Test.YtgnecacoehedkaaDoorZFtS
import Derived.Test.YtgnecacoehedkaaDoorZPutS
import Derived.Test.YtgnecacoehedkaaDoorZG23
import Derived.Test.YtgnecacoehedkaaDoorZKlS
import Derived.Test.YtgnecacoehedkaaDoorZG12
import Derived.Test.YtgnecacoehedkaaDoorZSplitIn
import Derived.Test.YtgnecacoehedkaaDoorZMoveIn
/- Kill: what is answered; the specification's inner function. -/
namespace Go.Proofs.YtgnecacoehedkaaDoor
open Go.ChangeShapes Go.WideShapes Go.ChangeAt Go.RowKit
def killL (l : List Pt) (W H : Int) (pane : Int) : List Pt := match tofS l W H with
 | none => []
 | some t => (if spC t pane = 0 then ((t.kl pane).fit W H).flat 0 else t.flat 0)
def killC (l : List Pt) (W H : Int) (pane : Int) : Int := match tofS l W H with
 | none => 1
 | some t => spC t pane
set_option maxHeartbeats 1000000 in
set_option maxRecDepth 100000 in
theorem skillin (a : Option Addr) (cap L : Nat) (l : List Pt) (HLL : Hid (l.length = L)) (t : Tr) {W H : Int} (hQ : tofS l W H = some t) (_ _ : Int) (pane : Int) (c : Int) (l2 : List Pt)  (HC : Hid (c = killC l W H pane)) (HL2 : Hid (l2 = killL l W H pane)) (w : World) (hr : RowV w a (cPt l)) :
  Calls Tryd.prog 30 #[.agg #[.slice a L cap], .int .i64 W, .int .i64 H, .int .i64 pane] w fun e w' => ∃ a2 cap2, e = .returned (.tuple #[.agg #[.slice a2 l2.length cap2], .int .i64 c]) ∧ RowV w' a2 (cPt l2) ∧ Below w.heap.size w w' := by
 obtain ⟨o1, o2, o3, o4, o5, o6, o7⟩ := tofS_ok hQ
 have hL11 : L ≤ 11 := by rw [← unhide HLL]; omega
 have hcc := unhide HC
 have hll := unhide HL2
 unfold killC at hcc
 unfold killL at hll
 rw [hQ] at hcc hll
 simp only at hcc hll
 have HB0 := hide (Go.Joins.below_alloc2 w (.cells #[.slice a L cap] 26) (.cells #[.slice none 0 0] 26))
 have BA := hide ((BF.new w #[.slice a L cap] 26).alloc (.cells #[.slice none 0 0] 26))
 have BZ := hide (BF.new (w.alloc (.cells #[.slice a L cap] 26)) #[.slice none 0 0] 26)
 rw [show (w.alloc (.cells #[.slice a L cap] 26)).heap.size = w.heap.size + 1 from by simp] at BZ
 have hfl : fnd l pane ↔ pane ∈ t.panes := by rw [o2]; exact fnd_flat t 0 pane
 have TF := hide (fun R (hR : R = true ↔ pane ∈ t.panes) w0 (h0 : RowV w0 a (cPt l)) => sfind a cap L l pane HLL (by omega) R (hR.trans hfl.symm) w0 h0)
 have T := hide (fun w0 (h0 : RowV w0 a (cPt l)) => sof a cap l L HLL hL11 t 0 w0 ⟨[], by rw [List.drop_zero, List.append_nil]; exact o2⟩ h0)
 have HR := hide hr
 have HLF := hide o2
 have hcL : t.cnt = L := by rw [← unhide HLL]; exact o3
 obtain ⟨hn1, hn2, hn3, hn4⟩ : 2 ≤ W ∧ W ≤ 24 ∧ 2 ≤ H ∧ H ≤ 10 := of_decide_eq_true o1
 have hszk := fits_szok t W H (by omega) (by omega) o7
 have HLE := hide (And.intro (fits_least t W H o7).1 (fits_least t W H o7).2)
 clear hr o1 o2 o3 o5 HC HL2 hQ hfl
 by_cases hm : pane ∈ t.panes
 ·have F1 := hide (unhide TF true (by simp [hm]))
  clear TF
  by_cases hi : t.is pane = true
  ·have hsp : spC t pane = 17 := by unfold spC; rw [if_pos hi]
   rw [hsp] at hcc hll
   rw [if_neg (by decide)] at hll
   have hll' : l2 = l := by rw [hll]; exact (unhide HLF).symm
   have HL1 : Hid (L = 1) := by show _ = _; rw [← hcL, is_panes hi]; rfl
   subst hcc hll'
   rw [unhide HLL]
   clear hll hm hi hsp T o4 o6 o7 hszk HLE hcL
   go_enter Tryd.func30, Tryd.ntmps30
   go_wp2_with fail
   refine (unhide F1 _ ((unhide HR).below (unhide HB0))).mono ?_
   rintro e w1 ⟨rfl, hb1⟩
   have HB1 := hide ((unhide HB0).trans (hb1.mono (unhide HB0).size))
   have BZ1 := hide ((unhide BZ).below hb1)
   have BA1 := hide ((unhide BA).below hb1)
   clear hb1 BA BZ HB0
   have y1 := (unhide BA1).S
   go_wp2_with fail
   refine (scount a cap L (by omega) w1).mono ?_
   rintro e w2 ⟨x, rfl, hb2, hx⟩
   have hx1 : x = 1 := hx.2 (.inl (unhide HL1))
   subst hx1
   have HB2 := hide ((unhide HB1).trans (hb2.mono (unhide HB1).size))
   have BZ2 := hide ((unhide BZ1).below hb2)
   have BA2 := hide ((unhide BA1).below hb2)
   clear hb2 hx y1 BA1 BZ1 HB1
   have z4 := (unhide BZ2).S 0
   have z4f := (unhide BZ2).F 0
   have y4 := (unhide BA2).S 0
   go_wp2_with fail
   refine bodyPost_ret (v := .tuple #[.agg #[.slice a L cap], .int .i64 17]) (by simp [results, Tryd.results30, go_sem, z4]) rfl ⟨a, cap, rfl, ?_, ?_⟩
   ·exact row_far (unhide HR) (unhide HB2) (Nat.le_refl _) (by exact Nat.le_succ _)
   ·exact Below.setCell (unhide HB2) (by exact Nat.le_succ _) _
  ·have hsp : spC t pane = 0 := by unfold spC; rw [if_neg hi, if_pos hm]
   rw [hsp] at hcc hll
   rw [if_pos rfl] at hll
   have hL3 : 3 ≤ L := by
    rw [← hcL]
    cases t using Tr.ind with
    | pane m => exact absurd (pane_is hm) hi
    | split r s l1 l2 _ _ => have := l1.cnt_pos; have := l2.cnt_pos; simp only [Tr.cnt]; omega
   have HLL2 := hide hll
   have hn : l2.length = (t.kl pane).cnt := by rw [hll, Tr.flat_len]; rw [fit_cnt]
   rw [hn]
   subst hcc
   clear hn hll hcL
   go_enter Tryd.func30, Tryd.ntmps30
   go_wp2_with fail
   refine (unhide F1 _ ((unhide HR).below (unhide HB0))).mono ?_
   rintro e w1 ⟨rfl, hb1⟩
   have HB1 := hide ((unhide HB0).trans (hb1.mono (unhide HB0).size))
   have BZ1 := hide ((unhide BZ).below hb1)
   have BA1 := hide ((unhide BA).below hb1)
   clear hb1 BA BZ HB0
   have y1 := (unhide BA1).S
   go_wp2_with fail
   refine (scount a cap L (by omega) w1).mono ?_
   rintro e w1b ⟨x, rfl, hb2, hx⟩
   have hx1 : ¬ x = 1 := fun h => by have := hx.1 h; omega
   have HB2 := hide ((unhide HB1).trans (hb2.mono (unhide HB1).size))
   have BZ2 := hide ((unhide BZ1).below hb2)
   have BA2 := hide ((unhide BA1).below hb2)
   have HZB : Hid (w.heap.size + 1 < w1b.heap.size) := (unhide BZ2).lt
   clear hb2 hx y1 BA1 BZ1 HB1
   have y1 := (unhide BA2).S
   go_wp2_with fail
   refine (unhide T _ ((unhide HR).below (unhide HB2))).mono ?_
   rintro e w3 ⟨b, bs, rfl, ht3, hb3⟩
   have HB3 := hide ((unhide HB2).trans (hb3.mono (unhide HB2).size))
   have BZ3 := hide ((unhide BZ2).below hb3)
   have HNB : Hid (w.heap.size + 1 ∉ bs) := fun h => by have := ht3.2.1 _ h; have := unhide HZB; omega
   have HGE : Hid (∀ k ∈ bs, w.heap.size ≤ k) := fun k hk => by have := ht3.2.1 _ hk; have := unhide HZB; omega
   have HT3 := hide ht3.1
   have HND := hide ht3.2.2
   clear ht3 hb3 T BA2 BZ2 HB2 y1
   go_wp2_with fail
   refine (skill pane t b bs w3 (unhide HT3) (unhide HND) o6).mono ?_
   rintro e w5 ⟨b5, bs5, rfl, ht5, hsub5, hnd5, hd5⟩
   have HB5 := hide ((unhide HB3).trans (hd5.below (unhide HGE) (unhide HB3).size))
   have BZ5 := hide ((unhide BZ3).turned hd5 (unhide HNB))
   have HT5 := hide ht5
   have HND5 := hide hnd5
   have HSUB := hide hsub5
   clear ht5 hd5 hsub5 hnd5
   go_wp2_with fail
   refine (sfit (t.kl pane) b5 bs5 W H w5 (unhide HT5) (unhide HND5) (by omega) (by omega) (Int.le_trans (kl_least t pane).1 (fits_least t W H o7).1) (Int.le_trans (kl_least t pane).2 (fits_least t W H o7).2) (by have := kl_cnt t pane; omega)).mono ?_
   rintro e w6 ⟨rfl, ht6, hd6⟩
   have HB6 := hide ((unhide HB5).trans (hd6.below (fun k hk => unhide HGE k (unhide HSUB k hk)) (unhide HB5).size))
   have BZ6 := hide ((unhide BZ5).turned hd6 (fun h => unhide HNB (unhide HSUB _ h)))
   have HT6 := hide ht6
   clear ht6 hd6
   go_wp2_with fail
   refine (slayout ((t.kl pane).fit W H) b5 bs5 w6 (unhide HT6) (by rw [fit_cnt]; have := kl_cnt t pane; omega)).mono ?_
   rw [show ((t.kl pane).fit W H).cnt = (t.kl pane).cnt from by rw [fit_cnt]]
   rintro e w7 ⟨a7, cap7, rfl, ho7, hb7⟩
   have HB7 := hide ((unhide HB6).trans (hb7.mono (unhide HB6).size))
   have BZ7 := hide ((unhide BZ6).below hb7)
   have HZ6 := hide (unhide BZ6).lt
   have HO7 := hide ho7
   rw [← unhide HLL2] at HO7
   clear ho7 hb7
   have z7 := (unhide BZ7).S 0
   have z7f := (unhide BZ7).F 0
   go_wp2_with fail
   refine bodyPost_ret (v := .tuple #[.agg #[.slice a7 (t.kl pane).cnt cap7], .int .i64 0]) (by simp [results, Tryd.results30, go_sem, z7]) rfl ⟨a7, cap7, rfl, ?_, ?_⟩
   ·exact row_own (unhide HO7) (unhide HZ6)
   ·exact Below.setCell (unhide HB7) (by exact Nat.le_succ _) _
 ·have hi : ¬ t.is pane = true := fun h => hm (is_mem h)
  have hsp : spC t pane = 5 := by unfold spC; rw [if_neg hi, if_neg hm]
  rw [hsp] at hcc hll
  rw [if_neg (by decide)] at hll
  have hll' : l2 = l := by rw [hll]; exact (unhide HLF).symm
  have F1 := hide (unhide TF false (by simp [hm]))
  subst hcc hll'
  rw [unhide HLL]
  clear hll hm hi hsp T o4 o6 o7 hszk HLE TF hcL
  go_enter Tryd.func30, Tryd.ntmps30
  go_wp2_with fail
  refine (unhide F1 _ ((unhide HR).below (unhide HB0))).mono ?_
  rintro e w2 ⟨rfl, hb2⟩
  have HB2 := hide ((unhide HB0).trans (hb2.mono (unhide HB0).size))
  have BZ2 := hide ((unhide BZ).below hb2)
  have BA2 := hide ((unhide BA).below hb2)
  clear hb2 BA BZ HB0
  have z4 := (unhide BZ2).S 0
  have z4f := (unhide BZ2).F 0
  have y4 := (unhide BA2).S 0
  go_wp2_with fail
  refine bodyPost_ret (v := .tuple #[.agg #[.slice a L cap], .int .i64 5]) (by simp [results, Tryd.results30, go_sem, z4]) rfl ⟨a, cap, rfl, ?_, ?_⟩
  ·exact row_far (unhide HR) (unhide HB2) (Nat.le_refl _) (by exact Nat.le_succ _)
  ·exact Below.setCell (unhide HB2) (by exact Nat.le_succ _) _
end Go.Proofs.YtgnecacoehedkaaDoor

/- What is split, killed or moved of a right layout is a right layout. Plain mathematics. -/
namespace Go.Proofs.YtgnecacoehedkaaDoor
open Go.ChangeShapes Go.WideShapes Go.ChangeAt Go.RowKit
theorem good_panes : ∀ t : Tr, t.good ↔ ∀ n ∈ t.panes, pnB n = true := by
 intro t
 induction t using Tr.ind with
 | pane n => simp [Tr.good, Tr.panes]
 | split r s l t ihl iht =>
  simp only [Tr.good, Tr.panes, ihl, iht, List.mem_append]
  exact ⟨fun h n hn => hn.elim (h.1 n) (h.2 n), fun h => ⟨fun n hn => h n (.inl hn), fun n hn => h n (.inr hn)⟩⟩
theorem kl_sub : ∀ (t : Tr) (n : Int), (t.kl n).panes.Sublist t.panes := by
 intro t
 induction t using Tr.ind with
 | pane m => intro n; exact List.Sublist.refl _
 | split r s l t ihl iht =>
  intro n
  rw [Tr.kl]
  split
  ·simp only [Tr.panes]; exact List.sublist_append_right _ _
  ·split
   ·simp only [Tr.panes]; exact List.sublist_append_left _ _
   ·simp only [Tr.panes]; exact (ihl n).append (iht n)
theorem flat_ok {t : Tr} {W H : Int} (hs : sizeB W H = true) (hc : t.cnt ≤ 11) (hg : t.good) (hn : t.panes.Nodup) (hf : t.fits W H = true) : tofS (t.flat 0) W H = some t := by
 have hl := Tr.flat_len t 0
 have hp := prs_flat t 12 (t.flat 0) 0 [] hg (by rw [List.drop_zero, List.append_nil]) (by omega)
 rw [tofS_some hs (by omega) hp, if_pos ⟨hl.symm, hn, hf⟩]
theorem one_ok {W H : Int} (hs : sizeB W H = true) : tofS [⟨1, false, 0, -1, -1⟩] W H = some (.pane 1) := by
 have h : 2 ≤ W ∧ W ≤ 24 ∧ 2 ≤ H ∧ H ≤ 10 := of_decide_eq_true hs
 refine flat_ok (t := .pane 1) hs (by decide) ?_ ?_ (by rw [Tr.fits]; exact decide_eq_true ⟨h.1, h.2.2.1⟩)
 ·show pnB 1 = true; decide
 ·show [(1 : Int)].Nodup; simp
theorem split_keeps {l : List Pt} {W H : Int} {t : Tr} (e : tofS l W H = some t) (pane fresh : Int) (rows : Bool) (hs : inB fresh 1 1000 = true) : ∃ t', tofS (splitL l W H pane fresh rows) W H = some t' ∧ ∀ m ∈ t'.panes, m ∈ t.panes ∨ m = fresh := by
 obtain ⟨o1, o2, o3, o4, o5, o6, o7⟩ := tofS_ok e
 unfold splitL
 rw [e]
 simp only [hs, if_true]
 split
 ·rename_i h0
  obtain ⟨c1, c2, c3, c4⟩ := scd_ok h0
  have hfit := spl_fits t pane rows fresh W H o7 o6 c1
  rw [decide_eq_true c4] at hfit
  exact ⟨_, flat_ok o1 (spl_le o4 o6 c1 c3) (spl_good t pane rows _ fresh o5 hs) (spl_nodup t pane rows _ fresh o6 c2) hfit, fun m hm => ((spl_mem t pane rows _ fresh m).1 hm).imp id (·.1)⟩
 ·rw [← o2]; exact ⟨t, e, fun m hm => .inl hm⟩
theorem move_ok {t : Tr} {W H : Int} (o1 : sizeB W H = true) (o4 : t.cnt ≤ 11) (o5 : t.good) (o6 : t.panes.Nodup) (o7 : t.fits W H = true) (pane dy : Int) : tofS (((t.mv pane dy).fit W H).flat 0) W H = some ((t.mv pane dy).fit W H) := by
 have hl := fits_least t W H o7
 have hm := mv_least t pane dy
 have hp : ((t.mv pane dy).fit W H).panes = t.panes := by rw [fit_panes, mv_panes]
 refine flat_ok o1 (by rw [fit_cnt, mv_cnt]; exact o4) ((good_panes _).2 (by rw [hp]; exact (good_panes t).1 o5)) (by rw [hp]; exact o6) (fit_fits _ W H (by omega) (by omega))
theorem move_keeps {l : List Pt} {W H : Int} {t : Tr} (e : tofS l W H = some t) (pane dy : Int) (hs : inB dy (-100) 100 = true) : ∃ t', tofS (moveL l W H pane dy) W H = some t' ∧ t'.panes = t.panes := by
 obtain ⟨o1, o2, o3, o4, o5, o6, o7⟩ := tofS_ok e
 unfold moveL
 rw [e]
 simp only [hs, if_true]
 split
 ·exact ⟨_, move_ok o1 o4 o5 o6 o7 pane dy, by rw [fit_panes, mv_panes]⟩
 ·rw [← o2]; exact ⟨t, e, rfl⟩
theorem kill_ok {t : Tr} {W H : Int} (o1 : sizeB W H = true) (o4 : t.cnt ≤ 11) (o5 : t.good) (o6 : t.panes.Nodup) (o7 : t.fits W H = true) (pane : Int) : tofS (((t.kl pane).fit W H).flat 0) W H = some ((t.kl pane).fit W H) := by
 have hl := fits_least t W H o7
 have hm := kl_least t pane
 have hc := kl_cnt t pane
 have hsb := kl_sub t pane
 have hp : ((t.kl pane).fit W H).panes = (t.kl pane).panes := fit_panes _ _ _
 refine flat_ok o1 (by rw [fit_cnt]; omega) ((good_panes _).2 (by rw [hp]; exact fun n hn => (good_panes t).1 o5 n (hsb.subset hn))) (by rw [hp]; exact hsb.nodup o6) (fit_fits _ W H (by omega) (by omega))
theorem kill_keeps {l : List Pt} {W H : Int} {t : Tr} (e : tofS l W H = some t) (pane : Int) : ∃ t', tofS (killL l W H pane) W H = some t' ∧ ∀ m ∈ t'.panes, m ∈ t.panes := by
 obtain ⟨o1, o2, o3, o4, o5, o6, o7⟩ := tofS_ok e
 unfold killL
 rw [e]
 simp only
 split
 ·exact ⟨_, kill_ok o1 o4 o5 o6 o7 pane, fun m hm => (kl_sub t pane).subset (by rw [← fit_panes (t.kl pane) W H]; exact hm)⟩
 ·rw [← o2]; exact ⟨t, e, fun m hm => hm⟩
end Go.Proofs.YtgnecacoehedkaaDoor
