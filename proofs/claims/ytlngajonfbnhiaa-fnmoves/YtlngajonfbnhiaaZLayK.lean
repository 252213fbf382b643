/- What is split, killed or moved of a right layout is a right layout. Plain mathematics. -/
import Derived.Test.YtlngajonfbnhiaaZG12
import Derived.Test.YtlngajonfbnhiaaZSplitIn
import Derived.Test.YtlngajonfbnhiaaZMoveIn
import Derived.Test.YtlngajonfbnhiaaZKillIn
namespace Go.Proofs.Ytlngajonfbnhiaa
open Go.ChangeShapes Go.WideShapes Go.ChangeAt Go.RowKit
theorem good_panes : ∀ t : Tr, t.good ↔ ∀ n ∈ t.panes, pnB n = true := by
 intro t
 induction t using Tr.ind with
 | pane n => simp [Tr.good, Tr.panes]
 | split r s l t ihl iht =>
  simp only [Tr.good, Tr.panes, ihl, iht, List.mem_append]
  exact ⟨fun h n hn => hn.elim (h.1 n) (h.2 n), fun h => ⟨fun n hn => h n (.inl hn), fun n hn => h n (.inr hn)⟩⟩
theorem kl_sub : ∀ (t : Tr) (n : Int), (t.kl n).panes.Sublist t.panes := by
 intro t
 induction t using Tr.ind with
 | pane m => intro n; exact List.Sublist.refl _
 | split r s l t ihl iht =>
  intro n
  rw [Tr.kl]
  split
  ·simp only [Tr.panes]; exact List.sublist_append_right _ _
  ·split
   ·simp only [Tr.panes]; exact List.sublist_append_left _ _
   ·simp only [Tr.panes]; exact (ihl n).append (iht n)
theorem flat_ok {t : Tr} {W H : Int} (hs : sizeB W H = true) (hc : t.cnt ≤ 11) (hg : t.good) (hn : t.panes.Nodup) (hf : t.fits W H = true) : tofS (t.flat 0) W H = some t := by
 have hl := Tr.flat_len t 0
 have hp := prs_flat t 12 (t.flat 0) 0 [] hg (by rw [List.drop_zero, List.append_nil]) (by omega)
 rw [tofS_some hs (by omega) hp, if_pos ⟨hl.symm, hn, hf⟩]
theorem one_ok {W H : Int} (hs : sizeB W H = true) : tofS [⟨1, false, 0, -1, -1⟩] W H = some (.pane 1) := by
 have h : 2 ≤ W ∧ W ≤ 24 ∧ 2 ≤ H ∧ H ≤ 10 := of_decide_eq_true hs
 refine flat_ok (t := .pane 1) hs (by decide) ?_ ?_ (by rw [Tr.fits]; exact decide_eq_true ⟨h.1, h.2.2.1⟩)
 ·show pnB 1 = true; decide
 ·show [(1 : Int)].Nodup; simp
theorem split_keeps {l : List Pt} {W H : Int} {t : Tr} (e : tofS l W H = some t) (pane fresh : Int) (rows : Bool) (hs : inB fresh 1 1000 = true) : ∃ t', tofS (splitL l W H pane fresh rows) W H = some t' ∧ ∀ m ∈ t'.panes, m ∈ t.panes ∨ m = fresh := by
 obtain ⟨o1, o2, o3, o4, o5, o6, o7⟩ := tofS_ok e
 unfold splitL
 rw [e]
 simp only [hs, if_true]
 split
 ·rename_i h0
  obtain ⟨c1, c2, c3, c4⟩ := scd_ok h0
  have hfit := spl_fits t pane rows fresh W H o7 o6 c1
  rw [decide_eq_true c4] at hfit
  exact ⟨_, flat_ok o1 (spl_le o4 o6 c1 c3) (spl_good t pane rows _ fresh o5 hs) (spl_nodup t pane rows _ fresh o6 c2) hfit, fun m hm => ((spl_mem t pane rows _ fresh m).1 hm).imp id (·.1)⟩
 ·rw [← o2]; exact ⟨t, e, fun m hm => .inl hm⟩
theorem move_ok {t : Tr} {W H : Int} (o1 : sizeB W H = true) (o4 : t.cnt ≤ 11) (o5 : t.good) (o6 : t.panes.Nodup) (o7 : t.fits W H = true) (pane dy : Int) : tofS (((t.mv pane dy).fit W H).flat 0) W H = some ((t.mv pane dy).fit W H) := by
 have hl := fits_least t W H o7
 have hm := mv_least t pane dy
 have hp : ((t.mv pane dy).fit W H).panes = t.panes := by rw [fit_panes, mv_panes]
 refine flat_ok o1 (by rw [fit_cnt, mv_cnt]; exact o4) ((good_panes _).2 (by rw [hp]; exact (good_panes t).1 o5)) (by rw [hp]; exact o6) (fit_fits _ W H (by omega) (by omega))
theorem move_keeps {l : List Pt} {W H : Int} {t : Tr} (e : tofS l W H = some t) (pane dy : Int) (hs : inB dy (-100) 100 = true) : ∃ t', tofS (moveL l W H pane dy) W H = some t' ∧ t'.panes = t.panes := by
 obtain ⟨o1, o2, o3, o4, o5, o6, o7⟩ := tofS_ok e
 unfold moveL
 rw [e]
 simp only [hs, if_true]
 split
 ·exact ⟨_, move_ok o1 o4 o5 o6 o7 pane dy, by rw [fit_panes, mv_panes]⟩
 ·rw [← o2]; exact ⟨t, e, rfl⟩
theorem kill_ok {t : Tr} {W H : Int} (o1 : sizeB W H = true) (o4 : t.cnt ≤ 11) (o5 : t.good) (o6 : t.panes.Nodup) (o7 : t.fits W H = true) (pane : Int) : tofS (((t.kl pane).fit W H).flat 0) W H = some ((t.kl pane).fit W H) := by
 have hl := fits_least t W H o7
 have hm := kl_least t pane
 have hc := kl_cnt t pane
 have hsb := kl_sub t pane
 have hp : ((t.kl pane).fit W H).panes = (t.kl pane).panes := fit_panes _ _ _
 refine flat_ok o1 (by rw [fit_cnt]; omega) ((good_panes _).2 (by rw [hp]; exact fun n hn => (good_panes t).1 o5 n (hsb.subset hn))) (by rw [hp]; exact hsb.nodup o6) (fit_fits _ W H (by omega) (by omega))
theorem kill_keeps {l : List Pt} {W H : Int} {t : Tr} (e : tofS l W H = some t) (pane : Int) : ∃ t', tofS (killL l W H pane) W H = some t' ∧ ∀ m ∈ t'.panes, m ∈ t.panes := by
 obtain ⟨o1, o2, o3, o4, o5, o6, o7⟩ := tofS_ok e
 unfold killL
 rw [e]
 simp only
 split
 ·exact ⟨_, kill_ok o1 o4 o5 o6 o7 pane, fun m hm => (kl_sub t pane).subset (by rw [← fit_panes (t.kl pane) W H]; exact hm)⟩
 ·rw [← o2]; exact ⟨t, e, fun m hm => hm⟩
end Go.Proofs.Ytlngajonfbnhiaa
