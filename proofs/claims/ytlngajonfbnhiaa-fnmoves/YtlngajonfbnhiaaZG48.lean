/- Texts put together: FitOI FitAll LayF MvwAll. -/
import Derived.Test.YtlngajonfbnhiaaZFitO
import Derived.Test.YtlngajonfbnhiaaZFtI
import Derived.Test.YtlngajonfbnhiaaZAppT
import Derived.Test.YtlngajonfbnhiaaZLayK
import Derived.Test.YtlngajonfbnhiaaZFitIn
import Derived.Test.YtlngajonfbnhiaaZG40
import Derived.Test.YtlngajonfbnhiaaZG45
import Derived.Test.YtlngajonfbnhiaaZMoveO
/- impl.FitLayout: what the program answers. -/
namespace Go.Proofs.Ytlngajonfbnhiaa
open Go.ChangeShapes Go.WideShapes Go.ChangeAt Go.RowKit
set_option maxHeartbeats 1000000 in
set_option maxRecDepth 100000 in
theorem ifitout (a : Option Addr) (cap L : Nat) (l : List Pt) (HLL : Hid (l.length = L)) (hl : L ≤ 1048576) (W H : Int) (nw nh : Int) (c : Int) (l2 : List Pt) (HC : Hid (c = fitC l W H nw nh)) (HL2 : Hid (l2 = fitL l W H nw nh)) (w : World) (hr : RowV w a (cPt l)) :
  Calls Try.prog 10 #[.agg #[.slice a L cap], .int .i64 W, .int .i64 H, .int .i64 nw, .int .i64 nh] w fun e w' => ∃ a2 cap2, e = .returned (.tuple #[.agg #[.slice a2 l2.length cap2], .int .i64 c]) ∧ w'.ownsRow w.heap.size 53 5 (.slice a2 l2.length cap2) l2.length (cPt l2) ∧ Below w.heap.size w w' := by
 have HB0 := hide (Go.Joins.below_alloc2 w (.cells #[.slice a L cap] 26) (.cells #[.slice none 0 0] 26))
 have BZ := hide (BF.new (w.alloc (.cells #[.slice a L cap] 26)) #[.slice none 0 0] 26)
 rw [show (w.alloc (.cells #[.slice a L cap] 26)).heap.size = w.heap.size + 1 from by simp] at BZ
 obtain ⟨Q, hQ⟩ : ∃ Q, Q = tofS l W H := ⟨_, rfl⟩
 have T := hide (itreeof a cap L l HLL hl W H Q hQ _ (hr.below (unhide HB0)))
 have hcc := unhide HC
 have hll := unhide HL2
 unfold fitC at hcc
 unfold fitL at hll
 rw [← hQ] at hcc hll
 have HQ := hide hQ
 have HCC := hide hcc
 have HLC := hide hll
 clear hQ hr HC HL2 hcc hll
 go_enter Try.func10, Try.ntmps10
 go_wp2_with fail
 refine (unhide T).mono ?_
 rintro e w2 ⟨h2, hb2⟩
 have HB2 := hide ((unhide HB0).trans (hb2.mono (unhide HB0).size))
 have BZ2 := hide ((unhide BZ).below hb2)
 clear hb2 T BZ HB0
 have z2 := (unhide BZ2).S 0
 have z2f := (unhide BZ2).F 0
 cases Q with
 | none =>
  have h2' : e = .returned (.pointer none) := h2
  have hc1 : c = 1 := unhide HCC
  have hl1 : l2 = [] := unhide HLC
  clear h2 HCC HLC
  subst h2' hc1 hl1
  go_wp2_with fail
  refine bodyPost_ret (v := .tuple #[.agg #[.slice none 0 0], .int .i64 1]) (by simp [results, Try.results10, go_sem, z2]) rfl ⟨none, 0, rfl, World.ownsRow_nil _ _ _ _, ?_⟩
  exact Below.setCell (unhide HB2) (by exact Nat.le_succ _) _
 | some t =>
  obtain ⟨b, bs, rfl, ht2⟩ := h2
  obtain ⟨o1, o2, o3, o4, o5, o6, o7⟩ := tofS_ok (unhide HQ).symm
  have HNB : Hid (w.heap.size + 1 ∉ bs) := fun h => by have := ht2.2.1 _ h; simp only [World.size_alloc] at this; omega
  have HGE : Hid (∀ k ∈ bs, w.heap.size ≤ k) := fun k hk => by have := ht2.2.1 _ hk; simp only [World.size_alloc] at this; omega
  have HT2 := hide ht2.1
  have HND := hide ht2.2.2
  clear ht2 o1 o2 o3 o5 o6 o7
  cases hs : sizeB nw nh with
  | false =>
   have hc4 : c = 4 := by have := unhide HCC; simpa [hs] using this
   have hl4 : l2 = [] := by have := unhide HLC; simpa [hs] using this
   clear HCC HLC
   subst hc4 hl4
   go_wp2_with (go_at_call 25; refine (isize nw nh _).mono ?_; rintro e w3 ⟨rfl, rfl⟩; rw [hs])
   refine bodyPost_ret (v := .tuple #[.agg #[.slice none 0 0], .int .i64 4]) (by simp [results, Try.results10, go_sem, z2]) rfl ⟨none, 0, rfl, World.ownsRow_nil _ _ _ _, ?_⟩
   exact Below.setCell (unhide HB2) (by exact Nat.le_succ _) _
  | true =>
   obtain ⟨hn1, hn2, hn3, hn4⟩ : 2 ≤ nw ∧ nw ≤ 24 ∧ 2 ≤ nh ∧ nh ≤ 10 := of_decide_eq_true hs
   have T2 := hide (ineeds t b bs w2 (unhide HT2) (by omega))
   obtain ⟨qw, g1⟩ : ∃ x, x = t.lw := ⟨_, rfl⟩
   obtain ⟨qh, g2⟩ : ∃ x, x = t.lh := ⟨_, rfl⟩
   rw [← g1, ← g2] at T2
   go_wp2_with (go_at_call 25; refine (isize nw nh _).mono ?_; rintro e w3 ⟨rfl, rfl⟩; rw [hs])
   refine (unhide T2).mono ?_
   rintro e w3 ⟨rfl, hb3⟩
   have HB3 := hide (((unhide HB2).trans (hb3.mono (unhide HB2).size)).alloc (Nat.le_trans (unhide HB2).size hb3.size) (.cells #[.int .i64 0, .int .i64 0, .int .i64 0, .int .i64 qw, .int .i64 qh] 32))
   have BZ3 := hide (((unhide BZ2).below hb3).alloc (.cells #[.int .i64 0, .int .i64 0, .int .i64 0, .int .i64 qw, .int .i64 qh] 32))
   have HT3 := hide (((unhide HT2).below hb3).alloc (.cells #[.int .i64 0, .int .i64 0, .int .i64 0, .int .i64 qw, .int .i64 qh] 32))
   clear hb3 T2 HB2 BZ2 HT2 z2 z2f
   by_cases hft : t.lw ≤ nw ∧ t.lh ≤ nh
   ·have hc0 : c = 0 := by have := unhide HCC; simpa [hs, hft] using this
    have hll : l2 = (t.fit nw nh).flat 0 := by have := unhide HLC; simpa [hs, hft] using this
    obtain ⟨f1, f2⟩ := hft
    have p1 : ¬ nw < qw := by omega
    have p2 : ¬ nh < qh := by omega
    have HLL2 := hide hll
    have hn : l2.length = t.cnt := by rw [hll, Tr.flat_len, fit_cnt]
    have HN := hide hn
    have HF1 := hide f1
    have HF2 := hide f2
    clear hn hll HCC HLC f1 f2 g1 g2
    subst hc0
    go_wp2_with fail
    generalize w3.alloc (Obj.cells #[.int .i64 0, .int .i64 0, .int .i64 0, .int .i64 qw, .int .i64 qh] 32) = w4 at HB3 BZ3 HT3 ⊢
    refine (ifit t b bs 0 0 0 nw nh w4 (unhide HT3) (unhide HND) (by omega) (by omega) (by omega) (by omega) (unhide HF1) (unhide HF2) (by omega)).mono ?_
    rintro e w5 ⟨rfl, ht5, hd5⟩
    have HB5 := hide ((unhide HB3).trans (hd5.below (unhide HGE) (unhide HB3).size))
    have BZ5 := hide ((unhide BZ3).turned hd5 (unhide HNB))
    have HT5 := hide ht5
    clear ht5 hd5
    go_wp2_with fail
    refine (ilayout (t.fit nw nh) b bs w5 (unhide HT5) (by rw [fit_cnt]; omega)).mono ?_
    rw [fit_cnt]
    rintro e w6 ⟨a6, cap6, rfl, ho6, hb6⟩
    have HB6 := hide ((unhide HB5).trans (hb6.mono (unhide HB5).size))
    have BZ6 := hide ((unhide BZ5).below hb6)
    have HZ5 := hide (unhide BZ5).lt
    have HO6 := hide ho6
    rw [← unhide HLL2] at HO6
    have HLE : Hid (w.heap.size ≤ w5.heap.size) := (unhide HB5).size
    clear ho6 hb6
    have z6 := (unhide BZ6).S 0
    have z6f := (unhide BZ6).F 0
    go_wp2_with fail
    refine bodyPost_ret (v := .tuple #[.agg #[.slice a6 t.cnt cap6], .int .i64 0]) (by simp [results, Try.results10, go_sem, z6]) rfl ⟨a6, cap6, by rw [unhide HN], ?_, ?_⟩
    ·rw [unhide HN]; exact Go.Joins.ownsRow_le (ownsRow_setCell_below (unhide HO6) (unhide HZ5) _) (unhide HLE)
    ·exact Below.setCell (unhide HB6) (by exact Nat.le_succ _) _
   ·have hc10 : c = 10 := by have := unhide HCC; simpa [hs, hft] using this
    have hll : l2 = t.flat 0 := by have := unhide HLC; simpa [hs, hft] using this
    have HLL2 := hide hll
    have hn : l2.length = t.cnt := by rw [hll, Tr.flat_len]
    have HN := hide hn
    have hft' : ¬ (qw ≤ nw ∧ qh ≤ nh) := by rw [g1, g2]; exact hft
    clear hn hll HCC HLC g1 g2 hft
    subst hc10
    have hpp : (nw < qw) ∨ (¬ nw < qw ∧ nh < qh) := by omega
    clear hft'
    rcases hpp with p1 | ⟨p1, p2⟩
    all_goals
     go_wp2_with fail
     generalize w3.alloc (Obj.cells #[.int .i64 0, .int .i64 0, .int .i64 0, .int .i64 qw, .int .i64 qh] 32) = w5 at HB3 BZ3 HT3 ⊢
     refine (ilayout t b bs w5 (unhide HT3) (by omega)).mono ?_
     rintro e w6 ⟨a6, cap6, rfl, ho6, hb6⟩
     have HB6 := hide ((unhide HB3).trans (hb6.mono (unhide HB3).size))
     have BZ6 := hide ((unhide BZ3).below hb6)
     have HZ5 := hide (unhide BZ3).lt
     have HO6 := hide ho6
     rw [← unhide HLL2] at HO6
     have HLE : Hid (w.heap.size ≤ w5.heap.size) := (unhide HB3).size
     clear ho6 hb6
     have z6 := (unhide BZ6).S 0
     have z6f := (unhide BZ6).F 0
     go_wp2_with fail
     refine bodyPost_ret (v := .tuple #[.agg #[.slice a6 t.cnt cap6], .int .i64 10]) (by simp [results, Try.results10, go_sem, z6]) rfl ⟨a6, cap6, by rw [unhide HN], ?_, ?_⟩
     ·rw [unhide HN]; exact Go.Joins.ownsRow_le (ownsRow_setCell_below (unhide HO6) (unhide HZ5) _) (unhide HLE)
     ·exact Below.setCell (unhide HB6) (by exact Nat.le_succ _) _
end Go.Proofs.Ytlngajonfbnhiaa

/- All that FnExactFitLayout's walk names. -/

/- What is fitted of a right layout is a right layout. Plain mathematics. -/
namespace Go.Proofs.Ytlngajonfbnhiaa
open Go.ChangeShapes Go.WideShapes Go.ChangeAt Go.RowKit
theorem fit_keeps {l : List Pt} {W H nw nh : Int} {t : Tr} (e : tofS l W H = some t) (hs : sizeB nw nh = true) (h0 : t.lw ≤ nw ∧ t.lh ≤ nh) : ∃ t', tofS (fitL l W H nw nh) nw nh = some t' ∧ t'.panes = t.panes := by
 obtain ⟨o1, o2, o3, o4, o5, o6, o7⟩ := tofS_ok e
 unfold fitL
 rw [e]
 simp only [hs, if_true, if_pos h0]
 have hp : (t.fit nw nh).panes = t.panes := fit_panes _ _ _
 exact ⟨_, flat_ok hs (by rw [fit_cnt]; exact o4) ((good_panes _).2 (by rw [hp]; exact (good_panes t).1 o5)) (by rw [hp]; exact o6) (fit_fits _ nw nh h0.1 h0.2), hp⟩
end Go.Proofs.Ytlngajonfbnhiaa

/- All that FnMoves' walk names. -/
