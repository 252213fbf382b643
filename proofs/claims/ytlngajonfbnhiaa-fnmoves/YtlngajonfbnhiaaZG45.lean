/- Texts put together: MoveOI MoveAll. -/
import Derived.Test.YtlngajonfbnhiaaZMoveO
import Derived.Test.YtlngajonfbnhiaaZFtI
import Derived.Test.YtlngajonfbnhiaaZAppT
import Derived.Test.YtlngajonfbnhiaaZSpI
/- impl.MoveSplit: what the program answers. -/
namespace Go.Proofs.Ytlngajonfbnhiaa
open Go.ChangeShapes Go.WideShapes Go.ChangeAt Go.RowKit
set_option maxHeartbeats 1000000 in
set_option maxRecDepth 100000 in
theorem imoveout (a : Option Addr) (cap L : Nat) (l : List Pt) (HLL : Hid (l.length = L)) (hl : L ≤ 1048576) (W H : Int) (pane dy : Int) (c : Int) (l2 : List Pt) (HC : Hid (c = moveC l W H pane dy)) (HL2 : Hid (l2 = moveL l W H pane dy)) (w : World) (hr : RowV w a (cPt l)) :
  Calls Try.prog 7 #[.agg #[.slice a L cap], .int .i64 W, .int .i64 H, .int .i64 pane, .int .i64 dy] w fun e w' => ∃ a2 cap2, e = .returned (.tuple #[.agg #[.slice a2 l2.length cap2], .int .i64 c]) ∧ w'.ownsRow w.heap.size 53 5 (.slice a2 l2.length cap2) l2.length (cPt l2) ∧ Below w.heap.size w w' := by
 have HB0 := hide (Go.Joins.below_alloc2 w (.cells #[.slice a L cap] 26) (.cells #[.slice none 0 0] 26))
 have BZ := hide (BF.new (w.alloc (.cells #[.slice a L cap] 26)) #[.slice none 0 0] 26)
 rw [show (w.alloc (.cells #[.slice a L cap] 26)).heap.size = w.heap.size + 1 from by simp] at BZ
 obtain ⟨Q, hQ⟩ : ∃ Q, Q = tofS l W H := ⟨_, rfl⟩
 have T := hide (itreeof a cap L l HLL hl W H Q hQ _ (hr.below (unhide HB0)))
 have hcc := unhide HC
 have hll := unhide HL2
 unfold moveC at hcc
 unfold moveL at hll
 rw [← hQ] at hcc hll
 have HQ := hide hQ
 have HCC := hide hcc
 have HLC := hide hll
 clear hQ hr HC HL2 hcc hll
 go_enter Try.func7, Try.ntmps7
 go_wp2_with fail
 refine (unhide T).mono ?_
 rintro e w2 ⟨h2, hb2⟩
 have HB2 := hide ((unhide HB0).trans (hb2.mono (unhide HB0).size))
 have BZ2 := hide ((unhide BZ).below hb2)
 clear hb2 T BZ HB0
 have z2 := (unhide BZ2).S 0
 have z2f := (unhide BZ2).F 0
 cases Q with
 | none =>
  have h2' : e = .returned (.pointer none) := h2
  have hc1 : c = 1 := unhide HCC
  have hl1 : l2 = [] := unhide HLC
  clear h2 HCC HLC
  subst h2' hc1 hl1
  go_wp2_with fail
  refine bodyPost_ret (v := .tuple #[.agg #[.slice none 0 0], .int .i64 1]) (by simp [results, Try.results7, go_sem, z2]) rfl ⟨none, 0, rfl, World.ownsRow_nil _ _ _ _, ?_⟩
  exact Below.setCell (unhide HB2) (by exact Nat.le_succ _) _
 | some t =>
  obtain ⟨b, bs, rfl, ht2⟩ := h2
  obtain ⟨o1, o2, o3, o4, o5, o6, o7⟩ := tofS_ok (unhide HQ).symm
  have HNB : Hid (w.heap.size + 1 ∉ bs) := fun h => by have := ht2.2.1 _ h; simp only [World.size_alloc] at this; omega
  have HGE : Hid (∀ k ∈ bs, w.heap.size ≤ k) := fun k hk => by have := ht2.2.1 _ hk; simp only [World.size_alloc] at this; omega
  have HT2 := hide ht2.1
  have HND := hide ht2.2.2
  obtain ⟨hn1, hn2, hn3, hn4⟩ : 2 ≤ W ∧ W ≤ 24 ∧ 2 ≤ H ∧ H ≤ 10 := of_decide_eq_true o1
  have hszk := fits_szok t W H (by omega) (by omega) o7
  clear ht2 o1 o2 o3 o5
  cases hs : inB dy (-100) 100 with
  | false =>
   have hc4 : c = 4 := by have := unhide HCC; simpa [hs] using this
   have hl4 : l2 = [] := by have := unhide HLC; simpa [hs] using this
   have hno : ¬ (-100 ≤ dy ∧ dy ≤ 100) := of_decide_eq_false hs
   have hpp : dy < -100 ∨ (¬ dy < -100 ∧ 100 < dy) := by omega
   clear HCC HLC hno hs
   subst hc4 hl4
   rcases hpp with p1 | ⟨p1, p2⟩
   all_goals
    go_wp2_with fail
    refine bodyPost_ret (v := .tuple #[.agg #[.slice none 0 0], .int .i64 4]) (by simp [results, Try.results7, go_sem, z2]) rfl ⟨none, 0, rfl, World.ownsRow_nil _ _ _ _, ?_⟩
    exact Below.setCell (unhide HB2) (by exact Nat.le_succ _) _
  | true =>
   have hin : -100 ≤ dy ∧ dy ≤ 100 := of_decide_eq_true hs
   have p1 : ¬ dy < -100 := by omega
   have p2 : ¬ 100 < dy := by omega
   have hcc : c = spC t pane := by have := unhide HCC; simpa [hs] using this
   have hll : l2 = if spC t pane = 0 then ((t.mv pane dy).fit W H).flat 0 else t.flat 0 := by have := unhide HLC; simpa [hs] using this
   have T2 := hide (isplitof pane t b bs w2 (unhide HT2) (unhide HND) hszk o6)
   clear HCC HLC
   by_cases hsp : spC t pane = 0
   ·rw [hsp] at hcc
    rw [if_pos hsp] at hll
    subst hcc
    have HLL2 := hide hll
    have HN : Hid (l2.length = t.cnt) := by show _ = _; rw [hll, Tr.flat_len]; rw [fit_cnt, mv_cnt]
    have HSP := hide hsp
    clear hll hsp
    go_wp2_with fail
    refine (unhide T2).mono ?_
    rintro e w3 ⟨h3, hb3⟩
    unfold spT at h3
    rw [if_pos (unhide HSP)] at h3
    obtain ⟨sb, ob, rfl, hmv, hkl⟩ := h3
    have HB3 := hide ((unhide HB2).trans (hb3.mono (unhide HB2).size))
    have BZ3 := hide ((unhide BZ2).below hb3)
    clear hb3 z2 z2f HB2 BZ2 T2 HT2
    obtain ⟨r2, s2, bl2, br2, q1, q2, ⟨q3, q3'⟩, q4⟩ := hmv
    have G4 := hide (q1.set 2 (by simp [iBx]) (.int .i64 (s2 + dy)))
    have F4 : Hid (BF sb (iBx.node r2 (s2 + dy) bl2 br2) (w3.setCell ⟨sb, 2, none⟩ (.int .i64 (s2 + dy)))) := by show BF _ _ _; have := unhide G4; simp only [iBx] at this ⊢; simpa using this
    have HT5 := hide (q4 dy (w3.setCell ⟨sb, 2, none⟩ (.int .i64 (s2 + dy))) (Turned.set (by simp)) (unhide F4))
    have HB5 := hide ((unhide HB3).setCell (p := ⟨sb, 2, none⟩) (unhide HGE sb q2) (.int .i64 (s2 + dy)))
    have BZ5 := hide ((unhide BZ3).far ⟨sb, 2, none⟩ (.int .i64 (s2 + dy)) (fun h => unhide HNB (h ▸ q2)))
    have s1 : w3.cell? ⟨sb, 2, none⟩ = some (.int .i64 s2) := q1.S 2
    have s1f := q1.F 2
    have HND5 := HND
    have HSUB : Hid (∀ k ∈ bs, k ∈ bs) := fun _ h => h
    clear q1 q2 q4 hkl G4 F4 HB3 BZ3
    go_wp2_with fail
    generalize w3.setCell ⟨sb, 2, none⟩ (.int .i64 (s2 + dy)) = w5 at HT5 HB5 BZ5 ⊢
    refine (ifit (t.mv pane dy) b bs 0 0 0 W H w5 (unhide HT5) (unhide HND5) (by omega) (by omega) (by omega) (by omega) (by rw [(mv_least t pane dy).1]; exact (fits_least t W H o7).1) (by rw [(mv_least t pane dy).2]; exact (fits_least t W H o7).2) (by rw [mv_cnt]; omega)).mono ?_
    rintro e w6 ⟨rfl, ht6, hd6⟩
    have HB6 := hide ((unhide HB5).trans (hd6.below (fun k hk => unhide HGE k (unhide HSUB k hk)) (unhide HB5).size))
    have BZ6 := hide ((unhide BZ5).turned hd6 (fun h => unhide HNB (unhide HSUB _ h)))
    have HT6 := hide ht6
    clear ht6 hd6
    go_wp2_with fail
    refine (ilayout ((t.mv pane dy).fit W H) b bs w6 (unhide HT6) (by rw [fit_cnt, mv_cnt]; omega)).mono ?_
    rw [show ((t.mv pane dy).fit W H).cnt = t.cnt from by rw [fit_cnt, mv_cnt]]
    rintro e w7 ⟨a7, cap7, rfl, ho7, hb7⟩
    have HB7 := hide ((unhide HB6).trans (hb7.mono (unhide HB6).size))
    have BZ7 := hide ((unhide BZ6).below hb7)
    have HZ6 := hide (unhide BZ6).lt
    have HO7 := hide ho7
    rw [← unhide HLL2] at HO7
    have HLE7 : Hid (w.heap.size ≤ w6.heap.size) := (unhide HB6).size
    clear ho7 hb7
    have z7 := (unhide BZ7).S 0
    have z7f := (unhide BZ7).F 0
    go_wp2_with fail
    refine bodyPost_ret (v := .tuple #[.agg #[.slice a7 t.cnt cap7], .int .i64 0]) (by simp [results, Try.results7, go_sem, z7]) rfl ⟨a7, cap7, by rw [unhide HN], ?_, ?_⟩
    ·rw [unhide HN]; exact Go.Joins.ownsRow_le (ownsRow_setCell_below (unhide HO7) (unhide HZ6) _) (unhide HLE7)
    ·exact Below.setCell (unhide HB7) (by exact Nat.le_succ _) _
   ·rw [if_neg hsp] at hll
    have HLL2 := hide hll
    have HN : Hid (l2.length = t.cnt) := by show _ = _; rw [hll, Tr.flat_len]
    obtain ⟨C, hC⟩ : ∃ C, C = spC t pane := ⟨_, rfl⟩
    rw [← hC] at hcc
    have hC0 : ¬ C = 0 := by rw [hC]; exact hsp
    have HSP := hide hsp
    have HCe := hide hC
    subst hcc
    clear hll hsp hC
    go_wp2_with fail
    refine (unhide T2).mono ?_
    rintro e w3 ⟨h3, hb3⟩
    unfold spT at h3
    rw [if_neg (unhide HSP), ← unhide HCe] at h3
    subst h3
    have HB3 := hide ((unhide HB2).trans (hb3.mono (unhide HB2).size))
    have BZ3 := hide ((unhide BZ2).below hb3)
    have HT3 := hide ((unhide HT2).below hb3)
    clear hb3 z2 z2f HB2 BZ2 T2 HT2
    go_wp2_with fail
    refine (ilayout t b bs w3 (unhide HT3) (by omega)).mono ?_
    rintro e w7 ⟨a7, cap7, rfl, ho7, hb7⟩
    have HB7 := hide ((unhide HB3).trans (hb7.mono (unhide HB3).size))
    have BZ7 := hide ((unhide BZ3).below hb7)
    have HZ6 := hide (unhide BZ3).lt
    have HO7 := hide ho7
    rw [← unhide HLL2] at HO7
    have HLE7 : Hid (w.heap.size ≤ w3.heap.size) := (unhide HB3).size
    clear ho7 hb7
    have z7 := (unhide BZ7).S 0
    have z7f := (unhide BZ7).F 0
    go_wp2_with fail
    refine bodyPost_ret (v := .tuple #[.agg #[.slice a7 t.cnt cap7], .int .i64 c]) (by simp [results, Try.results7, go_sem, z7]) rfl ⟨a7, cap7, by rw [unhide HN], ?_, ?_⟩
    ·rw [unhide HN]; exact Go.Joins.ownsRow_le (ownsRow_setCell_below (unhide HO7) (unhide HZ6) _) (unhide HLE7)
    ·exact Below.setCell (unhide HB7) (by exact Nat.le_succ _) _
end Go.Proofs.Ytlngajonfbnhiaa

/- All that the walk names. -/
