/- Texts put together: KillOI KillAll SplitO. -/
import Derived.Test.YtgnecacoehedkaaDoorZG37
import Derived.Test.YtgnecacoehedkaaDoorZFtI
import Derived.Test.YtgnecacoehedkaaDoorZG31
import Derived.Test.YtgnecacoehedkaaDoorZSpI
import Derived.Test.YtgnecacoehedkaaDoorZSplitIn
/- impl.KillArea: what the program answers. -/
namespace Go.Proofs.YtgnecacoehedkaaDoor
open Go.ChangeShapes Go.WideShapes Go.ChangeAt Go.RowKit
theorem arr5 (cs : Array Value) (h : Shp iBx cs) : ∃ (i : Int) (r : Bool) (s : Int) (p q : Option Addr), cs = #[.int .i64 i, .bool r, .int .i64 s, .pointer p, .pointer q] := by
 rcases h with ⟨m, rfl⟩ | ⟨r, s, bl, br, rfl⟩
 ·exact ⟨m, false, 0, none, none, rfl⟩
 ·exact ⟨0, r, s, _, _, rfl⟩
set_option maxHeartbeats 1000000 in
set_option maxRecDepth 100000 in
theorem ikillout (a : Option Addr) (cap L : Nat) (l : List Pt) (HLL : Hid (l.length = L)) (hl : L ≤ 1048576) (W H : Int) (pane : Int) (c : Int) (l2 : List Pt) (HC : Hid (c = killC l W H pane)) (HL2 : Hid (l2 = killL l W H pane)) (w : World) (hr : RowV w a (cPt l)) :
  Calls Tryd.prog 11 #[.agg #[.slice a L cap], .int .i64 W, .int .i64 H, .int .i64 pane] w fun e w' => ∃ a2 cap2, e = .returned (.tuple #[.agg #[.slice a2 l2.length cap2], .int .i64 c]) ∧ w'.ownsRow w.heap.size 53 5 (.slice a2 l2.length cap2) l2.length (cPt l2) ∧ Below w.heap.size w w' := by
 have HB0 := hide (Go.Joins.below_alloc2 w (.cells #[.slice a L cap] 26) (.cells #[.slice none 0 0] 26))
 have BZ := hide (BF.new (w.alloc (.cells #[.slice a L cap] 26)) #[.slice none 0 0] 26)
 rw [show (w.alloc (.cells #[.slice a L cap] 26)).heap.size = w.heap.size + 1 from by simp] at BZ
 obtain ⟨Q, hQ⟩ : ∃ Q, Q = tofS l W H := ⟨_, rfl⟩
 have T := hide (itreeof a cap L l HLL hl W H Q hQ _ (hr.below (unhide HB0)))
 have hcc := unhide HC
 have hll := unhide HL2
 unfold killC at hcc
 unfold killL at hll
 rw [← hQ] at hcc hll
 have HQ := hide hQ
 have HCC := hide hcc
 have HLC := hide hll
 clear hQ hr HC HL2 hcc hll
 go_enter Tryd.func11, Tryd.ntmps11
 go_wp2_with fail
 refine (unhide T).mono ?_
 rintro e w2 ⟨h2, hb2⟩
 have HB2 := hide ((unhide HB0).trans (hb2.mono (unhide HB0).size))
 have BZ2 := hide ((unhide BZ).below hb2)
 clear hb2 T BZ HB0
 have z2 := (unhide BZ2).S 0
 have z2f := (unhide BZ2).F 0
 cases Q with
 | none =>
  have h2' : e = .returned (.pointer none) := h2
  have hc1 : c = 1 := unhide HCC
  have hl1 : l2 = [] := unhide HLC
  clear h2 HCC HLC
  subst h2' hc1 hl1
  go_wp2_with fail
  refine bodyPost_ret (v := .tuple #[.agg #[.slice none 0 0], .int .i64 1]) (by simp [results, Tryd.results11, go_sem, z2]) rfl ⟨none, 0, rfl, World.ownsRow_nil _ _ _ _, ?_⟩
  exact Below.setCell (unhide HB2) (by exact Nat.le_succ _) _
 | some t =>
  obtain ⟨b, bs, rfl, ht2⟩ := h2
  obtain ⟨o1, o2, o3, o4, o5, o6, o7⟩ := tofS_ok (unhide HQ).symm
  have HNB : Hid (w.heap.size + 1 ∉ bs) := fun h => by have := ht2.2.1 _ h; simp only [World.size_alloc] at this; omega
  have HGE : Hid (∀ k ∈ bs, w.heap.size ≤ k) := fun k hk => by have := ht2.2.1 _ hk; simp only [World.size_alloc] at this; omega
  have HT2 := hide ht2.1
  have HND := hide ht2.2.2
  obtain ⟨hn1, hn2, hn3, hn4⟩ : 2 ≤ W ∧ W ≤ 24 ∧ 2 ≤ H ∧ H ≤ 10 := of_decide_eq_true o1
  have hszk := fits_szok t W H (by omega) (by omega) o7
  clear ht2 o1 o2 o3 o5
  have hcc : c = spC t pane := by have := unhide HCC; exact this
  have hll : l2 = if spC t pane = 0 then ((t.kl pane).fit W H).flat 0 else t.flat 0 := by have := unhide HLC; exact this
  have T2 := hide (isplitof pane t b bs w2 (unhide HT2) (unhide HND) hszk o6)
  clear HCC HLC
  by_cases hsp : spC t pane = 0
  ·rw [hsp] at hcc
   rw [if_pos hsp] at hll
   subst hcc
   have HLL2 := hide hll
   have HN : Hid (l2.length = (t.kl pane).cnt) := by show _ = _; rw [hll, Tr.flat_len]; rw [fit_cnt]
   have HSP := hide hsp
   clear hll hsp
   go_wp2_with fail
   refine (unhide T2).mono ?_
   rintro e w3 ⟨h3, hb3⟩
   unfold spT at h3
   rw [if_pos (unhide HSP)] at h3
   obtain ⟨sb, ob, rfl, hmv, hkl⟩ := h3
   have HB3 := hide ((unhide HB2).trans (hb3.mono (unhide HB2).size))
   have BZ3 := hide ((unhide BZ2).below hb3)
   clear hb3 z2 z2f HB2 BZ2 T2 HT2
   obtain ⟨cs, hz, q1, q2, ⟨cs0, hz0, q3⟩, q4⟩ := hkl
   obtain ⟨i0, i1, i2, i3, i4, rfl⟩ := arr5 cs hz
   obtain ⟨u0, u1, u2, u3, u4, rfl⟩ := arr5 cs0 hz0
   have F4 := hide (put5 q3 (.int .i64 i0) (.bool i1) (.int .i64 i2) (.pointer i3) (.pointer i4))
   have TS : Hid (Turned w3 (((((w3.setCell ⟨sb, 0, none⟩ (.int .i64 i0)).setCell ⟨sb, 1, none⟩ (.bool i1)).setCell ⟨sb, 2, none⟩ (.int .i64 i2)).setCell ⟨sb, 3, none⟩ (.pointer i3)).setCell ⟨sb, 4, none⟩ (.pointer i4)) [sb]) := ((((Turned.set (by simp)).trans (Turned.set (by simp))).trans (Turned.set (by simp))).trans (Turned.set (by simp))).trans (Turned.set (by simp))
   obtain ⟨bs5, t5, sub5, nd5⟩ := q4 _ (unhide TS) (unhide F4)
   have HT5 := hide t5
   have HND5 := hide nd5
   have HSUB := hide sub5
   have HB5 := hide ((unhide HB3).trans ((unhide TS).below (B := w.heap.size) (fun k hk => by simp at hk; rw [hk]; exact unhide HGE sb q2) (unhide HB3).size))
   have BZ5 := hide ((unhide BZ3).turned (unhide TS) (fun h => by simp at h; exact unhide HNB (h ▸ q2)))
   have s1 := q1.S
   have s2 := q3.S
   have s2f := q3.F
   clear q1 q2 q3 q4 hmv F4 TS t5 sub5 nd5 HB3 BZ3 hz hz0
   go_wp2_with fail
   generalize ((((w3.setCell ⟨sb, 0, none⟩ (.int .i64 i0)).setCell ⟨sb, 1, none⟩ (.bool i1)).setCell ⟨sb, 2, none⟩ (.int .i64 i2)).setCell ⟨sb, 3, none⟩ (.pointer i3)).setCell ⟨sb, 4, none⟩ (.pointer i4) = w5 at HT5 HB5 BZ5 ⊢
   refine (ifit (t.kl pane) b bs5 0 0 0 W H w5 (unhide HT5) (unhide HND5) (by omega) (by omega) (by omega) (by omega) (Int.le_trans (kl_least t pane).1 (fits_least t W H o7).1) (Int.le_trans (kl_least t pane).2 (fits_least t W H o7).2) (by have := kl_cnt t pane; omega)).mono ?_
   rintro e w6 ⟨rfl, ht6, hd6⟩
   have HB6 := hide ((unhide HB5).trans (hd6.below (fun k hk => unhide HGE k (unhide HSUB k hk)) (unhide HB5).size))
   have BZ6 := hide ((unhide BZ5).turned hd6 (fun h => unhide HNB (unhide HSUB _ h)))
   have HT6 := hide ht6
   clear ht6 hd6
   go_wp2_with fail
   refine (ilayout ((t.kl pane).fit W H) b bs5 w6 (unhide HT6) (by rw [fit_cnt]; have := kl_cnt t pane; omega)).mono ?_
   rw [show ((t.kl pane).fit W H).cnt = (t.kl pane).cnt from by rw [fit_cnt]]
   rintro e w7 ⟨a7, cap7, rfl, ho7, hb7⟩
   have HB7 := hide ((unhide HB6).trans (hb7.mono (unhide HB6).size))
   have BZ7 := hide ((unhide BZ6).below hb7)
   have HZ6 := hide (unhide BZ6).lt
   have HO7 := hide ho7
   rw [← unhide HLL2] at HO7
   have HLE7 : Hid (w.heap.size ≤ w6.heap.size) := (unhide HB6).size
   clear ho7 hb7
   have z7 := (unhide BZ7).S 0
   have z7f := (unhide BZ7).F 0
   go_wp2_with fail
   refine bodyPost_ret (v := .tuple #[.agg #[.slice a7 (t.kl pane).cnt cap7], .int .i64 0]) (by simp [results, Tryd.results11, go_sem, z7]) rfl ⟨a7, cap7, by rw [unhide HN], ?_, ?_⟩
   ·rw [unhide HN]; exact Go.Joins.ownsRow_le (ownsRow_setCell_below (unhide HO7) (unhide HZ6) _) (unhide HLE7)
   ·exact Below.setCell (unhide HB7) (by exact Nat.le_succ _) _
  ·rw [if_neg hsp] at hll
   have HLL2 := hide hll
   have HN : Hid (l2.length = t.cnt) := by show _ = _; rw [hll, Tr.flat_len]
   obtain ⟨C, hC⟩ : ∃ C, C = spC t pane := ⟨_, rfl⟩
   rw [← hC] at hcc
   have hC0 : ¬ C = 0 := by rw [hC]; exact hsp
   have HSP := hide hsp
   have HCe := hide hC
   subst hcc
   clear hll hsp hC
   go_wp2_with fail
   refine (unhide T2).mono ?_
   rintro e w3 ⟨h3, hb3⟩
   unfold spT at h3
   rw [if_neg (unhide HSP), ← unhide HCe] at h3
   subst h3
   have HB3 := hide ((unhide HB2).trans (hb3.mono (unhide HB2).size))
   have BZ3 := hide ((unhide BZ2).below hb3)
   have HT3 := hide ((unhide HT2).below hb3)
   clear hb3 z2 z2f HB2 BZ2 T2 HT2
   go_wp2_with fail
   refine (ilayout t b bs w3 (unhide HT3) (by omega)).mono ?_
   rintro e w7 ⟨a7, cap7, rfl, ho7, hb7⟩
   have HB7 := hide ((unhide HB3).trans (hb7.mono (unhide HB3).size))
   have BZ7 := hide ((unhide BZ3).below hb7)
   have HZ6 := hide (unhide BZ3).lt
   have HO7 := hide ho7
   rw [← unhide HLL2] at HO7
   have HLE7 : Hid (w.heap.size ≤ w3.heap.size) := (unhide HB3).size
   clear ho7 hb7
   have z7 := (unhide BZ7).S 0
   have z7f := (unhide BZ7).F 0
   go_wp2_with fail
   refine bodyPost_ret (v := .tuple #[.agg #[.slice a7 t.cnt cap7], .int .i64 c]) (by simp [results, Tryd.results11, go_sem, z7]) rfl ⟨a7, cap7, by rw [unhide HN], ?_, ?_⟩
   ·rw [unhide HN]; exact Go.Joins.ownsRow_le (ownsRow_setCell_below (unhide HO7) (unhide HZ6) _) (unhide HLE7)
   ·exact Below.setCell (unhide HB7) (by exact Nat.le_succ _) _
end Go.Proofs.YtgnecacoehedkaaDoor

/- All that the walk names. -/

/- spec.SplitArea: what the specification answers. -/
namespace Go.Proofs.YtgnecacoehedkaaDoor
open Go.ChangeShapes Go.WideShapes Go.ChangeAt Go.RowKit
set_option maxHeartbeats 1000000 in
set_option maxRecDepth 100000 in
theorem ssplitout (a : Option Addr) (cap L : Nat) (l : List Pt) (HLL : Hid (l.length = L)) (hl : L ≤ 1048576) (W H : Int) (pane fresh : Int) (rows : Bool) (c : Int) (l2 : List Pt) (HC : Hid (c = splitC l W H pane fresh rows)) (HL2 : Hid (l2 = splitL l W H pane fresh rows)) (w : World) (hr : RowV w a (cPt l)) :
  Calls Tryd.prog 8 #[.agg #[.slice a L cap], .int .i64 W, .int .i64 H, .int .i64 pane, .int .i64 fresh, .bool rows] w fun e w' => ∃ a2 cap2, e = .returned (.tuple #[.agg #[.slice a2 l2.length cap2], .int .i64 c]) ∧ w'.ownsRow w.heap.size 53 5 (.slice a2 l2.length cap2) l2.length (cPt l2) ∧ Below w.heap.size w w' := by
 have HB0 := hide (Go.Joins.below_alloc2 w (.cells #[.slice a L cap] 26) (.cells #[.slice none 0 0] 26))
 have BA := hide ((BF.new w #[.slice a L cap] 26).alloc (.cells #[.slice none 0 0] 26))
 have BZ := hide (BF.new (w.alloc (.cells #[.slice a L cap] 26)) #[.slice none 0 0] 26)
 rw [show (w.alloc (.cells #[.slice a L cap] 26)).heap.size = w.heap.size + 1 from by simp] at BZ
 obtain ⟨Q, hQ⟩ : ∃ Q, Q = tofS l W H := ⟨_, rfl⟩
 obtain ⟨R, hR⟩ : ∃ R, R = (tofS l W H).isSome := ⟨_, rfl⟩
 have T := hide (sl05ok a cap L l HLL hl W H R hR _ (hr.below (unhide HB0)))
 rw [← hQ] at hR
 have HQ := hide hQ
 have HR := hide hr
 clear hQ hr
 go_enter Tryd.func8, Tryd.ntmps8
 go_wp2_with fail
 refine (unhide T).mono ?_
 rintro e w2 ⟨rfl, hb2⟩
 have HB2 := hide ((unhide HB0).trans (hb2.mono (unhide HB0).size))
 have A2 := hide ((unhide BA).below hb2)
 have BZ2 := hide ((unhide BZ).below hb2)
 clear hb2 T BA BZ HB0
 have c2 := (unhide A2).S
 have z2 := (unhide BZ2).S 0
 have z2f := (unhide BZ2).F 0
 have z0 := (unhide BZ2).S 0
 cases Q with
 | none =>
  have hcl : c = 1 ∧ l2 = [] := by have h1 := unhide HC; have h2 := unhide HL2; unfold splitC at h1; unfold splitL at h2; rw [← unhide HQ] at h1 h2; exact ⟨h1, h2⟩
  obtain ⟨hc1, hl1⟩ := hcl
  have hRf : R = false := hR
  clear HC HL2 hR
  subst hc1 hl1 hRf
  go_wp2_with fail
  refine bodyPost_ret (v := .tuple #[.agg #[.slice none 0 0], .int .i64 1]) (by simp [results, Tryd.results8, go_sem, z0]) rfl ⟨none, 0, rfl, World.ownsRow_nil _ _ _ _, ?_⟩
  refine Below.setCell ?_ (by exact Nat.le_succ _) _
  exact unhide HB2
 | some t =>
  have hRt : R = true := hR
  clear hR
  subst hRt
  cases hrg : inB fresh 1 1000 with
  | false =>
   have hcl : c = 4 ∧ l2 = [] := by have h1 := unhide HC; have h2 := unhide HL2; unfold splitC at h1; unfold splitL at h2; rw [← unhide HQ] at h1 h2; simp only [hrg, Bool.false_eq_true, if_false] at h1 h2; exact ⟨h1, h2⟩
   obtain ⟨hc4, hl4⟩ := hcl
   clear HC HL2
   subst hc4 hl4
   go_wp2_with (go_at_call 21; refine (sin fresh 1 1000 _).mono ?_; rintro e w3 ⟨rfl, rfl⟩; rw [hrg])
   refine bodyPost_ret (v := .tuple #[.agg #[.slice none 0 0], .int .i64 4]) (by simp [results, Tryd.results8, go_sem, z0]) rfl ⟨none, 0, rfl, World.ownsRow_nil _ _ _ _, ?_⟩
   refine Below.setCell ?_ (by exact Nat.le_succ _) _
   exact unhide HB2
  | true =>
   have T2 := hide (ssplitin a cap L l HLL t (unhide HQ).symm W H pane fresh rows c l2 hrg HC HL2 w2 ((unhide HR).below (unhide HB2)))
   have hn2 := splitL_bd l W H pane fresh rows t (unhide HQ).symm hrg
   rw [← unhide HL2] at hn2
   obtain ⟨n2, hn2'⟩ : ∃ n2, l2.length = n2 := ⟨_, rfl⟩
   have HN2 := hide hn2'
   rw [unhide HN2] at hn2 T2
   clear hn2'
   go_wp2_with (go_at_call 21; refine (sin fresh 1 1000 _).mono ?_; rintro e w3 ⟨rfl, rfl⟩; rw [hrg])
   refine (unhide T2).mono ?_
   rintro e w4 ⟨a4, cap4, rfl, hr4, hb4⟩
   have HB4 := hide ((unhide HB2).trans (hb4.mono (unhide HB2).size))
   have HZA : Hid (w.heap.size + 1 < w4.heap.size) := Nat.lt_of_lt_of_le (unhide BZ2).lt hb4.size
   have Z4 := hide (((unhide BZ2).below hb4).alloc (.cells #[.slice a4 n2 cap4] 26))
   have HR4 := hide (hr4.below (Go.Joins.below_alloc1 w4 (.cells #[.slice a4 n2 cap4] 26)))
   clear hr4 hb4 c2 z2 z2f
   go_wp2_with fail
   refine (sown a4 cap4 n2 l2 HN2 (by omega) (by omega) _ (unhide HR4)).mono ?_
   rintro e w5 ⟨a5, cap5, rfl, ho5, hb5⟩
   have Z5 := hide ((unhide Z4).below hb5)
   have HB5 := hide (((unhide HB4).alloc (unhide HB4).size (.cells #[.slice a4 n2 cap4] 26)).trans (hb5.mono (by have := (unhide HB4).size; simp; omega)))
   have HO5 := hide ho5
   have HZ4 : Hid (w.heap.size + 1 < w4.heap.size) := unhide HZA
   have HLW : Hid (w.heap.size ≤ w4.heap.size) := (unhide HB4).size
   clear ho5 hb5
   have z5 := (unhide Z5).S 0
   have z5f := (unhide Z5).F 0
   go_wp2_with fail
   refine bodyPost_ret (v := .tuple #[.agg #[.slice a5 n2 cap5], .int .i64 c]) (by simp [results, Tryd.results8, go_sem, z5]) rfl ⟨a5, cap5, by rw [unhide HN2], ?_, ?_⟩
   ·rw [unhide HN2]
    refine Go.Joins.ownsRow_le (base := w4.heap.size + 1) ?_ (by have := unhide HLW; omega)
    refine ownsRow_setCell_below ?_ (by have := unhide HZ4; exact Nat.lt_succ_of_lt this) _
    have o := unhide HO5
    simp only [World.size_alloc] at o
    exact o
   ·refine Below.setCell ?_ (by exact Nat.le_succ _) _
    exact unhide HB5
end Go.Proofs.YtgnecacoehedkaaDoor
