/- spec.FitLayout: what the specification answers. -/
import Derived.Test.YtlngajonfbnhiaaZFitIn
namespace Go.Proofs.Ytlngajonfbnhiaa
open Go.ChangeShapes Go.WideShapes Go.ChangeAt Go.RowKit
set_option maxHeartbeats 1000000 in
set_option maxRecDepth 100000 in
theorem sfitout (a : Option Addr) (cap L : Nat) (l : List Pt) (HLL : Hid (l.length = L)) (hl : L ≤ 1048576) (W H : Int) (nw nh : Int) (c : Int) (l2 : List Pt) (HC : Hid (c = fitC l W H nw nh)) (HL2 : Hid (l2 = fitL l W H nw nh)) (w : World) (hr : RowV w a (cPt l)) :
  Calls Try.prog 11 #[.agg #[.slice a L cap], .int .i64 W, .int .i64 H, .int .i64 nw, .int .i64 nh] w fun e w' => ∃ a2 cap2, e = .returned (.tuple #[.agg #[.slice a2 l2.length cap2], .int .i64 c]) ∧ w'.ownsRow w.heap.size 53 5 (.slice a2 l2.length cap2) l2.length (cPt l2) ∧ Below w.heap.size w w' := by
 have HB0 := hide (Go.Joins.below_alloc2 w (.cells #[.slice a L cap] 26) (.cells #[.slice none 0 0] 26))
 have BA := hide ((BF.new w #[.slice a L cap] 26).alloc (.cells #[.slice none 0 0] 26))
 have BZ := hide (BF.new (w.alloc (.cells #[.slice a L cap] 26)) #[.slice none 0 0] 26)
 rw [show (w.alloc (.cells #[.slice a L cap] 26)).heap.size = w.heap.size + 1 from by simp] at BZ
 obtain ⟨Q, hQ⟩ : ∃ Q, Q = tofS l W H := ⟨_, rfl⟩
 obtain ⟨R, hR⟩ : ∃ R, R = (tofS l W H).isSome := ⟨_, rfl⟩
 have T := hide (sl05ok a cap L l HLL hl W H R hR _ (hr.below (unhide HB0)))
 rw [← hQ] at hR
 have HQ := hide hQ
 have HR := hide hr
 clear hQ hr
 go_enter Try.func11, Try.ntmps11
 go_wp2_with fail
 refine (unhide T).mono ?_
 rintro e w2 ⟨rfl, hb2⟩
 have HB2 := hide ((unhide HB0).trans (hb2.mono (unhide HB0).size))
 have A2 := hide ((unhide BA).below hb2)
 have BZ2 := hide ((unhide BZ).below hb2)
 clear hb2 T BA BZ HB0
 have c2 := (unhide A2).S
 have z2 := (unhide BZ2).S 0
 have z2f := (unhide BZ2).F 0
 have z0 := (unhide BZ2).S 0
 cases Q with
 | none =>
  have hcl : c = 1 ∧ l2 = [] := by have h1 := unhide HC; have h2 := unhide HL2; unfold fitC at h1; unfold fitL at h2; rw [← unhide HQ] at h1 h2; exact ⟨h1, h2⟩
  obtain ⟨hc1, hl1⟩ := hcl
  have hRf : R = false := hR
  clear HC HL2 hR
  subst hc1 hl1 hRf
  go_wp2_with fail
  refine bodyPost_ret (v := .tuple #[.agg #[.slice none 0 0], .int .i64 1]) (by simp [results, Try.results11, go_sem, z0]) rfl ⟨none, 0, rfl, World.ownsRow_nil _ _ _ _, ?_⟩
  refine Below.setCell ?_ (by exact Nat.le_succ _) _
  exact unhide HB2
 | some t =>
  have hRt : R = true := hR
  clear hR
  subst hRt
  cases hrg : sizeB nw nh with
  | false =>
   have hcl : c = 4 ∧ l2 = [] := by have h1 := unhide HC; have h2 := unhide HL2; unfold fitC at h1; unfold fitL at h2; rw [← unhide HQ] at h1 h2; simp only [hrg, Bool.false_eq_true, if_false] at h1 h2; exact ⟨h1, h2⟩
   obtain ⟨hc4, hl4⟩ := hcl
   clear HC HL2
   subst hc4 hl4
   go_wp2_with (go_at_call 27; refine (ssize nw nh _).mono ?_; rintro e w3 ⟨rfl, rfl⟩; rw [hrg])
   refine bodyPost_ret (v := .tuple #[.agg #[.slice none 0 0], .int .i64 4]) (by simp [results, Try.results11, go_sem, z0]) rfl ⟨none, 0, rfl, World.ownsRow_nil _ _ _ _, ?_⟩
   refine Below.setCell ?_ (by exact Nat.le_succ _) _
   exact unhide HB2
  | true =>
   have T2 := hide (sfitin a cap L l HLL t (unhide HQ).symm W H nw nh c l2 hrg HC HL2 w2 ((unhide HR).below (unhide HB2)))
   have hn2 := fitL_bd l W H nw nh t (unhide HQ).symm hrg
   rw [← unhide HL2] at hn2
   obtain ⟨n2, hn2'⟩ : ∃ n2, l2.length = n2 := ⟨_, rfl⟩
   have HN2 := hide hn2'
   rw [unhide HN2] at hn2 T2
   clear hn2'
   go_wp2_with (go_at_call 27; refine (ssize nw nh _).mono ?_; rintro e w3 ⟨rfl, rfl⟩; rw [hrg])
   refine (unhide T2).mono ?_
   rintro e w4 ⟨a4, cap4, rfl, hr4, hb4⟩
   have HB4 := hide ((unhide HB2).trans (hb4.mono (unhide HB2).size))
   have HZA : Hid (w.heap.size + 1 < w4.heap.size) := Nat.lt_of_lt_of_le (unhide BZ2).lt hb4.size
   have Z4 := hide (((unhide BZ2).below hb4).alloc (.cells #[.slice a4 n2 cap4] 26))
   have HR4 := hide (hr4.below (Go.Joins.below_alloc1 w4 (.cells #[.slice a4 n2 cap4] 26)))
   clear hr4 hb4 c2 z2 z2f
   go_wp2_with fail
   refine (sown a4 cap4 n2 l2 HN2 (by omega) (by omega) _ (unhide HR4)).mono ?_
   rintro e w5 ⟨a5, cap5, rfl, ho5, hb5⟩
   have Z5 := hide ((unhide Z4).below hb5)
   have HB5 := hide (((unhide HB4).alloc (unhide HB4).size (.cells #[.slice a4 n2 cap4] 26)).trans (hb5.mono (by have := (unhide HB4).size; simp; omega)))
   have HO5 := hide ho5
   have HZ4 : Hid (w.heap.size + 1 < w4.heap.size) := unhide HZA
   have HLW : Hid (w.heap.size ≤ w4.heap.size) := (unhide HB4).size
   clear ho5 hb5
   have z5 := (unhide Z5).S 0
   have z5f := (unhide Z5).F 0
   go_wp2_with fail
   refine bodyPost_ret (v := .tuple #[.agg #[.slice a5 n2 cap5], .int .i64 c]) (by simp [results, Try.results11, go_sem, z5]) rfl ⟨a5, cap5, by rw [unhide HN2], ?_, ?_⟩
   ·rw [unhide HN2]
    refine Go.Joins.ownsRow_le (base := w4.heap.size + 1) ?_ (by have := unhide HLW; omega)
    refine ownsRow_setCell_below ?_ (by have := unhide HZ4; exact Nat.lt_succ_of_lt this) _
    have o := unhide HO5
    simp only [World.size_alloc] at o
    exact o
   ·refine Below.setCell ?_ (by exact Nat.le_succ _) _
    exact unhide HB5
end Go.Proofs.Ytlngajonfbnhiaa
