/- impl.SplitArea: what the program answers. -/
import Derived.Test.YtpkogblbkndnlaaSplitO
import Derived.Test.YtpkogblbkndnlaaSplI
import Derived.Test.YtpkogblbkndnlaaAppT
import Derived.Test.YtpkogblbkndnlaaTofI
namespace Go.Proofs.Ytpkogblbkndnlaa
open Go.ChangeShapes Go.WideShapes Go.ChangeAt Go.RowKit
set_option maxHeartbeats 1000000 in
set_option maxRecDepth 100000 in
theorem isplitout (a : Option Addr) (cap L : Nat) (l : List Pt) (HLL : Hid (l.length = L)) (hl : L ≤ 1048576) (W H : Int) (pane fresh : Int) (rows : Bool) (c : Int) (l2 : List Pt) (HC : Hid (c = splitC l W H pane fresh rows)) (HL2 : Hid (l2 = splitL l W H pane fresh rows)) (w : World) (hr : RowV w a (cPt l)) :
    Calls Try.prog 7 #[.agg #[.slice a L cap], .int .i64 W, .int .i64 H, .int .i64 pane, .int .i64 fresh, .bool rows] w fun e w' => ∃ a2 cap2, e = .returned (.tuple #[.agg #[.slice a2 l2.length cap2], .int .i64 c]) ∧ w'.ownsRow w.heap.size 53 5 (.slice a2 l2.length cap2) l2.length (cPt l2) ∧ Below w.heap.size w w' := by
  have HB0 := hide (Go.Joins.below_alloc2 w (.cells #[.slice a L cap] 28) (.cells #[.slice none 0 0] 28))
  have BZ := hide (BF.new (w.alloc (.cells #[.slice a L cap] 28)) #[.slice none 0 0] 28)
  rw [show (w.alloc (.cells #[.slice a L cap] 28)).heap.size = w.heap.size + 1 from by simp] at BZ
  obtain ⟨Q, hQ⟩ : ∃ Q, Q = tofS l W H := ⟨_, rfl⟩
  have T := hide (itreeof a cap L l HLL hl W H Q hQ _ (hr.below (unhide HB0)))
  have hcc := unhide HC
  have hll := unhide HL2
  unfold splitC at hcc
  unfold splitL at hll
  rw [← hQ] at hcc hll
  have HQ := hide hQ
  have HCC := hide hcc
  have HLC := hide hll
  clear hQ hr HC HL2 hcc hll
  go_enter Try.func7, Try.ntmps7
  go_wp2_with fail
  refine (unhide T).mono ?_
  rintro e w2 ⟨h2, hb2⟩
  have HB2 := hide ((unhide HB0).trans (hb2.mono (unhide HB0).size))
  have BZ2 := hide ((unhide BZ).below hb2)
  clear hb2 T BZ HB0
  have z2 := (unhide BZ2).S 0
  have z2f := (unhide BZ2).F 0
  cases Q with
  | none =>
    have h2' : e = .returned (.pointer none) := h2
    have hc1 : c = 1 := unhide HCC
    have hl1 : l2 = [] := unhide HLC
    clear h2 HCC HLC
    subst h2' hc1 hl1
    go_wp2_with fail
    refine bodyPost_ret (v := .tuple #[.agg #[.slice none 0 0], .int .i64 1]) (by simp [results, Try.results7, go_sem, z2]) rfl ⟨none, 0, rfl, World.ownsRow_nil _ _ _ _, ?_⟩
    exact Below.setCell (unhide HB2) (by exact Nat.le_succ _) _
  | some t =>
    obtain ⟨b, bs, rfl, ht2⟩ := h2
    obtain ⟨o1, o2, o3, o4, o5, o6, o7⟩ := tofS_ok (unhide HQ).symm
    have HNB : Hid (w.heap.size + 1 ∉ bs) := fun h => by have := ht2.2.1 _ h; simp only [World.size_alloc] at this; omega
    have HGE : Hid (∀ k ∈ bs, w.heap.size ≤ k) := fun k hk => by have := ht2.2.1 _ hk; simp only [World.size_alloc] at this; omega
    have HT2 := hide ht2.1
    have HND := hide ht2.2.2
    obtain ⟨hn1, hn2, hn3, hn4⟩ : 2 ≤ W ∧ W ≤ 24 ∧ 2 ≤ H ∧ H ≤ 10 := of_decide_eq_true o1
    clear ht2 o1 o2 o3 o5
    cases hs : inB fresh 1 1000 with
    | false =>
      have hc4 : c = 4 := by have := unhide HCC; simpa [hs] using this
      have hl4 : l2 = [] := by have := unhide HLC; simpa [hs] using this
      have hpb : pnB fresh = false := hs
      clear HCC HLC hs
      subst hc4 hl4
      go_wp2_with (go_at_call 18; refine (ipnok fresh _).mono ?_; rintro e w3 ⟨rfl, rfl⟩; rw [hpb])
      refine bodyPost_ret (v := .tuple #[.agg #[.slice none 0 0], .int .i64 4]) (by simp [results, Try.results7, go_sem, z2]) rfl ⟨none, 0, rfl, World.ownsRow_nil _ _ _ _, ?_⟩
      exact Below.setCell (unhide HB2) (by exact Nat.le_succ _) _
    | true =>
      have hpb : pnB fresh = true := hs
      have hcc : c = scd t W H pane fresh rows := by have := unhide HCC; simpa [hs] using this
      have hll : l2 = if scd t W H pane fresh rows = 0 then (t.spl pane rows (t.sid pane rows W H / 2) fresh).flat 0 else t.flat 0 := by have := unhide HLC; simpa [hs] using this
      obtain ⟨t2, ht2⟩ : ∃ t2, t2 = if c = 0 then t.spl pane rows (t.sid pane rows W H / 2) fresh else t := ⟨_, rfl⟩
      have hlf : l2 = t2.flat 0 := by rw [hll, ht2, ← hcc]; split <;> rfl
      have hcn : t2.cnt ≤ 11 := by
        rw [ht2]; split
        · rename_i e
          rw [hcc] at e
          obtain ⟨e1, e2, e3, e4⟩ := scd_ok e
          exact spl_le o4 o6 e1 e3
        · exact o4
      have T2 := hide (isplit t t2 b bs W H pane fresh rows c _ rfl hcc ht2 w2 (unhide HT2) (unhide HND) hn1 hn2 hn3 hn4 o7 o6 o4)
      have HLF := hide hlf
      obtain ⟨N2, hN2⟩ : ∃ N2, t2.cnt = N2 := ⟨_, rfl⟩
      have HN2 := hide hN2
      have HN : Hid (l2.length = N2) := by show _ = _; rw [hlf, Tr.flat_len, hN2]
      clear HCC HLC hcc hll hlf ht2 hN2 hs HT2 HND o4 o6 o7
      go_wp2_with (go_at_call 18; refine (ipnok fresh _).mono ?_; rintro e w3 ⟨rfl, rfl⟩; rw [hpb])
      refine (unhide T2).mono ?_
      rintro e w3 ⟨rfl, bs3, ht3, hd3⟩
      have HB3 := hide ((unhide HB2).trans (hd3.below (unhide HGE) (unhide HB2).size))
      have BZ3 := hide ((unhide BZ2).turned hd3 (unhide HNB))
      have T3 := hide (ilayout t2 b bs3 w3 ht3 (by omega))
      rw [unhide HN2, ← unhide HLF] at T3
      clear hd3 ht3 z2 z2f HB2 BZ2 T2
      go_wp2_with fail
      refine (unhide T3).mono ?_
      rintro e w7 ⟨a7, cap7, rfl, ho7, hb7⟩
      have HB7 := hide ((unhide HB3).trans (hb7.mono (unhide HB3).size))
      have BZ7 := hide ((unhide BZ3).below hb7)
      have HZ6 := hide (unhide BZ3).lt
      have HO7 := hide ho7
      have HLE7 : Hid (w.heap.size ≤ w3.heap.size) := (unhide HB3).size
      clear ho7 hb7 T3
      have z7 := (unhide BZ7).S 0
      have z7f := (unhide BZ7).F 0
      go_wp2_with fail
      refine bodyPost_ret (v := .tuple #[.agg #[.slice a7 N2 cap7], .int .i64 c]) (by simp [results, Try.results7, go_sem, z7]) rfl ⟨a7, cap7, by rw [unhide HN], ?_, ?_⟩
      · rw [unhide HN]; exact Go.Joins.ownsRow_le (ownsRow_setCell_below (unhide HO7) (unhide HZ6) _) (unhide HLE7)
      · exact Below.setCell (unhide HB7) (by exact Nat.le_succ _) _
end Go.Proofs.Ytpkogblbkndnlaa
