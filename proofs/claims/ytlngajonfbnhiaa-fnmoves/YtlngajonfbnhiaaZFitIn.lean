/- FitLayout: the specification's inner function. -/
import Derived.Test.YtlngajonfbnhiaaZFtS
import Derived.Test.YtlngajonfbnhiaaZPutS
import Derived.Test.YtlngajonfbnhiaaZG23
namespace Go.Proofs.Ytlngajonfbnhiaa
open Go.ChangeShapes Go.WideShapes Go.ChangeAt Go.RowKit
attribute [local go_sem ↓] run_mn
attribute [local go_sem ↓] run_mx
def fitL (l : List Pt) (W H nw nh : Int) : List Pt := match tofS l W H with
 | none => []
 | some t => if sizeB nw nh = true then (if t.lw ≤ nw ∧ t.lh ≤ nh then (t.fit nw nh).flat 0 else t.flat 0) else []
def fitC (l : List Pt) (W H nw nh : Int) : Int := match tofS l W H with
 | none => 1
 | some t => if sizeB nw nh = true then (if t.lw ≤ nw ∧ t.lh ≤ nh then 0 else 10) else 4
theorem fitL_bd (l : List Pt) (W H nw nh : Int) (t : Tr) (h : tofS l W H = some t) (hs : sizeB nw nh = true) : 0 < (fitL l W H nw nh).length ∧ (fitL l W H nw nh).length ≤ 11 := by
 have h4 := (tofS_ok h).2.2.2.1
 have h5 := t.cnt_pos
 unfold fitL
 rw [h]
 simp only [hs, if_true]
 split
 ·rw [Tr.flat_len, fit_cnt]; omega
 ·rw [Tr.flat_len]; omega
theorem fitL_le (l : List Pt) (W H nw nh : Int) : (fitL l W H nw nh).length ≤ 13 := by
 cases h : tofS l W H with
 | none => unfold fitL; rw [h]; simp
 | some t =>
  cases hs : sizeB nw nh with
  | false => unfold fitL; rw [h]; simp [hs]
  | true => have := fitL_bd l W H nw nh t h hs; omega
set_option maxHeartbeats 1000000 in
set_option maxRecDepth 100000 in
theorem sfit_no (t : Tr) (b : Nat) (bs : List Nat) (W H : Int) (w : World) (ht : TreeAt sBx w t b bs) (h1 : 2 ≤ W ∧ W ≤ 1000) (h2 : 2 ≤ H ∧ H ≤ 1000) (hno : ¬ (t.lw ≤ W ∧ t.lh ≤ H)) (hcnt : t.cnt ≤ 1000) :
  Calls Try.prog 50 #[.pointer (some ⟨b, 0, none⟩), .int .i64 W, .int .i64 H] w fun e w' => e = .returned (.bool false) ∧ w' = w := by
 cases t using Tr.ind with
 | pane n => exact absurd ⟨h1.1, h2.1⟩ hno
 | split r s l t _ _ =>
  obtain ⟨bl, br, Ls, Rs, rfl, hbf, htl, htr⟩ := ht
  have HTL := hide htl
  have HTR := hide htr
  have c2 : w.cell? ⟨b, 2, none⟩ = some (.bool r) := hbf.S 2
  have c3 : w.cell? ⟨b, 3, none⟩ = some (.bool false) := hbf.S 3
  have c4 : w.cell? ⟨b, 4, none⟩ = some (.pointer (some ⟨bl, 0, none⟩)) := hbf.S 4
  have c5 : w.cell? ⟨b, 5, none⟩ = some (.pointer (some ⟨br, 0, none⟩)) := hbf.S 5
  simp only [Tr.cnt] at hcnt
  have bl1 := least_bd l
  have bl2 := least_bd t
  have LE1 := hide (sleast l bl Ls w htl (by omega))
  have LE2 := hide (sleast t br Rs w htr (by omega))
  obtain ⟨aw, g1⟩ : ∃ x, x = l.lw := ⟨_, rfl⟩
  obtain ⟨ah, g2⟩ : ∃ x, x = l.lh := ⟨_, rfl⟩
  obtain ⟨cw, g3⟩ : ∃ x, x = t.lw := ⟨_, rfl⟩
  obtain ⟨ch, g4⟩ : ∃ x, x = t.lh := ⟨_, rfl⟩
  rw [← g1, ← g2] at LE1
  rw [← g3, ← g4] at LE2
  have bd : 2 ≤ aw ∧ aw ≤ 2000 ∧ 2 ≤ ah ∧ ah ≤ 2000 ∧ 2 ≤ cw ∧ cw ≤ 2000 ∧ 2 ≤ ch ∧ ch ≤ 2000 := by omega
  obtain ⟨h1a, h1b⟩ := h1
  obtain ⟨h2a, h2b⟩ := h2
  cases r
  ·simp only [Tr.lw, Tr.lh, Bool.false_eq_true, if_false, ← g1, ← g2, ← g3, ← g4] at hno
   clear hbf htl htr bl1 bl2 g1 g2 g3 g4
   by_cases q1 : W < aw + cw
   ·clear hno
    go_enter Try.func50, Try.ntmps50
    go_wp2_with fail
    refine (unhide LE1).mono ?_
    rintro e w0 ⟨rfl, rfl⟩
    go_wp2_with fail
    refine (unhide LE2).mono ?_
    rintro e w0' ⟨rfl, rfl⟩
    go_wp2_with fail
    go_ret
    exact ⟨rfl, rfl⟩
   ·have q2 : H < mx ah ch := by
     by_cases h : H < mx ah ch
     ·exact h
     ·exact absurd ⟨by omega, by omega⟩ hno
    clear hno
    go_enter Try.func50, Try.ntmps50
    go_wp2_with fail
    refine (unhide LE1).mono ?_
    rintro e w0 ⟨rfl, rfl⟩
    go_wp2_with fail
    refine (unhide LE2).mono ?_
    rintro e w0' ⟨rfl, rfl⟩
    go_wp2_with fail
    go_ret
    exact ⟨rfl, rfl⟩
  ·simp only [Tr.lw, Tr.lh, if_true, ← g1, ← g2, ← g3, ← g4] at hno
   clear hbf htl htr bl1 bl2 g1 g2 g3 g4
   by_cases q1 : H < ah + ch
   ·clear hno
    go_enter Try.func50, Try.ntmps50
    go_wp2_with fail
    refine (unhide LE1).mono ?_
    rintro e w0 ⟨rfl, rfl⟩
    go_wp2_with fail
    refine (unhide LE2).mono ?_
    rintro e w0' ⟨rfl, rfl⟩
    go_wp2_with fail
    go_ret
    exact ⟨rfl, rfl⟩
   ·have q2 : W < mx aw cw := by
     by_cases h : W < mx aw cw
     ·exact h
     ·exact absurd ⟨by omega, by omega⟩ hno
    clear hno
    go_enter Try.func50, Try.ntmps50
    go_wp2_with fail
    refine (unhide LE1).mono ?_
    rintro e w0 ⟨rfl, rfl⟩
    go_wp2_with fail
    refine (unhide LE2).mono ?_
    rintro e w0' ⟨rfl, rfl⟩
    go_wp2_with fail
    go_ret
    exact ⟨rfl, rfl⟩
set_option maxHeartbeats 1000000 in
set_option maxRecDepth 100000 in
theorem sfitin (a : Option Addr) (cap L : Nat) (l : List Pt) (HLL : Hid (l.length = L)) (t : Tr) {W H : Int} (hQ : tofS l W H = some t) (_ _ nw nh c : Int) (l2 : List Pt) (hs : sizeB nw nh = true) (HC : Hid (c = fitC l W H nw nh)) (HL2 : Hid (l2 = fitL l W H nw nh)) (w : World) (hr : RowV w a (cPt l)) :
  Calls Try.prog 28 #[.agg #[.slice a L cap], .int .i64 nw, .int .i64 nh] w fun e w' => ∃ a2 cap2, e = .returned (.tuple #[.agg #[.slice a2 l2.length cap2], .int .i64 c]) ∧ RowV w' a2 (cPt l2) ∧ Below w.heap.size w w' := by
 obtain ⟨o1, o2, o3, o4, o5, o6, o7⟩ := tofS_ok hQ
 have hL11 : L ≤ 11 := by rw [← unhide HLL]; omega
 have hcc := unhide HC
 have hll := unhide HL2
 unfold fitC at hcc
 unfold fitL at hll
 rw [hQ] at hcc hll
 simp only [hs, if_true] at hcc hll
 have HB0 := hide (Go.Joins.below_alloc2 w (.cells #[.slice a L cap] 26) (.cells #[.slice none 0 0] 26))
 have BA := hide ((BF.new w #[.slice a L cap] 26).alloc (.cells #[.slice none 0 0] 26))
 have BZ := hide (BF.new (w.alloc (.cells #[.slice a L cap] 26)) #[.slice none 0 0] 26)
 rw [show (w.alloc (.cells #[.slice a L cap] 26)).heap.size = w.heap.size + 1 from by simp] at BZ
 have T := hide (sof a cap l L HLL hL11 t 0 _ ⟨[], by rw [List.drop_zero, List.append_nil]; exact o2⟩ (hr.below (unhide HB0)))
 have HR := hide hr
 have HLC : Hid (t.cnt = L) := by show _ = _; rw [← unhide HLL]; exact o3
 have HLF := hide o2
 obtain ⟨hn1, hn2, hn3, hn4⟩ : 2 ≤ nw ∧ nw ≤ 24 ∧ 2 ≤ nh ∧ nh ≤ 10 := of_decide_eq_true hs
 clear hr o1 o2 o3 o5 o6 o7 HC HL2 hQ
 by_cases hft : t.lw ≤ nw ∧ t.lh ≤ nh
 ·rw [if_pos hft] at hcc hll
  obtain ⟨f1, f2⟩ := hft
  subst hcc
  have HLL2 := hide hll
  have hn : l2.length = t.cnt := by rw [hll, Tr.flat_len, fit_cnt]
  rw [hn]
  clear hn hll
  go_enter Try.func28, Try.ntmps28
  go_wp2_with fail
  refine (unhide T).mono ?_
  rintro e w2 ⟨b, bs, rfl, ht2, hb2⟩
  have HB2 := hide ((unhide HB0).trans (hb2.mono (unhide HB0).size))
  have BZ2 := hide ((unhide BZ).below hb2)
  have HNB : Hid (w.heap.size + 1 ∉ bs) := fun h => by have := ht2.2.1 _ h; simp only [World.size_alloc] at this; omega
  have HGE : Hid (∀ k ∈ bs, w.heap.size ≤ k) := fun k hk => by have := ht2.2.1 _ hk; simp only [World.size_alloc] at this; omega
  have HT2 := hide ht2.1
  have HND := hide ht2.2.2
  clear ht2 hb2 T BA BZ HB0
  go_wp2_with fail
  refine (sfit t b bs nw nh w2 (unhide HT2) (unhide HND) (by omega) (by omega) f1 f2 (by omega)).mono ?_
  rintro e w3 ⟨rfl, ht3, hd3⟩
  have HB3 := hide ((unhide HB2).trans (hd3.below (unhide HGE) (unhide HB2).size))
  have BZ3 := hide ((unhide BZ2).turned hd3 (unhide HNB))
  have HT3 := hide ht3
  clear ht3 hd3
  go_wp2_with fail
  refine (slayout (t.fit nw nh) b bs w3 (unhide HT3) (by rw [fit_cnt]; omega)).mono ?_
  rw [fit_cnt]
  rintro e w4 ⟨a4, cap4, rfl, ho4, hb4⟩
  have HB4 := hide ((unhide HB3).trans (hb4.mono (unhide HB3).size))
  have BZ4 := hide ((unhide BZ3).below hb4)
  have HZ3 := hide (unhide BZ3).lt
  have HO4 := hide ho4
  rw [← unhide HLL2] at HO4
  clear ho4 hb4
  have z4 := (unhide BZ4).S 0
  have z4f := (unhide BZ4).F 0
  go_wp2_with fail
  refine bodyPost_ret (v := .tuple #[.agg #[.slice a4 t.cnt cap4], .int .i64 0]) (by simp [results, Try.results28, go_sem, z4]) rfl ⟨a4, cap4, rfl, ?_, ?_⟩
  ·exact row_own (unhide HO4) (unhide HZ3)
  ·exact Below.setCell (unhide HB4) (by exact Nat.le_succ _) _
 ·rw [if_neg hft] at hcc hll
  subst hcc
  have hll' : l2 = l := by rw [hll]; exact (unhide HLF).symm
  subst hll'
  rw [unhide HLL]
  clear hll
  go_enter Try.func28, Try.ntmps28
  go_wp2_with fail
  refine (unhide T).mono ?_
  rintro e w2 ⟨b, bs, rfl, ht2, hb2⟩
  have HB2 := hide ((unhide HB0).trans (hb2.mono (unhide HB0).size))
  have BZ2 := hide ((unhide BZ).below hb2)
  have BA2 := hide ((unhide BA).below hb2)
  have HT2 := hide ht2.1
  clear ht2 hb2 T BA BZ HB0
  go_wp2_with fail
  refine (sfit_no t b bs nw nh w2 (unhide HT2) (by omega) (by omega) hft (by omega)).mono ?_
  rintro e w3 ⟨rfl, rfl⟩
  have z4 := (unhide BZ2).S 0
  have z4f := (unhide BZ2).F 0
  have y4 := (unhide BA2).S 0
  go_wp2_with fail
  refine bodyPost_ret (v := .tuple #[.agg #[.slice a L cap], .int .i64 10]) (by simp [results, Try.results28, go_sem, z4]) rfl ⟨a, cap, rfl, ?_, ?_⟩
  ·exact row_far (unhide HR) (unhide HB2) (Nat.le_refl _) (by exact Nat.le_succ _)
  ·exact Below.setCell (unhide HB2) (by exact Nat.le_succ _) _
end Go.Proofs.Ytlngajonfbnhiaa
