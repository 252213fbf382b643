/- (*tree).split: what the program answers. -/
import Derived.Test.YtgnecacoehedkaaDoorZFdI
import Derived.Test.YtgnecacoehedkaaDoorZSplitIn
import Derived.Test.YtgnecacoehedkaaDoorZDifI
namespace Go.Proofs.YtgnecacoehedkaaDoor
open Go.ChangeShapes Go.WideShapes Go.ChangeAt Go.RowKit
/-- The tree t2 lies at b, and nothing but the blocks bs turned. -/
def TreeTo (w w' : World) (t2 : Tr) (b : Nat) (bs : List Nat) : Prop := ∃ bs', TreeAt iBx w' t2 b bs' ∧ Turned w w' bs
set_option maxHeartbeats 2000000 in
set_option maxRecDepth 100000 in
theorem isplit (t t2 : Tr) (b : Nat) (bs : List Nat) (W H n f : Int) (rows : Bool) (C : Int) (S : Int) (HS : Hid (S = t.sid n rows W H / 2)) (hC : C = scd t W H n f rows) (HT2 : Hid (t2 = if C = 0 then t.spl n rows S f else t)) (w : World) (ht : TreeAt iBx w t b bs) (hnd : bs.Nodup) (hW : 2 ≤ W) (hW2 : W ≤ 24) (hH : 2 ≤ H) (hH2 : H ≤ 10) (hf : t.fits W H = true) (hpn : t.panes.Nodup) (hcn : t.cnt ≤ 11) :
  Calls Tryd.prog 19 #[.pointer (some ⟨b, 0, none⟩), .agg #[.int .i64 0, .int .i64 0, .int .i64 0, .int .i64 W, .int .i64 H], .int .i64 n, .int .i64 f, .bool rows] w fun e w' => e = .returned (.int .i64 C) ∧ TreeTo w w' t2 b bs := by
 have HB0 := hide (Go.Joins.below_alloc1 w (Obj.cells #[.int .i64 0, .int .i64 0, .int .i64 0, .int .i64 W, .int .i64 H] 32))
 have HT0 := hide (ht.alloc (Obj.cells #[.int .i64 0, .int .i64 0, .int .i64 0, .int .i64 W, .int .i64 H] 32))
 have PL := hide (BF.new w #[.int .i64 0, .int .i64 0, .int .i64 0, .int .i64 W, .int .i64 H] 32)
 have HND := hide hnd
 have HLT := hide ht.lt
 obtain ⟨pl, hpl⟩ : ∃ pl, t.panes.length = pl := ⟨_, rfl⟩
 have hpl2 : pl ≤ 1000 := by rw [← hpl]; have := panes_len t; omega
 have HPL := hide hpl
 have HCC := hide hC
 clear ht hnd
 by_cases hm : n ∈ t.panes
 ·by_cases hm2 : f ∈ t.panes
  ·have hc9 : C = 9 := by rw [hC]; unfold scd; rw [if_pos hm, if_pos hm2]
   clear hC HCC
   subst hc9
   clear hpl
   go_enter Tryd.func19, Tryd.ntmps19
   go_wp2_with fail
   refine (ipanes t b bs _ (unhide HT0) (by omega)).mono ?_
   rw [unhide HPL]
   rintro e w1 ⟨ap, capp, rfl, op, hb1⟩
   have HB1 := hide ((unhide HB0).trans (hb1.mono (unhide HB0).size))
   have HT1 := hide ((unhide HT0).below hb1)
   have PL1 := hide ((unhide PL).below hb1)
   have HP1 := hide (rowZ_at op)
   clear hb1 op HT0 PL HB0
   go_wp2_with fail
   refine (icontains ap capp _ t.panes n true (decide_eq_true hm).symm HPL (by omega) _ (unhide HP1)).mono ?_
   rintro e w2 ⟨rfl, hw⟩
   subst hw
   go_wp2_with fail
   refine (icontains ap capp _ t.panes f true (decide_eq_true hm2).symm HPL (by omega) _ (unhide HP1)).mono ?_
   rintro e w3 ⟨rfl, hw⟩
   subst hw
   go_wp2_with fail
   refine bodyPost_ret (v := .int .i64 9) (by simp [results, Tryd.results19, go_sem]) rfl ⟨rfl, bs, by rw [unhide HT2, if_neg (by decide)]; exact unhide HT1, Turned.of_below (unhide HB1) _⟩
  ·by_cases h6 : t.panes.length = 6
   ·have hc7 : C = 7 := by rw [hC]; unfold scd; rw [if_pos hm, if_neg hm2, if_pos h6]
    have hp6 : pl = 6 := hpl.symm.trans h6
    clear hC HCC h6 hpl
    subst hc7 hp6
    go_enter Tryd.func19, Tryd.ntmps19
    go_wp2_with fail
    refine (ipanes t b bs _ (unhide HT0) (by omega)).mono ?_
    rw [unhide HPL]
    rintro e w1 ⟨ap, capp, rfl, op, hb1⟩
    have HB1 := hide ((unhide HB0).trans (hb1.mono (unhide HB0).size))
    have HT1 := hide ((unhide HT0).below hb1)
    have PL1 := hide ((unhide PL).below hb1)
    have HP1 := hide (rowZ_at op)
    clear hb1 op HT0 PL HB0
    go_wp2_with fail
    refine (icontains ap capp _ t.panes n true (decide_eq_true hm).symm HPL (by omega) _ (unhide HP1)).mono ?_
    rintro e w2 ⟨rfl, hw⟩
    subst hw
    go_wp2_with fail
    refine (icontains ap capp _ t.panes f false (decide_eq_false hm2).symm HPL (by omega) _ (unhide HP1)).mono ?_
    rintro e w3 ⟨rfl, hw⟩
    subst hw
    go_wp2_with fail
    refine bodyPost_ret (v := .int .i64 7) (by simp [results, Tryd.results19, go_sem]) rfl ⟨rfl, bs, by rw [unhide HT2, if_neg (by decide)]; exact unhide HT1, Turned.of_below (unhide HB1) _⟩
   ·have hp6 : ¬ pl = 6 := fun e => h6 (hpl.trans e)
    have hp6' : ¬ (pl : Int) = 6 := by omega
    have hcs : C = if S < 2 then 10 else 0 := by rw [hC]; unfold scd; rw [if_pos hm, if_neg hm2, if_neg h6, ← unhide HS]
    clear hC HCC h6 hpl hp6
    by_cases hS : S < 2
    ·have hc10 : C = 10 := by rw [hcs, if_pos hS]
     clear hcs
     subst hc10
     go_enter Tryd.func19, Tryd.ntmps19
     go_wp2_with fail
     refine (ipanes t b bs _ (unhide HT0) (by omega)).mono ?_
     rw [unhide HPL]
     rintro e w1 ⟨ap, capp, rfl, op, hb1⟩
     have HB1 := hide ((unhide HB0).trans (hb1.mono (unhide HB0).size))
     have HT1 := hide ((unhide HT0).below hb1)
     have PL1 := hide ((unhide PL).below hb1)
     have HP1 := hide (rowZ_at op)
     clear hb1 op HT0 PL HB0
     go_wp2_with fail
     refine (icontains ap capp _ t.panes n true (decide_eq_true hm).symm HPL (by omega) _ (unhide HP1)).mono ?_
     rintro e w2 ⟨rfl, hw⟩
     subst hw
     go_wp2_with fail
     refine (icontains ap capp _ t.panes f false (decide_eq_false hm2).symm HPL (by omega) _ (unhide HP1)).mono ?_
     rintro e w3 ⟨rfl, hw⟩
     subst hw
     have a3 := (unhide PL1).S
     go_wp2_with fail
     refine (ifind n t b bs 0 0 0 W H _ (unhide HT1) (unhide HND) (by omega) (by omega) (by omega) (by omega) (by omega) (by omega) hf hpn).mono ?_
     rintro e w4 ⟨P, q0, q1, q2, q3, q4, rfl, hfd, hb4⟩
     rcases hfd with ⟨-, sb, rfl, hsp, hq3, hq4⟩ | ⟨h, -⟩
     rotate_left 1
     ·exact absurd hm h
     have HSP := hide (hsp.keep (w2 := w4.alloc (Obj.cells #[.int .i64 q0, .int .i64 q1, .int .i64 q2, .int .i64 q3, .int .i64 q4] 32)) (by simp) (fun k hk => by have := (unhide HT1).lt k hk; exact (((Below.refl w4.heap.size w4).alloc (Nat.le_refl _) _).block k (Nat.lt_of_lt_of_le this hb4.size))))
     have HB4 := hide (((unhide HB1).trans (hb4.mono (unhide HB1).size)).alloc (Nat.le_trans (unhide HB1).size hb4.size) (Obj.cells #[.int .i64 q0, .int .i64 q1, .int .i64 q2, .int .i64 q3, .int .i64 q4] 32))
     have HT4 := hide (((unhide HT1).below hb4).alloc (Obj.cells #[.int .i64 q0, .int .i64 q1, .int .i64 q2, .int .i64 q3, .int .i64 q4] 32))
     have Q4 := hide (BF.new w4 #[.int .i64 q0, .int .i64 q1, .int .i64 q2, .int .i64 q3, .int .i64 q4] 32)
     have HQR : Hid ((if rows then q4 else q3) = t.sid n rows W H) := by show _ = _; cases rows; exact hq3; exact hq4
     clear a3 PL1 HB1 HT1 hsp hq3 hq4 hb4
     have b4 := (unhide Q4).S
     go_wp2_with fail
     refine (iside q0 q1 q2 q3 q4 rows _).mono ?_
     rintro e w5 ⟨rfl, hb5⟩
     rw [unhide HQR]
     have HB5 := hide ((unhide HB4).trans (hb5.mono (unhide HB4).size))
     have HT5 := hide ((unhide HT4).below hb5)
     have HSP5 := hide ((unhide HSP).keep hb5.size (fun k hk => hb5.block k ((unhide HT4).lt k hk)))
     clear hb5 HB4 HT4 HSP b4 Q4
     obtain ⟨D, hD⟩ : ∃ D, D = t.sid n rows W H := ⟨_, rfl⟩
     rw [← hD]
     have hdd : D.tdiv 2 = S := by rw [Int.tdiv_eq_ediv_of_nonneg (by rw [hD]; have := sid_bd t n rows W H hf (by omega) (by omega); omega), hD]; exact (unhide HS).symm
     have hSb : 0 ≤ S ∧ S ≤ 500 := by have := sid_bd t n rows W H hf (by omega) (by omega); rw [unhide HS]; omega
     obtain ⟨hS0, hS1⟩ := hSb
     have HDD := hide hD
     clear hD
     go_wp2_with fail
     refine bodyPost_ret (v := .int .i64 10) (by simp [results, Tryd.results19, go_sem]) rfl ⟨rfl, bs, by rw [unhide HT2, if_neg (by decide)]; exact unhide HT5, Turned.of_below (unhide HB5) _⟩
    ·have hc0 : C = 0 := by rw [hcs, if_neg hS]
     clear hcs
     subst hc0
     go_enter Tryd.func19, Tryd.ntmps19
     go_wp2_with fail
     refine (ipanes t b bs _ (unhide HT0) (by omega)).mono ?_
     rw [unhide HPL]
     rintro e w1 ⟨ap, capp, rfl, op, hb1⟩
     have HB1 := hide ((unhide HB0).trans (hb1.mono (unhide HB0).size))
     have HT1 := hide ((unhide HT0).below hb1)
     have PL1 := hide ((unhide PL).below hb1)
     have HP1 := hide (rowZ_at op)
     clear hb1 op HT0 PL HB0
     go_wp2_with fail
     refine (icontains ap capp _ t.panes n true (decide_eq_true hm).symm HPL (by omega) _ (unhide HP1)).mono ?_
     rintro e w2 ⟨rfl, hw⟩
     subst hw
     go_wp2_with fail
     refine (icontains ap capp _ t.panes f false (decide_eq_false hm2).symm HPL (by omega) _ (unhide HP1)).mono ?_
     rintro e w3 ⟨rfl, hw⟩
     subst hw
     have a3 := (unhide PL1).S
     go_wp2_with fail
     refine (ifind n t b bs 0 0 0 W H _ (unhide HT1) (unhide HND) (by omega) (by omega) (by omega) (by omega) (by omega) (by omega) hf hpn).mono ?_
     rintro e w4 ⟨P, q0, q1, q2, q3, q4, rfl, hfd, hb4⟩
     rcases hfd with ⟨-, sb, rfl, hsp, hq3, hq4⟩ | ⟨h, -⟩
     rotate_left 1
     ·exact absurd hm h
     have HSP := hide (hsp.keep (w2 := w4.alloc (Obj.cells #[.int .i64 q0, .int .i64 q1, .int .i64 q2, .int .i64 q3, .int .i64 q4] 32)) (by simp) (fun k hk => by have := (unhide HT1).lt k hk; exact (((Below.refl w4.heap.size w4).alloc (Nat.le_refl _) _).block k (Nat.lt_of_lt_of_le this hb4.size))))
     have HB4 := hide (((unhide HB1).trans (hb4.mono (unhide HB1).size)).alloc (Nat.le_trans (unhide HB1).size hb4.size) (Obj.cells #[.int .i64 q0, .int .i64 q1, .int .i64 q2, .int .i64 q3, .int .i64 q4] 32))
     have HT4 := hide (((unhide HT1).below hb4).alloc (Obj.cells #[.int .i64 q0, .int .i64 q1, .int .i64 q2, .int .i64 q3, .int .i64 q4] 32))
     have Q4 := hide (BF.new w4 #[.int .i64 q0, .int .i64 q1, .int .i64 q2, .int .i64 q3, .int .i64 q4] 32)
     have HQR : Hid ((if rows then q4 else q3) = t.sid n rows W H) := by show _ = _; cases rows; exact hq3; exact hq4
     clear a3 PL1 HB1 HT1 hsp hq3 hq4 hb4
     have b4 := (unhide Q4).S
     go_wp2_with fail
     refine (iside q0 q1 q2 q3 q4 rows _).mono ?_
     rintro e w5 ⟨rfl, hb5⟩
     rw [unhide HQR]
     have HB5 := hide ((unhide HB4).trans (hb5.mono (unhide HB4).size))
     have HT5 := hide ((unhide HT4).below hb5)
     have HSP5 := hide ((unhide HSP).keep hb5.size (fun k hk => hb5.block k ((unhide HT4).lt k hk)))
     clear hb5 HB4 HT4 HSP b4 Q4
     obtain ⟨D, hD⟩ : ∃ D, D = t.sid n rows W H := ⟨_, rfl⟩
     rw [← hD]
     have hdd : D.tdiv 2 = S := by rw [Int.tdiv_eq_ediv_of_nonneg (by rw [hD]; have := sid_bd t n rows W H hf (by omega) (by omega); omega), hD]; exact (unhide HS).symm
     have hSb : 0 ≤ S ∧ S ≤ 500 := by have := sid_bd t n rows W H hf (by omega) (by omega); rw [unhide HS]; omega
     obtain ⟨hS0, hS1⟩ := hSb
     have HDD := hide hD
     clear hD
     generalize w5 = w6 at HB5 HT5 HSP5 ⊢
     obtain ⟨q1', q2', q3'⟩ := unhide HSP5
     have HSB := hide q2'
     have hsl : sb < w6.heap.size := q1'.lt
     have p1 : ∀ o, w6.cell? ⟨sb, o, none⟩ = (#[.int .i64 n, .bool false, .int .i64 0, .pointer none, .pointer none] : Array Value)[o]? := q1'.S
     have p2 := q1'.F
     have N1 := hide ((BF.new (((((w6.setCell ⟨sb, 0, none⟩ (.int .i64 0)).setCell ⟨sb, 1, none⟩ (.bool rows)).setCell ⟨sb, 2, none⟩ (.int .i64 S)).setCell ⟨sb, 3, none⟩ (.pointer (some ⟨w6.heap.size, 0, none⟩))).setCell ⟨sb, 4, none⟩ (.pointer (some ⟨w6.heap.size + 1, 0, none⟩))) #[.int .i64 n, .bool false, .int .i64 0, .pointer none, .pointer none] 58).alloc (Obj.cells #[.int .i64 f, .bool false, .int .i64 0, .pointer none, .pointer none] 58))
     rw [show (((((w6.setCell ⟨sb, 0, none⟩ (.int .i64 0)).setCell ⟨sb, 1, none⟩ (.bool rows)).setCell ⟨sb, 2, none⟩ (.int .i64 S)).setCell ⟨sb, 3, none⟩ (.pointer (some ⟨w6.heap.size, 0, none⟩))).setCell ⟨sb, 4, none⟩ (.pointer (some ⟨w6.heap.size + 1, 0, none⟩))).heap.size = w6.heap.size from by simp] at N1
     have N2 := hide (BF.new ((((((w6.setCell ⟨sb, 0, none⟩ (.int .i64 0)).setCell ⟨sb, 1, none⟩ (.bool rows)).setCell ⟨sb, 2, none⟩ (.int .i64 S)).setCell ⟨sb, 3, none⟩ (.pointer (some ⟨w6.heap.size, 0, none⟩))).setCell ⟨sb, 4, none⟩ (.pointer (some ⟨w6.heap.size + 1, 0, none⟩))).alloc (Obj.cells #[.int .i64 n, .bool false, .int .i64 0, .pointer none, .pointer none] 58)) #[.int .i64 f, .bool false, .int .i64 0, .pointer none, .pointer none] 58)
     rw [show ((((((w6.setCell ⟨sb, 0, none⟩ (.int .i64 0)).setCell ⟨sb, 1, none⟩ (.bool rows)).setCell ⟨sb, 2, none⟩ (.int .i64 S)).setCell ⟨sb, 3, none⟩ (.pointer (some ⟨w6.heap.size, 0, none⟩))).setCell ⟨sb, 4, none⟩ (.pointer (some ⟨w6.heap.size + 1, 0, none⟩))).alloc (Obj.cells #[.int .i64 n, .bool false, .int .i64 0, .pointer none, .pointer none] 58)).heap.size = w6.heap.size + 1 from by simp] at N2
     have G7 := hide (((put5' q1' (.int .i64 0) (.bool rows) (.int .i64 S) (.pointer (some ⟨w6.heap.size, 0, none⟩)) (.pointer (some ⟨w6.heap.size + 1, 0, none⟩))).alloc (Obj.cells #[.int .i64 n, .bool false, .int .i64 0, .pointer none, .pointer none] 58)).alloc (Obj.cells #[.int .i64 f, .bool false, .int .i64 0, .pointer none, .pointer none] 58))
     have TU := hide (((((((Turned.of_below (unhide HB5) bs).trans (Turned.set (bs := bs) (k := sb) (o := 0) (v := (.int .i64 0)) (unhide HSB))).trans (Turned.set (bs := bs) (k := sb) (o := 1) (v := (.bool rows)) (unhide HSB))).trans (Turned.set (bs := bs) (k := sb) (o := 2) (v := (.int .i64 S)) (unhide HSB))).trans (Turned.set (bs := bs) (k := sb) (o := 3) (v := (.pointer (some ⟨w6.heap.size, 0, none⟩))) (unhide HSB))).trans (Turned.set (bs := bs) (k := sb) (o := 4) (v := (.pointer (some ⟨w6.heap.size + 1, 0, none⟩))) (unhide HSB))).trans (Turned.of_below (Go.Joins.below_alloc2 (((((w6.setCell ⟨sb, 0, none⟩ (.int .i64 0)).setCell ⟨sb, 1, none⟩ (.bool rows)).setCell ⟨sb, 2, none⟩ (.int .i64 S)).setCell ⟨sb, 3, none⟩ (.pointer (some ⟨w6.heap.size, 0, none⟩))).setCell ⟨sb, 4, none⟩ (.pointer (some ⟨w6.heap.size + 1, 0, none⟩))) (Obj.cells #[.int .i64 n, .bool false, .int .i64 0, .pointer none, .pointer none] 58) (Obj.cells #[.int .i64 f, .bool false, .int .i64 0, .pointer none, .pointer none] 58)) bs))
     have TR := hide (q3' (((((((w6.setCell ⟨sb, 0, none⟩ (.int .i64 0)).setCell ⟨sb, 1, none⟩ (.bool rows)).setCell ⟨sb, 2, none⟩ (.int .i64 S)).setCell ⟨sb, 3, none⟩ (.pointer (some ⟨w6.heap.size, 0, none⟩))).setCell ⟨sb, 4, none⟩ (.pointer (some ⟨w6.heap.size + 1, 0, none⟩))).alloc (Obj.cells #[.int .i64 n, .bool false, .int .i64 0, .pointer none, .pointer none] 58)).alloc (Obj.cells #[.int .i64 f, .bool false, .int .i64 0, .pointer none, .pointer none] 58)) rows S w6.heap.size (w6.heap.size + 1) f (by simp; omega) (fun k hk hne => ((Go.Joins.below_alloc2 (((((w6.setCell ⟨sb, 0, none⟩ (.int .i64 0)).setCell ⟨sb, 1, none⟩ (.bool rows)).setCell ⟨sb, 2, none⟩ (.int .i64 S)).setCell ⟨sb, 3, none⟩ (.pointer (some ⟨w6.heap.size, 0, none⟩))).setCell ⟨sb, 4, none⟩ (.pointer (some ⟨w6.heap.size + 1, 0, none⟩))) (Obj.cells #[.int .i64 n, .bool false, .int .i64 0, .pointer none, .pointer none] 58) (Obj.cells #[.int .i64 f, .bool false, .int .i64 0, .pointer none, .pointer none] 58)).block k (by simpa using (unhide HT5).lt k hk)).trans (set5_block' _ _ _ _ _ _ _ k hne)) (unhide G7) (unhide N1) (unhide N2))
     clear q1' q2' q3' G7 N1 N2
     go_wp2_with fail
     obtain ⟨bs', hbs⟩ := unhide TR
     refine bodyPost_ret (v := .int .i64 0) (by simp [results, Tryd.results19, go_sem]) rfl ⟨rfl, bs', by rw [unhide HT2]; simpa using hbs, unhide TU⟩
 ·have hc5 : C = 5 := by rw [hC]; unfold scd; rw [if_neg hm]
  clear hC HCC
  subst hc5
  clear hpl
  go_enter Tryd.func19, Tryd.ntmps19
  go_wp2_with fail
  refine (ipanes t b bs _ (unhide HT0) (by omega)).mono ?_
  rw [unhide HPL]
  rintro e w1 ⟨ap, capp, rfl, op, hb1⟩
  have HB1 := hide ((unhide HB0).trans (hb1.mono (unhide HB0).size))
  have HT1 := hide ((unhide HT0).below hb1)
  have PL1 := hide ((unhide PL).below hb1)
  have HP1 := hide (rowZ_at op)
  clear hb1 op HT0 PL HB0
  go_wp2_with fail
  refine (icontains ap capp _ t.panes n false (decide_eq_false hm).symm HPL (by omega) _ (unhide HP1)).mono ?_
  rintro e w2 ⟨rfl, hw⟩
  subst hw
  go_wp2_with fail
  refine bodyPost_ret (v := .int .i64 5) (by simp [results, Tryd.results19, go_sem]) rfl ⟨rfl, bs, by rw [unhide HT2, if_neg (by decide)]; exact unhide HT1, Turned.of_below (unhide HB1) _⟩
end Go.Proofs.YtgnecacoehedkaaDoor
