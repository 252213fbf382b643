/- Texts put together: VwL VwK TokL CaQ. -/
import Derived.Test.YtmmnoepcklfonaaGreatDoorZRwL
import Derived.Test.YtmmnoepcklfonaaGreatDoorZG46
import Derived.Test.YtmmnoepcklfonaaGreatDoorZG13
import Derived.Test.YtmmnoepcklfonaaGreatDoorZG10
import Derived.Lib.LaidTab
import Derived.LaidMore
import Derived.Test.YtmmnoepcklfonaaGreatDoorZCaI
import Derived.Test.YtmmnoepcklfonaaGreatDoorZCaS
/- Views in the law's own words: their size, their copies, two that are alike. -/
namespace Go.Proofs.YtmmnoepcklfonaaGreatDoor
open Go.ChangeShapes Go.WideShapes Go.ChangeAt Go.RowKit
set_option linter.unusedVariables false
set_option maxHeartbeats 2000000 in
set_option maxRecDepth 100000 in
theorem szVw (nb fr vw vh : Int) (fu : Bool) (a : Option Addr) (cap n : Nat) (l : List (Int × ByteArray)) (HN : Hid (l.length = n)) (Y : Nat) (hY : Y ≤ 1048576) (hl : Hid (n ≤ maxLen)) (hsz : Hid (∀ k (h : k < l.length), l[k].2.size ≤ maxLen)) (w : World) (hr : RowV w a (cE l)) :
    Calls Tryz.prog 5 #[.agg #[.int .i64 nb, .int .i64 fr, .bool fu, .int .i64 vw, .int .i64 vh, .slice a n cap], .int .i64 (Y : Int)] w fun e w' => ∃ x : Int, e = .returned (.int .i64 x) ∧ Below w.heap.size w w' ∧ (x = -1 ∨ ∃ z : Nat, x = (z : Int) ∧ z + n ≤ Y ∧ n ≤ 1048576 ∧ ∀ k (h : k < l.length), l[k].2.size ≤ 1048576) := by
  have HB := hide (Go.Joins.below_alloc1 w (.cells #[.int .i64 nb, .int .i64 fr, .bool fu, .int .i64 vw, .int .i64 vh, .slice a n cap] 29))
  have HR := hide (hr.below (unhide HB))
  clear hr
  go_enter Tryz.func5, Tryz.ntmps5
  go_wp2_with fail
  refine (szRows a cap n l HN Y hY (unhide hl) (unhide hsz) _ (unhide HR)).mono ?_
  rintro e w2 ⟨x, rfl, hb2, hx⟩
  have HB2 := hide ((unhide HB).trans (hb2.mono (unhide HB).size))
  clear hb2 HB HR
  rcases hx with rfl | ⟨z, rfl, hz, h1, h2⟩
  · go_wp2_with fail
    go_ret
    exact ⟨_, rfl, unhide HB2, .inl rfl⟩
  · have hz0 : ¬ (z : Int) < 0 := by omega
    have H1 := hide h1
    have H2 := hide h2
    clear h1 h2
    go_wp2_with fail
    go_ret
    exact ⟨_, rfl, unhide HB2, .inr ⟨z, rfl, hz, unhide H1, unhide H2⟩⟩
set_option maxHeartbeats 2000000 in
set_option maxRecDepth 100000 in
theorem toVw (nb fr vw vh : Int) (fu : Bool) (a : Option Addr) (cap n : Nat) (l : List (Int × ByteArray)) (HN : Hid (l.length = n)) (hl : n ≤ 1048576) (w : World) (hr : RowV w a (cE l)) :
    Calls Tryz.prog 8 #[.agg #[.int .i64 nb, .int .i64 fr, .bool fu, .int .i64 vw, .int .i64 vh, .slice a n cap]] w fun e w' => ∃ g, e = .returned (.agg #[.int .i64 nb, .int .i64 fr, .bool fu, .int .i64 vw, .int .i64 vh, .slice (some ⟨g, 0, none⟩) n n]) ∧ w'.ownsRow w.heap.size 71 2 (.slice (some ⟨g, 0, none⟩) n n) n (cE l) ∧ Below w.heap.size w w' := by
  have HR := hide hr
  obtain rfl : n = l.length := (unhide HN).symm
  clear hr HN
  have HB0 := hide (Go.Joins.below_alloc3 w (Obj.cells #[.int .i64 nb, .int .i64 fr, .bool fu, .int .i64 vw, .int .i64 vh, .slice a l.length cap] 29) (Obj.cells #[.int .i64 0, .int .i64 0, .bool false, .int .i64 0, .int .i64 0, .slice none 0 0] 40) (Obj.cells #[.int .i64 nb, .int .i64 fr, .bool fu, .int .i64 vw, .int .i64 vh, .slice none 0 0] 40))
  go_enter Tryz.func8, Tryz.ntmps8
  go_wp2_with fail
  refine (copyRow a cap l hl _ ((unhide HR).below (unhide HB0))).mono ?_
  rintro e w2 ⟨rfl, ho2, hb2⟩
  simp only [World.size_alloc] at ho2
  obtain ⟨hc2, hf2⟩ := bcell hb2
  have x0 : ∀ o, w2.cell? ⟨w.heap.size + 1, o, none⟩ = (#[.int .i64 0, .int .i64 0, .bool false, .int .i64 0, .int .i64 0, .slice none 0 0] : Array Value)[o]? := fun o => by
    rw [hc2 _ _ (by simp), World.cell?_alloc_past _ _ _ (by simp), show (⟨w.heap.size + 1, o, none⟩ : Addr) = ⟨(w.alloc (Obj.cells #[.int .i64 nb, .int .i64 fr, .bool fu, .int .i64 vw, .int .i64 vh, .slice a l.length cap] 29)).heap.size, o, none⟩ from by simp]; exact World.cell?_alloc_mark _ _ _ _ o
  have x1 : ∀ o, w2.frozen? ⟨w.heap.size + 1, o, none⟩ = false := fun o => (hf2 _ _ (by simp)).trans (by simp [go_sem])
  have y0 : ∀ o, w2.cell? ⟨w.heap.size + 1 + 1, o, none⟩ = (#[.int .i64 nb, .int .i64 fr, .bool fu, .int .i64 vw, .int .i64 vh, .slice none 0 0] : Array Value)[o]? := fun o => by
    rw [hc2 _ _ (by simp), show (⟨w.heap.size + 1 + 1, o, none⟩ : Addr) = ⟨((w.alloc (Obj.cells #[.int .i64 nb, .int .i64 fr, .bool fu, .int .i64 vw, .int .i64 vh, .slice a l.length cap] 29)).alloc (Obj.cells #[.int .i64 0, .int .i64 0, .bool false, .int .i64 0, .int .i64 0, .slice none 0 0] 40)).heap.size, o, none⟩ from by simp]; exact World.cell?_alloc_mark _ _ _ _ o
  have y1 : ∀ o, w2.frozen? ⟨w.heap.size + 1 + 1, o, none⟩ = false := fun o => (hf2 _ _ (by simp)).trans (by simp [go_sem])
  have HO2 := hide ho2
  have HB2 := hide ((unhide HB0).trans (hb2.mono (unhide HB0).size))
  clear ho2 hb2 hc2 hf2
  go_wp2_with fail
  refine bodyPost_ret (v := .agg #[.int .i64 nb, .int .i64 fr, .bool fu, .int .i64 vw, .int .i64 vh, .slice (some ⟨w.heap.size + 1 + 1 + 1, 0, none⟩) l.length l.length]) (by simp [results, Tryz.results8, go_sem, x0]) rfl ⟨w.heap.size + 1 + 1 + 1, rfl, ?_, ?_⟩
  · have hl1 : w.heap.size + 1 < w.heap.size + 1 + 1 + 1 := by omega
    have hl2 : w.heap.size + 1 + 1 < w.heap.size + 1 + 1 + 1 := by omega
    refine Go.Joins.ownsRow_le (base := w.heap.size + 1 + 1 + 1) ?_ (by omega)
    repeat refine ownsRow_setCell_below ?_ (by first | exact hl1 | exact hl2) _
    exact unhide HO2
  · have hl1 : w.heap.size ≤ w.heap.size + 1 := by omega
    have hl2 : w.heap.size ≤ w.heap.size + 1 + 1 := by omega
    repeat refine Below.setCell ?_ (by first | exact hl1 | exact hl2) _
    exact unhide HB2
set_option maxHeartbeats 2000000 in
set_option maxRecDepth 100000 in
theorem eqVw (nb fr vw vh : Int) (fu : Bool) (a c : Option Addr) (cap cap2 n : Nat) (l : List (Int × ByteArray)) (HN : Hid (l.length = n)) (hl : n ≤ 1048576) (w : World) (hr : RowV w a (cE l)) (hr2 : RowV w c (cE l)) :
    Calls Tryz.prog 11 #[.agg #[.int .i64 nb, .int .i64 fr, .bool fu, .int .i64 vw, .int .i64 vh, .slice a n cap], .agg #[.int .i64 nb, .int .i64 fr, .bool fu, .int .i64 vw, .int .i64 vh, .slice c n cap2]] w fun e w' => e = .returned (.bool true) ∧ Below w.heap.size w w' := by
  have HB := hide (Go.Joins.below_alloc2 w (.cells #[.int .i64 nb, .int .i64 fr, .bool fu, .int .i64 vw, .int .i64 vh, .slice a n cap] 40) (.cells #[.int .i64 nb, .int .i64 fr, .bool fu, .int .i64 vw, .int .i64 vh, .slice c n cap2] 40))
  have HR := hide (hr.below (unhide HB))
  have HR2 := hide (hr2.below (unhide HB))
  have n0 : (nb != nb) = false := by simp
  have n1 : (fr != fr) = false := by simp
  have n2 : (fu != fu) = false := by simp
  have n3 : (vw != vw) = false := by simp
  have n4 : (vh != vh) = false := by simp
  clear hr hr2
  obtain rfl : n = l.length := (unhide HN).symm
  clear HN
  go_enter Tryz.func11, Tryz.ntmps11
  go_wp2_with fail
  refine (sameRow a c cap cap2 l hl _ (unhide HR) (unhide HR2)).mono ?_
  rintro e w2 ⟨rfl, hb2⟩
  have HB2 := hide ((unhide HB).trans (hb2.mono (unhide HB).size))
  clear hb2 HB HR HR2
  go_wp2_with fail
  go_ret
  exact ⟨rfl, unhide HB2⟩
end Go.Proofs.YtmmnoepcklfonaaGreatDoor

/- Views: what the laws' own helpers mark, and tell of marked ones. -/
namespace Go.Proofs.YtmmnoepcklfonaaGreatDoor
open Go.ChangeShapes Go.WideShapes Go.ChangeAt Go.RowKit
set_option linter.unusedVariables false
set_option maxHeartbeats 2000000 in
set_option maxRecDepth 100000 in
theorem markVw (nb fr vw vh : Int) (fu : Bool) (a : Option Addr) (n cap lo hi k0 : Nat) (Q : Int) (HQ : Hid (Q = ((k0 + n * 2 : Nat) : Int))) (xs : List Value) (h1 : 0 < k0) (hk0 : k0 + n * 2 ≤ 3000000) (w : World) (h : HeldZ 2 w lo hi 71 (.slice a n cap) n xs) :
    Calls Tryz.prog 13 #[.agg #[.int .i64 nb, .int .i64 fr, .bool fu, .int .i64 vw, .int .i64 vh, .slice a n cap], .int .i64 (k0 : Int)] w fun e w' => e = .returned (.int .i64 Q) ∧ HeldZ 2 w' lo hi 71 (.slice a n cap) n (onesEnt k0 n) ∧ w.grownBy w' (Value.slice a n cap).ownBlock := by
  have HB := hide (Go.Joins.below_alloc1 w (.cells #[.int .i64 nb, .int .i64 fr, .bool fu, .int .i64 vw, .int .i64 vh, .slice a n cap] 40))
  have HH := hide (h.below (unhide HB) h.le)
  clear h
  go_enter Tryz.func13, Tryz.ntmps13
  go_wp2_with fail
  refine (markRow (.slice a n cap) n lo hi k0 xs h1 hk0 _ (unhide HH)).mono ?_
  rintro e w2 ⟨rfl, h2, hg2⟩
  rw [← unhide HQ]
  have H2 := hide h2
  have HG := hide (World.grownBy.trans' (below_asGrown (unhide HB)) hg2)
  clear h2 hg2 HH HB
  go_wp2_with fail
  go_ret
  exact ⟨rfl, unhide H2, unhide HG⟩
end Go.Proofs.YtmmnoepcklfonaaGreatDoor

/- Tokens: what the rows' lists give. -/
namespace Go.Proofs.YtmmnoepcklfonaaGreatDoor
open Go.ChangeShapes Go.WideShapes Go.ChangeAt Go.RowKit
set_option linter.unusedVariables false
def kIntsT : List Int := kN.map Int.ofNat
theorem laid_intsT : (Rows.laid_loop_example_g00308_impl_roundWords : DataW Unit) = Lib.tabData .u32 kIntsT := by kernel_rfl
theorem kIntsT_at (k : Nat) (h : k < 64) : kIntsT.getD k 0 = wI (gt kW k) := by
  have hl : k < kN.length := h
  have hlt : ∀ n ∈ kN, n < 4294967296 := by decide
  have hb := hlt kN[k] (List.getElem_mem _)
  unfold kIntsT gt kW wI
  simp [hl]
  omega
theorem kin_reads {W : World} (h : Lib.VarReads Tryz.prog W "loop.example/g00308/impl.roundWords" Rows.laid_loop_example_g00308_impl_roundWords) : KIn W := by
  rw [laid_intsT] at h
  obtain ⟨g, t, cs, fuel, p, hg, ht, hv, hd⟩ := h
  obtain rfl : g = 0 := (Option.some.inj ((show Tryz.prog.globalNamed _ = some 0 by kernel_rfl).symm.trans hg)).symm
  obtain rfl : t = 145 := (Option.some.inj ((show (Tryz.prog.globals[0]?).map (·.type) = some 145 by kernel_rfl).symm.trans ht)).symm
  have hc := Lib.cells_of_tab (zs := kIntsT) Tryz.underlying145 Tryz.underlying125 (by kernel_rfl) (by kernel_rfl) hd
  intro k hk
  have h1 := World.var?_cell hg hv k
  rw [h1, ← Array.getElem?_toList, hc]
  have hl : k < kIntsT.length := hk
  rw [List.getElem?_map, List.getElem?_eq_getElem hl, ← kIntsT_at k hk]
  simp [hl]
theorem tok_laid_FnExactClientAccept {W : World} (h : laidMetH Tryz.prog Rows.fnExactClientAcceptRow.laid W) : PowIn W ∧ KIn W := by
  have h' : laidMet Tryz.prog Rows.fnExactClientAcceptRow.laid W := h
  exact ⟨pow_reads (Lib.laidMet.reads h' (by unfold Rows.fnExactClientAcceptRow; simp)), kin_reads (Lib.laidMet.reads h' (by unfold Rows.fnExactClientAcceptRow; simp))⟩
end Go.Proofs.YtmmnoepcklfonaaGreatDoor

/- ClientAccept: a client put into its variable; all that the walk wants. -/
namespace Go.Proofs.YtmmnoepcklfonaaGreatDoor
open Go.ChangeShapes Go.WideShapes Go.ChangeAt Go.RowKit
set_option linter.unusedVariables false
set_option maxHeartbeats 4000000 in
theorem put7G {p : Nat} {u0 u1 u2 u3 u4 u5 u6 : Value} (w : World) (h : BF p #[u0, u1, u2, u3, u4, u5, u6] w) (v0 v1 v2 v3 v4 v5 v6 : Value) :
    ∃ w', w' = ((((((w.setCell ⟨p, 0, none⟩ v0).setCell ⟨p, 1, none⟩ v1).setCell ⟨p, 2, none⟩ v2).setCell ⟨p, 3, none⟩ v3).setCell ⟨p, 4, none⟩ v4).setCell ⟨p, 5, none⟩ v5).setCell ⟨p, 6, none⟩ v6 ∧ BF p #[v0, v1, v2, v3, v4, v5, v6] w' ∧ w.grownBy w' (some p) := by
  obtain ⟨w', e⟩ : ∃ w', w' = ((((((w.setCell ⟨p, 0, none⟩ v0).setCell ⟨p, 1, none⟩ v1).setCell ⟨p, 2, none⟩ v2).setCell ⟨p, 3, none⟩ v3).setCell ⟨p, 4, none⟩ v4).setCell ⟨p, 5, none⟩ v5).setCell ⟨p, 6, none⟩ v6 := ⟨_, rfl⟩
  have hF : BF p #[v0, v1, v2, v3, v4, v5, v6] w' := by
    rw [e]
    have h0 : BF p #[v0, u1, u2, u3, u4, u5, u6] _ := h.set 0 (by simp) v0
    have h1 : BF p #[v0, v1, u2, u3, u4, u5, u6] _ := h0.set 1 (by simp) v1
    have h2 : BF p #[v0, v1, v2, u3, u4, u5, u6] _ := h1.set 2 (by simp) v2
    have h3 : BF p #[v0, v1, v2, v3, u4, u5, u6] _ := h2.set 3 (by simp) v3
    have h4 : BF p #[v0, v1, v2, v3, v4, u5, u6] _ := h3.set 4 (by simp) v4
    have h5 : BF p #[v0, v1, v2, v3, v4, v5, u6] _ := h4.set 5 (by simp) v5
    exact h5.set 6 (by simp) v6
  have hB : Below p w w' := by
    rw [e]
    iterate 7 refine Below.setCell ?_ (by exact Nat.le_refl _) _
    exact Below.refl _ _
  refine ⟨w', e, hF, ⟨hB.os, hB.tape, hB.output, hB.size, fun k hk hne => ?_⟩⟩
  have hkp : k ≠ p := fun e => hne (by rw [e])
  rw [e]
  iterate 7 rw [Below.heap_setCell _ _ _ _ hkp]
end Go.Proofs.YtmmnoepcklfonaaGreatDoor
