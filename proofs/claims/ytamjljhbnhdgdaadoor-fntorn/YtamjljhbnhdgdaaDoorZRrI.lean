/- readRecord, (record).is: what the program answers. -/
import Derived.Test.YtamjljhbnhdgdaaDoorZG5
import Derived.Test.YtamjljhbnhdgdaaDoorZG6
import Derived.Test.YtamjljhbnhdgdaaDoorZG7
import Derived.Test.YtamjljhbnhdgdaaDoorZG2
import Derived.Lib.SmallJoins
namespace Go.Proofs.YtamjljhbnhdgdaaDoor
open Go.ChangeShapes Go.WideShapes Go.ChangeAt Go.RowKit
set_option linter.unusedVariables false
set_option maxHeartbeats 1000000 in
set_option maxRecDepth 100000 in
theorem iis_rec (f g : ByteArray) (an : Option Addr) (nn cn : Nat) (ad : Option Addr) (nd cd : Nat) (p q : Nat) (hnn : nn ≤ 1048576) (hnd : nd ≤ 1048576) (R : Bool) (HR : Hid (R = (decide (f = g) && decide (nn = p) && decide (nd = q)))) (w : World) :
  Calls Tryd.prog 53 #[.agg #[.string f, .slice an nn cn, .slice ad nd cd], .string g, .int .i64 (p : Int), .int .i64 (q : Int)] w fun e w' => e = .returned (.bool R) ∧ Below w.heap.size w w' := by
 have HB := hide (Go.Joins.below_alloc1 w (.cells #[.string f, .slice an nn cn, .slice ad nd cd] 115))
 by_cases h1 : f = g
 ·subst h1
  have e1 : (f.toList == f.toList) = true := by simp
  by_cases h2 : nn = p
  ·subst h2
   have e2 : ((nn : Int) == (nn : Int)) = true := by simp
   obtain ⟨C, hC⟩ : ∃ C : Bool, ((nd : Int) == (q : Int)) = C := ⟨_, rfl⟩
   have hR : R = C := by
    rw [unhide HR, ← hC]; simp only [decide_true, Bool.true_and]
    rw [Bool.eq_iff_iff]; simp; omega
   subst hR
   go_enter Tryd.func53, Tryd.ntmps53
   go_wp2_with fail
   go_ret
   exact ⟨rfl, unhide HB⟩
  ·have e2 : ((nn : Int) == (p : Int)) = false := by rw [beq_eq_false_iff_ne]; omega
   obtain rfl : R = false := by rw [unhide HR, decide_eq_false h2]; simp
   go_enter Tryd.func53, Tryd.ntmps53
   go_wp2_with fail
   go_ret
   exact ⟨rfl, unhide HB⟩
 ·have e1 : (f.toList == g.toList) = false := by
   rw [beq_eq_false_iff_ne]; intro h
   apply h1
   rw [ByteArray.toList_eq, ByteArray.toList_eq] at h
   obtain ⟨⟨x⟩⟩ := f
   obtain ⟨⟨y⟩⟩ := g
   simp at h; rw [h]
  obtain rfl : R = false := by rw [unhide HR, decide_eq_false h1]; simp
  go_enter Tryd.func53, Tryd.ntmps53
  go_wp2_with fail
  go_ret
  exact ⟨rfl, unhide HB⟩
theorem to_text (w : World) (t : ByteArray) : ∃ w' cap, (convert 9 22 (.string t)).run Tryd.prog w = .ok (.slice (some ⟨w.heap.size, 0, none⟩) t.size cap) w' ∧ Row8 w' (some ⟨w.heap.size, 0, none⟩) t.data.toList ∧ t.size ≤ cap ∧ Below w.heap.size w w' :=
 ⟨_, _, Go.Lib.run_convert_string_bytes w 9 22 5 t Tryd.underlying9 Tryd.underlying22 Tryd.underlying5, bytes_rowT w t, grownCap_ge _ _ _ _, bytes_belowT w t⟩
set_option maxHeartbeats 1000000 in
set_option maxRecDepth 100000 in
/-- readRecord of a text that holds no fields, or too few. -/
theorem irec_few (t : ByteArray) (ht : t.size ≤ 65536) (H : Hid (∀ m, rfOf t.data.toList = some m → m.length < 2)) {x0 x1 x2 x3 x4 : Addr} (w : World) (hE : ErrsIn w) (hS : StE w x0 x1 x2 x3 x4) :
  Calls Tryd.prog 52 #[.string t] w fun e w' => e = .returned (.tuple #[.agg #[.string ⟨#[]⟩, .slice none 0 0, .slice none 0 0], .iface 145 (.pointer (some x0))]) ∧ Below w.heap.size w w' := by
 have B0 := hide (Go.Joins.below_alloc1 w (.cells #[.string ⟨#[]⟩, .slice none 0 0, .slice none 0 0] 115))
 have Z0 := hide (BF.new w #[.string ⟨#[]⟩, .slice none 0 0, .slice none 0 0] 115)
 obtain ⟨wc, cap0, h1, h2, h3, h4⟩ := to_text (w.alloc (.cells #[.string ⟨#[]⟩, .slice none 0 0, .slice none 0 0] 115)) t
 have T := isplit _ cap0 t.size t.data.toList (sizeT t) h3 ht wc ((hE.below (unhide B0)).below h4) h2
 rw [show (w.alloc (.cells #[.string ⟨#[]⟩, .slice none 0 0, .slice none 0 0] 115)).heap.size = w.heap.size + 1 from by simp] at T
 have BB := hide ((unhide B0).trans (h4.mono (unhide B0).size))
 have ZB := hide ((unhide Z0).below h4)
 have SB := hide ((hS.below (unhide B0)).below h4)
 have hg : 2 < w.heap.size := World.block_lt_of_cell? w _ hS.g0
 have HN0 : ∀ o, (⟨w.heap.size, o, none⟩ : Addr) ≠ ⟨2, 0, none⟩ := by intro o h; injection h with h; omega
 clear hE hS h2 h3 h4 B0 Z0 hg
 go_enter Tryd.func52, Tryd.ntmps52
 go_wp2_with fail
 refine T.mono ?_
 clear T
 rintro e w1 ⟨h, hb1⟩
 have B1 := hide ((unhide BB).trans (hb1.mono (unhide BB).size))
 have Z1 := hide ((unhide ZB).below hb1)
 have S1 := hide ((unhide SB).below hb1)
 clear BB ZB SB hb1
 have kz := (unhide Z1).S
 have kf := (unhide Z1).F
 have g0 := (unhide S1).g0
 cases hm : rfOf t.data.toList with
 | none =>
  rw [hm] at h
  obtain ⟨u, y, rfl⟩ := h
  clear H hm
  go_wp2_with fail
  go_region_held3 (fun w' => w'.cell? ⟨2, 0, none⟩ = some (.iface 145 (.pointer (some x0)))) (first | exact g0 | exact ((World.cell?_setCell_other _ _ _ _ (HN0 2)).trans ((World.cell?_setCell_other _ _ _ _ (HN0 1)).trans (World.cell?_setCell_other _ _ _ _ (HN0 0)))).trans g0) (fail)
  go_wp2_with fail
  refine bodyPost_ret (v := .tuple #[.agg #[.string ⟨#[]⟩, .slice none 0 0, .slice none 0 0], .iface 145 (.pointer (some x0))]) (by simp [results, Tryd.results52, go_sem, kz]) rfl ⟨rfl, ?_⟩
  refine Below.drew ?_
  repeat refine Below.setCell ?_ (by first | exact Nat.le_succ _ | exact Nat.le_refl _) _
  exact unhide B1
 | some m =>
  rw [hm] at h
  obtain ⟨v, rfl, ho⟩ := h
  have hl := unhide H m hm
  obtain ⟨a, cap, rfl, hr⟩ := own_rowV ho
  obtain ⟨n, hn⟩ : ∃ n, m.length = n := ⟨_, rfl⟩
  rw [hn] at hl ⊢
  have b1 : (n : Int) < 2 := by omega
  clear H hm ho hr hn
  go_wp2_with fail
  go_region_held3 (fun w' => w'.cell? ⟨2, 0, none⟩ = some (.iface 145 (.pointer (some x0)))) (first | exact g0 | exact ((World.cell?_setCell_other _ _ _ _ (HN0 2)).trans ((World.cell?_setCell_other _ _ _ _ (HN0 1)).trans (World.cell?_setCell_other _ _ _ _ (HN0 0)))).trans g0) (fail)
  go_wp2_with fail
  refine bodyPost_ret (v := .tuple #[.agg #[.string ⟨#[]⟩, .slice none 0 0, .slice none 0 0], .iface 145 (.pointer (some x0))]) (by simp [results, Tryd.results52, go_sem, kz]) rfl ⟨rfl, ?_⟩
  refine Below.drew ?_
  repeat refine Below.setCell ?_ (by first | exact Nat.le_succ _ | exact Nat.le_refl _) _
  exact unhide B1
set_option maxHeartbeats 1000000 in
set_option maxRecDepth 100000 in
/-- readRecord of a text whose second field holds no numbers. -/
theorem irec_num (t f0 f1 : ByteArray) (r : List ByteArray) (ht : t.size ≤ 65536) (hf : f1.size ≤ 20000) (H : Hid (rfOf t.data.toList = some (f0 :: f1 :: r))) (c : Int) (HC : Hid (c = rnC f1.data.toList)) (hc : ¬ c = 0) {x0 x1 x2 x3 x4 : Addr} (w : World) (hE : ErrsIn w) (hS : StE w x0 x1 x2 x3 x4) :
  Calls Tryd.prog 52 #[.string t] w fun e w' => e = .returned (.tuple #[.agg #[.string ⟨#[]⟩, .slice none 0 0, .slice none 0 0], .iface 145 (.pointer (some x0))]) ∧ Below w.heap.size w w' := by
 have B0 := hide (Go.Joins.below_alloc1 w (.cells #[.string ⟨#[]⟩, .slice none 0 0, .slice none 0 0] 115))
 have Z0 := hide (BF.new w #[.string ⟨#[]⟩, .slice none 0 0, .slice none 0 0] 115)
 obtain ⟨wc, cap0, h1, h2, h3, h4⟩ := to_text (w.alloc (.cells #[.string ⟨#[]⟩, .slice none 0 0, .slice none 0 0] 115)) t
 have T := isplit _ cap0 t.size t.data.toList (sizeT t) h3 ht wc ((hE.below (unhide B0)).below h4) h2
 rw [unhide H] at T
 rw [show (w.alloc (.cells #[.string ⟨#[]⟩, .slice none 0 0, .slice none 0 0] 115)).heap.size = w.heap.size + 1 from by simp] at T
 have BB := hide ((unhide B0).trans (h4.mono (unhide B0).size))
 have ZB := hide ((unhide Z0).below h4)
 have SB := hide ((hS.below (unhide B0)).below h4)
 have hg : 2 < w.heap.size := World.block_lt_of_cell? w _ hS.g0
 have HN0 : ∀ o, (⟨w.heap.size, o, none⟩ : Addr) ≠ ⟨2, 0, none⟩ := by intro o h; injection h with h; omega
 have cc : (c != 0) = true := by rw [bne_iff_ne]; exact hc
 clear hE hS h2 h3 h4 B0 Z0 hg H hc
 go_enter Tryd.func52, Tryd.ntmps52
 go_wp2_with fail
 refine T.mono ?_
 clear T
 rintro e w1 ⟨⟨v, rfl, ho⟩, hb1⟩
 have B1 := hide ((unhide BB).trans (hb1.mono (unhide BB).size))
 have Z1 := hide ((unhide ZB).below hb1)
 have S1 := hide ((unhide SB).below hb1)
 clear BB ZB SB hb1
 obtain ⟨a, cap, rfl, hr⟩ := own_rowV ho
 obtain ⟨b, off, rfl, hblt, hcel⟩ := hr.at (by simp [cS])
 have k1 : w1.cell? ⟨b, off + 1, none⟩ = some (.string f1) := hcel 1 _ (by simp [cS])
 obtain ⟨n, hn⟩ : ∃ n, (f0 :: f1 :: r).length = n := ⟨_, rfl⟩
 have hn2 : 2 ≤ n := by rw [← hn]; simp
 rw [hn]
 have b1 : ¬ (n : Int) < 2 := by omega
 have b2 : (1 : Int) < (n : Int) := by omega
 obtain ⟨wd, cap1, q1, q2, q3, q4⟩ := to_text w1 f1
 have T := ireadnumsH _ cap1 f1.data.toList _ c rfl (unhide HC) (by rw [sizeT]; omega) (by rw [sizeT]; exact q3) wd (row8_V q2)
 rw [sizeT] at T
 have B2 := hide ((unhide B1).trans (q4.mono (unhide B1).size))
 have Z2 := hide ((unhide Z1).below q4)
 have S2 := hide ((unhide S1).below q4)
 clear ho hr hn hcel q2 q3 q4 B1 Z1 S1
 go_wp2_with fail
 refine T.mono ?_
 clear T
 rintro e w3 ⟨v3, rfl, ho3, hb3⟩
 have B3 := hide ((unhide B2).trans (hb3.mono (unhide B2).size))
 have Z3 := hide ((unhide Z2).below hb3)
 have S3 := hide ((unhide S2).below hb3)
 clear B2 Z2 S2 hb3 ho3
 have kz := (unhide Z3).S
 have kf := (unhide Z3).F
 have g0 := (unhide S3).g0
 go_wp2_with fail
 go_region_held3 (fun w' => w'.cell? ⟨2, 0, none⟩ = some (.iface 145 (.pointer (some x0)))) (first | exact g0 | exact ((World.cell?_setCell_other _ _ _ _ (HN0 2)).trans ((World.cell?_setCell_other _ _ _ _ (HN0 1)).trans (World.cell?_setCell_other _ _ _ _ (HN0 0)))).trans g0) (fail)
 go_wp2_with fail
 refine bodyPost_ret (v := .tuple #[.agg #[.string ⟨#[]⟩, .slice none 0 0, .slice none 0 0], .iface 145 (.pointer (some x0))]) (by simp [results, Tryd.results52, go_sem, kz]) rfl ⟨rfl, ?_⟩
 refine Below.drew ?_
 repeat refine Below.setCell ?_ (by first | exact Nat.le_succ _ | exact Nat.le_refl _) _
 exact unhide B3
theorem RowV.set {w : World} {a : Option Addr} {xs : List Value} (h : RowV w a xs) {n o : Nat} {v : Value} (hn : ∀ x, a = some x → x.block ≠ n) : RowV (w.setCell ⟨n, o, none⟩ v) a xs := by
 rcases h with h | ⟨b, off, rfl, hlt, hc⟩
 ·exact .inl h
 ·refine .inr ⟨b, off, rfl, by simpa using hlt, fun i u hu => ?_⟩
  rw [World.cell?_setCell_other _ _ _ _ (by intro h2; injection h2 with h3 _; exact hn _ rfl h3.symm)]
  exact hc i u hu
theorem RowV.drew {w : World} {a : Option Addr} {xs : List Value} (h : RowV w a xs) : RowV w.drew a xs := h.below (Below.refl _ _).drew
theorem own_at1 {w : World} {base : Nat} {e : TypeId} {v : Value} {n : Nat} {xs : List Value} (h : w.ownsRow base e 1 v n xs) (hn : 0 < n) :
  ∃ g cap, v = .slice (some ⟨g, 0, none⟩) n cap ∧ base ≤ g ∧ g < w.heap.size ∧ n ≤ cap ∧ ∀ j u, xs[j]? = some u → w.cell? ⟨g, j, none⟩ = some u := by
 rcases h.2 with ⟨_, rfl⟩ | ⟨g, cap, cur, rfl, hbg, hg, hnc, _⟩
 ·omega
 ·exact ⟨g, cap, rfl, hbg, (h.lt g rfl).2, hnc, fun j u hu => by
   have := h.cells (g := g) rfl j u hu
   by_cases e : j = 0
   ·subst e; simpa [Addr.add] using this
   ·simpa [Addr.add, e] using this⟩
set_option maxHeartbeats 1000000 in
set_option maxRecDepth 100000 in
/-- readRecord of a record. -/
theorem irec_ok (t f0 f1 : ByteArray) (r : List ByteArray) (ht : t.size ≤ 65536) (hf : f1.size ≤ 20000) (H : Hid (rfOf t.data.toList = some (f0 :: f1 :: r))) (L : List Int) (HL : Hid (L = rnL f1.data.toList)) (HC : Hid ((0 : Int) = rnC f1.data.toList)) (n p : Nat) (HN : Hid (L.length = n)) (HP : Hid (r.length = p)) (w : World) (hE : ErrsIn w) :
  Calls Tryd.prog 52 #[.string t] w fun e w' => ∃ a cap a2 cap2, e = .returned (.tuple #[.agg #[.string f0, .slice a n cap, .slice a2 p cap2], .nilIface]) ∧ RowV w' a (cI L) ∧ RowV w' a2 (cS r) ∧ (∀ x, a = some x → w.heap.size ≤ x.block) ∧ (∀ x, a2 = some x → w.heap.size ≤ x.block) ∧ Below w.heap.size w w' := by
 have B0 := hide (Go.Joins.below_alloc1 w (.cells #[.string ⟨#[]⟩, .slice none 0 0, .slice none 0 0] 115))
 have Z0 := hide (BF.new w #[.string ⟨#[]⟩, .slice none 0 0, .slice none 0 0] 115)
 obtain ⟨wc, cap0, h1, h2, h3, h4⟩ := to_text (w.alloc (.cells #[.string ⟨#[]⟩, .slice none 0 0, .slice none 0 0] 115)) t
 have T := isplit _ cap0 t.size t.data.toList (sizeT t) h3 ht wc ((hE.below (unhide B0)).below h4) h2
 rw [unhide H] at T
 rw [show (w.alloc (.cells #[.string ⟨#[]⟩, .slice none 0 0, .slice none 0 0] 115)).heap.size = w.heap.size + 1 from by simp] at T
 have HZ : w.heap.size + 1 ≤ wc.heap.size := by have := h4.size; simp at this; exact this
 have BB := hide ((unhide B0).trans (h4.mono (unhide B0).size))
 have ZB := hide ((unhide Z0).below h4)
 clear hE h2 h3 h4 B0 Z0 H
 go_enter Tryd.func52, Tryd.ntmps52
 go_wp2_with fail
 refine T.mono ?_
 clear T
 rintro e w1 ⟨⟨v, rfl, ho⟩, hb1⟩
 have B1 := hide ((unhide BB).trans (hb1.mono (unhide BB).size))
 have Z1 := hide ((unhide ZB).below hb1)
 obtain ⟨b, cap, rfl, hbase, hblt, hncap, hcel⟩ := own_at1 ho (by simp)
 have hbne : b ≠ w.heap.size := by omega
 have hbge : Hid (w.heap.size ≤ b) := by show _ ≤ _; omega
 have HW : w.heap.size + 1 ≤ w1.heap.size := Nat.le_trans HZ hb1.size
 clear BB ZB hb1 hbase HZ
 have k1 : w1.cell? ⟨b, 1, none⟩ = some (.string f1) := hcel 1 _ (by simp [cS])
 have k0 : w1.cell? ⟨b, 0, none⟩ = some (.string f0) := hcel 0 _ (by simp [cS])
 have kr := hide (fun j u (hu : (cS r)[j]? = some u) => hcel (j + 2) u (by simpa [cS] using hu))
 have hn : (f0 :: f1 :: r).length = p + 2 := by rw [← unhide HP]; simp
 rw [hn] at hncap ⊢
 obtain ⟨m, hm⟩ : ∃ m, m = p + 2 := ⟨_, rfl⟩
 rw [← hm] at hncap ⊢
 have b1 : ¬ (m : Int) < 2 := by omega
 have b2 : (1 : Int) < (m : Int) := by omega
 have b3 : (2 : Int) ≤ (m : Int) := by omega
 have b7 : (0 : Int) < (m : Int) := by omega
 have b8 : 0 < m := by omega
 have b4 : (m : Int) ≤ (cap : Int) := by omega
 have b5 : m - 2 = p := by omega
 have b6 : (2 : Int) ≤ (cap : Int) := by omega
 clear hm
 obtain ⟨wd, cap1, q1, q2, q3, q4⟩ := to_text w1 f1
 have T := ireadnumsH _ cap1 f1.data.toList L 0 (unhide HL) (unhide HC) (by rw [sizeT]; omega) (by rw [sizeT]; exact q3) wd (row8_V q2)
 rw [sizeT] at T
 have B2 := hide ((unhide B1).trans (q4.mono (unhide B1).size))
 have Z2 := hide ((unhide Z1).below q4)
 have k0 := cell_old q4 k0
 have kr := hide (fun j u hu => cell_old q4 (unhide kr j u hu))
 have HW : w.heap.size + 1 ≤ wd.heap.size := Nat.le_trans HW q4.size
 have hblt : b < wd.heap.size := Nat.lt_of_lt_of_le hblt q4.size
 clear ho hn hcel q2 q3 q4 B1 Z1
 go_wp2_with fail
 refine T.mono ?_
 clear T
 rintro e w3 ⟨v3, rfl, ho3, hb3⟩
 have B3 := hide ((unhide B2).trans (hb3.mono (unhide B2).size))
 have Z3 := hide ((unhide Z2).below hb3)
 have k0 := cell_old hb3 k0
 have kr := hide (fun j u hu => cell_old hb3 (unhide kr j u hu))
 have hblt : b < w3.heap.size := Nat.lt_of_lt_of_le hblt hb3.size
 clear B2 Z2 hb3
 obtain ⟨a3, cap3, rfl, hr3⟩ := own_rowV ho3
 have HR3 := hide hr3
 have HQ3 : Hid (∀ x, a3 = some x → x.block ≠ w.heap.size) := by
  show ∀ x, _
  intro x hx; subst hx
  have := (ho3.lt x.block rfl).1
  omega
 have HG3 : Hid (∀ x, a3 = some x → w.heap.size ≤ x.block) := by
  show ∀ x, _
  intro x hx; subst hx
  have := (ho3.lt x.block rfl).1
  omega
 rw [unhide HN]
 have kz := (unhide Z3).S
 have kf := (unhide Z3).F
 clear ho3 hr3
 go_wp2_with fail
 have hneg : ∀ o, (⟨w.heap.size, o, none⟩ : Addr) ≠ ⟨b, 0, none⟩ := by intro o h; injection h with h; exact hbne h.symm
 by_cases hcap : cap = 2
 ·subst hcap
  go_region_held3 (fun w' => w'.cell? ⟨b, 0, none⟩ = some (.string f0)) (first | exact k0 | exact ((World.cell?_setCell_other _ _ _ _ (hneg 2)).trans ((World.cell?_setCell_other _ _ _ _ (hneg 1)).trans (World.cell?_setCell_other _ _ _ _ (hneg 0)))).trans k0) (fail)
  go_wp2_with fail
  refine bodyPost_ret (v := .tuple #[.agg #[.string f0, .slice a3 n cap3, .slice (some ⟨b, 0, none⟩) p (0)], .nilIface]) (by simp [results, Tryd.results52, go_sem, kz]) rfl ⟨a3, cap3, some ⟨b, 0, none⟩, 0, rfl, ?_, ?_, unhide HG3, (fun x hx => by injection hx with hx; subst hx; exact unhide hbge), ?_⟩
  ·exact ((((unhide HR3).set (unhide HQ3)).set (unhide HQ3)).set (unhide HQ3)).drew
  ·have h8 := unhide HP
   have h9 : r.length = 0 := by omega
   exact .inl (by rw [List.length_eq_zero_iff.1 h9]; rfl)
  ·refine Below.drew ?_
   repeat refine Below.setCell ?_ (by first | exact Nat.le_succ _ | exact Nat.le_refl _) _
   exact unhide B3
 ·go_region_held3 (fun w' => w'.cell? ⟨b, 0, none⟩ = some (.string f0)) (first | exact k0 | exact ((World.cell?_setCell_other _ _ _ _ (hneg 2)).trans ((World.cell?_setCell_other _ _ _ _ (hneg 1)).trans (World.cell?_setCell_other _ _ _ _ (hneg 0)))).trans k0) (fail)
  go_wp2_with fail
  refine bodyPost_ret (v := .tuple #[.agg #[.string f0, .slice a3 n cap3, .slice (some ⟨b, 2, none⟩) p (cap - 2)], .nilIface]) (by simp [results, Tryd.results52, go_sem, kz]) rfl ⟨a3, cap3, some ⟨b, 2, none⟩, cap - 2, rfl, ?_, ?_, unhide HG3, (fun x hx => by injection hx with hx; subst hx; exact unhide hbge), ?_⟩
  ·exact ((((unhide HR3).set (unhide HQ3)).set (unhide HQ3)).set (unhide HQ3)).drew
  ·have hR : RowV w3 (some ⟨b, 2, none⟩) (cS r) := .inr ⟨b, 2, rfl, hblt, fun i u hu => by have := unhide kr i u hu; rwa [Nat.add_comm] at this⟩
   have hQ : ∀ x, (some ⟨b, 2, none⟩ : Option Addr) = some x → x.block ≠ w.heap.size := by intro x hx; injection hx with hx; subst hx; exact hbne
   exact (((hR.set hQ).set hQ).set hQ).drew
  ·refine Below.drew ?_
   repeat refine Below.setCell ?_ (by first | exact Nat.le_succ _ | exact Nat.le_refl _) _
   exact unhide B3
end Go.Proofs.YtamjljhbnhdgdaaDoor
