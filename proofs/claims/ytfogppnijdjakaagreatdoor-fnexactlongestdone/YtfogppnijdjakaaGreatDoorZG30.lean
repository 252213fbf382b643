/- Texts put together: ClkO LgI ComS. -/
import Derived.Test.YtfogppnijdjakaaGreatDoorZG29
import Derived.Test.YtfogppnijdjakaaGreatDoorZG14
import Derived.Test.YtfogppnijdjakaaGreatDoorZG18
import Derived.Deep.AppendLies
import Derived.Test.YtfogppnijdjakaaGreatDoorZG17
import Derived.Test.YtfogppnijdjakaaGreatDoorZG22
/- impl.ClusterOK. -/
namespace Go.Proofs.YtfogppnijdjakaaGreatDoor
open Go.ChangeShapes Go.WideShapes Go.ChangeAt Go.RowKit
set_option linter.unusedVariables false
theorem CluR.parts {w : World} {nv sv wv dv : Value} {c : Clu} (h : CluR w nv sv wv dv c) : ∃ an kn sa ks aw kw ad kd, nv = .slice an c.nds.length kn ∧ sv = .slice sa c.sts.length ks ∧ wv = .slice aw c.wire.length kw ∧ dv = .slice ad c.done.length kd ∧ RowV w an (c.nds.flatMap cN) ∧ (∀ p ∈ c.nds, ∀ r ∈ nrows p, r.read w) ∧ RowV w sa (c.sts.flatMap cSt) ∧ RowV w aw (c.wire.flatMap cM) ∧ (∀ p ∈ c.wire, RowV w p.2.1 (cE p.1.es)) ∧ RowV w ad (cS c.done) := by
 obtain ⟨⟨⟨an, kn, e1, h1⟩, h2⟩, ⟨⟨sa, ks, e2, h3⟩, -⟩, ⟨⟨aw, kw, e3, h4⟩, h5⟩, ⟨ad, kd, e4, h6⟩⟩ := h
 exact ⟨an, kn, sa, ks, aw, kw, ad, kd, e1, e2, e3, e4, h1, h2, h3, h4, h5, h6⟩
set_option maxHeartbeats 4000000 in
set_option maxRecDepth 100000 in
theorem iclusterok (nv sv wv dv : Value) (c : Clu) (HF : Hid (c.fits 1048576)) (R : Bool) (HR : Hid (R = cluB c.nds c.sts c.wire c.done)) (w : World) (hE : Errs9 w) (h : CluR w nv sv wv dv c) :
  Calls Tryz.prog 23 #[.agg #[nv, sv, wv, dv]] w fun e w' => e = .returned (.bool R) ∧ Below w.heap.size w w' := by
 obtain ⟨an, kn, sa, ks, aw, kw, ad, kd, rfl, rfl, rfl, rfl, h1, h2, h3, h4, h5, h6⟩ := h.parts
 obtain ⟨⟨f1, f2, f3, f4⟩, g1, g2, g3, g4⟩ := unhide HF
 obtain ⟨N, S, W, D⟩ := c
 simp only at *
 have G1 := hide g1
 have G2 := hide g2
 have G3 := hide g3
 have G4 := hide g4
 obtain ⟨nn, hnn⟩ : ∃ n, N.length = n := ⟨_, rfl⟩
 obtain ⟨ns, hns⟩ : ∃ n, S.length = n := ⟨_, rfl⟩
 obtain ⟨nw, hnw⟩ : ∃ n, W.length = n := ⟨_, rfl⟩
 obtain ⟨nd, hnd⟩ : ∃ n, D.length = n := ⟨_, rfl⟩
 have HNN : Hid (N.length = nn) := hnn
 have HNS : Hid (S.length = ns) := hns
 have HNW : Hid (W.length = nw) := hnw
 have HND : Hid (D.length = nd) := hnd
 have HR2 : Hid (R = (inB nn 1 5 && decide (ns = nn) && nodesB nn 0 N S && (decide (nw ≤ 60) && wireB nn W) && (decide (nd ≤ 60) && doneB D))) := by show _ = _; rw [unhide HR]; unfold cluB; rw [hnn, hns, hnw, hnd]
 simp only [hnn, hns, hnw, hnd] at f1 f2 f3 f4 ⊢
 have F1 := hide f1
 have F3 := hide f3
 have F4 := hide f4
 have B0 := hide (Go.Joins.below_alloc1 w (Obj.cells #[.slice an nn kn, .slice sa ns ks, .slice aw nw kw, .slice ad nd kd] 35))
 have C0 := hide (BF.new w #[.slice an nn kn, .slice sa ns ks, .slice aw nw kw, .slice ad nd kd] 35)
 have HE := hide (hE.below (unhide B0))
 have H1 := hide (h1.below (unhide B0))
 have H2 : Hid (∀ p ∈ N, ∀ r ∈ nrows p, r.read (w.alloc (Obj.cells #[.slice an nn kn, .slice sa ns ks, .slice aw nw kw, .slice ad nd kd] 35))) := fun p hp r hr => (h2 p hp r hr).below (unhide B0)
 have H3 := hide (h3.below (unhide B0))
 have H4 := hide (h4.below (unhide B0))
 have H5 : Hid (∀ p ∈ W, RowV (w.alloc (Obj.cells #[.slice an nn kn, .slice sa ns ks, .slice aw nw kw, .slice ad nd kd] 35)) p.2.1 (cE p.1.es)) := fun p hp => (h5 p hp).below (unhide B0)
 have H6 := hide (h6.below (unhide B0))
 obtain ⟨b1, hb1⟩ : ∃ b, b = inB (nn : Int) 1 5 := ⟨_, rfl⟩
 obtain ⟨b3, hb3⟩ : ∃ b, b = nodesB nn 0 N S := ⟨_, rfl⟩
 obtain ⟨b4, hb4⟩ : ∃ b, b = (decide (nw ≤ 60) && wireB nn W) := ⟨_, rfl⟩
 obtain ⟨b5, hb5⟩ : ∃ b, b = (decide (nd ≤ 60) && doneB D) := ⟨_, rfl⟩
 have HB1 := hide hb1
 have HB3 := hide hb3
 have HB4 := hide hb4
 have HB5 := hide hb5
 have HR3 : Hid (R = (b1 && decide (ns = nn) && b3 && b4 && b5)) := by show _ = _; rw [unhide HR2, hb1, hb3, hb4, hb5]
 clear hnn hns hnw hnd h1 h2 h3 h4 h5 h6 h hE f1 f2 f3 f4 g1 g2 g3 g4 hb1 hb3 hb4 hb5 HR HR2 HF
 have cc := (unhide C0).S
 go_enter Tryz.func23, Tryz.ntmps23
 go_wp2_with fail
 refine (iwi (nn : Int) 1 5 b1 HB1 _).mono ?_
 rintro e w1 ⟨rfl, rfl⟩
 cases b1
 ·have HD : Hid (R = false) := by show _ = _; rw [unhide HR3]; simp
  go_wp2_with fail
  go_ret
  exact ⟨by rw [unhide HD]; rfl, unhide B0⟩
 have h15 : 1 ≤ (nn : Int) ∧ (nn : Int) ≤ 5 := of_decide_eq_true (unhide HB1).symm
 have hn5 : nn ≤ 5 := by omega
 clear h15
 by_cases hq : ns = nn
 ·have HNS2 : Hid (S.length = nn) := by show _ = _; rw [← hq]; exact unhide HNS
  have HR4 : Hid (R = (b3 && b4 && b5)) := by show _ = _; rw [unhide HR3, decide_eq_true hq]; simp
  have g1 : ((ns : Int) == (nn : Int)) = true := by rw [hq]; simp
  obtain rfl := hq
  clear HR3 HNS
  go_wp2_with fail
  refine (inodesok an sa kn ks ns (.slice aw nw kw) (.slice ad nd kd) N S HNN HNS2 hn5 G1 G2 b3 HB3 _ (unhide HE) (unhide H1) (unhide H2) (unhide H3)).mono ?_
  rintro e w2 ⟨rfl, hb⟩
  have B2 := hide ((unhide B0).trans (hb.mono (unhide B0).size))
  have C2 := hide ((unhide C0).below hb)
  have I4 := hide ((unhide H4).below hb)
  have I5 : Hid (∀ p ∈ W, RowV w2 p.2.1 (cE p.1.es)) := fun p hp => (unhide H5 p hp).below hb
  have I6 := hide ((unhide H6).below hb)
  clear hb B0 C0 H1 H2 H3 H4 H5 H6 cc
  have cc := (unhide C2).S
  cases b3
  ·have HD : Hid (R = false) := by show _ = _; rw [unhide HR4]; simp
   go_wp2_with fail
   go_ret
   exact ⟨by rw [unhide HD]; rfl, unhide B2⟩
  go_wp2_with fail
  refine (iwireok an kn ns (by omega) (.slice sa ns ks) (.slice ad nd kd) aw kw nw W HNW (unhide F3) G3 b4 HB4 _ (unhide I4) (unhide I5)).mono ?_
  rintro e w3 ⟨rfl, hb⟩
  have B3 := hide ((unhide B2).trans (hb.mono (unhide B2).size))
  have C3 := hide ((unhide C2).below hb)
  have J6 := hide ((unhide I6).below hb)
  clear hb B2 C2 I4 I5 I6 cc
  have cc := (unhide C3).S
  cases b4
  ·have HD : Hid (R = false) := by show _ = _; rw [unhide HR4]; simp
   go_wp2_with fail
   go_ret
   exact ⟨by rw [unhide HD]; rfl, unhide B3⟩
  go_wp2_with fail
  refine (idoneok (.slice an ns kn) (.slice sa ns ks) (.slice aw nw kw) ad kd nd D HND (unhide F4) G4 b5 HB5 _ (unhide J6)).mono ?_
  rintro e w4 ⟨rfl, hb⟩
  have B4 := hide ((unhide B3).trans (hb.mono (unhide B3).size))
  have HD : Hid (R = b5) := by show _ = _; rw [unhide HR4]; simp
  clear hb B3 C3 J6 cc
  go_wp2_with fail
  go_ret
  exact ⟨by rw [unhide HD]; rfl, unhide B4⟩
 ·have HD : Hid (R = false) := by show _ = _; rw [unhide HR3, decide_eq_false hq]; simp
  have g1 : ((ns : Int) == (nn : Int)) = false := by simpa using (fun h => hq (by omega))
  go_wp2_with fail
  go_ret
  exact ⟨by rw [unhide HD]; rfl, unhide B0⟩
end Go.Proofs.YtfogppnijdjakaaGreatDoor

/- impl.LongestDone. -/
namespace Go.Proofs.YtfogppnijdjakaaGreatDoor
open Go.ChangeShapes Go.WideShapes Go.ChangeAt Go.RowKit
set_option linter.unusedVariables false
set_option maxHeartbeats 4000000 in
set_option maxRecDepth 100000 in
theorem iwithout (a : Option Addr) (cap n : Nat) (l : List ByteArray) (HN : Hid (l.length = n)) (hn : n ≤ 1048576) (w : World) (hr : RowV w a (cS l)) :
  Calls Tryz.prog 24 #[.slice a n cap] w fun e w' => ∃ v, e = .returned v ∧ w'.ownsRow w.heap.size 9 1 v (filS l).length (cS (filS l)) ∧ Below w.heap.size w w' := by
 have HR := hide hr
 clear hr
 have B0 := hide (Below.refl w.heap.size w)
 go_enter Tryz.func24, Tryz.ntmps24
 go_wp2_with fail
 obtain ⟨i0, hi, hz0, hz1, hz2⟩ := info_parts Tryz.infL9
 go_loopw [3, 8] (fun l0 i wr => ∃ (k m : Nat) (v : Value), k ≤ n ∧ m ≤ k ∧ Hid (m = (filS (l.take k)).length) ∧ i = .int .i64 k ∧ l0 = v ∧ Hid (wr.ownsRow w.heap.size 9 1 v m (cS (filS (l.take k)))) ∧ Hid (Below w.heap.size w wr)) (fun _ i _ => n - (intOf i).toNat)
 case atStart => exact ⟨0, 0, _, by omega, by omega, rfl, rfl, rfl, World.ownsRow_nil _ _ _ _, B0⟩
 case round =>
  obtain ⟨k, m, v, hk, hm, HM, rfl, rfl, HO, B1⟩ := hrel
  by_cases hlt : k < n
  ·have hlk : k < l.length := by rw [unhide HN]; omega
   obtain ⟨b, off, rfl, hblt, hc⟩ := (unhide HR).at (by rw [cS_len]; omega)
   obtain ⟨d, ed⟩ : ∃ d, d = l[k] := ⟨_, rfl⟩
   have x1 := hc k _ (cS_at l k hlk)
   rw [← ed] at x1
   have hx1 : wr.cell? ⟨b, off + k, none⟩ = some (.string d) := ((unhide B1).cell (p := ⟨b, off + k, none⟩) hblt).trans x1
   have hlt' : (k : Int) < (n : Int) := by omega
   have hlt0 : (0 : Int) ≤ (k : Int) := by omega
   have hk6 : k ≤ 1048576 := by omega
   by_cases hd : neB d = true
   ·have HS : Hid (cS (filS (l.take (k + 1))) = cS (filS (l.take k)) ++ [.string d]) := by show _ = _; rw [filS_yes l k hlk (by rw [← ed]; exact hd), cS_app, ed]; rfl
    have HM2 : Hid (m + 1 = (filS (l.take (k + 1))).length) := by show _ = _; rw [filS_yes l k hlk (by rw [← ed]; exact hd), List.length_append, ← unhide HM]; rfl
    have hd1 : d.toList.isEmpty = false := by simpa [neB] using hd
    have hown := unhide HO
    have HB2 := hide (unhide B1)
    have hbs := (unhide B1).size
    clear hc x1 ed hlk hd
    go_wp2_with (at_builtin; refine wpList_append_lies _ rfl (.tmp 14) (.tmp 16) 25 rfl w.heap.size 9 i0 (.string ⟨#[]⟩) 1 16 Tryz.underlying25 hi hz0 hz1 hz2 rfl (by decide) _ _ _ rfl (hown.alloc (.cells #[.string d] 9)) ⟨wr.heap.size, 0, none⟩ 1 1 [.string d] rfl rfl (by have := news_new wr [.string d] 9; exact this) (by intro u hu; simp at hu; subst hu; rfl) (by decide) (by unfold maxLen; omega) (by omega) (by simp; omega) _ rfl ?_; intro g7 c7 w7 hown7 hgrow7 hat7 hlt7; have HO7 := hide hown7; have HB7 := hide (((unhide HB2).alloc (unhide HB2).size (.cells #[.string d] 9)).grown hgrow7 (by simp; omega) (fun j hj => by have := (hown.lt j hj).1; omega)); clear hown7 hgrow7 hat7 hlt7)
    go_roundw
    case rel => exact ⟨k + 1, m + 1, _, by omega, by omega, HM2, by go_num, rfl, by show World.ownsRow _ _ _ _ _ _ _; rw [unhide HS]; exact unhide HO7, HB7⟩
    case measure => simp [intOf]; omega
   ·have hd0 : neB d = false := by simpa using hd
    have HS : Hid (filS (l.take (k + 1)) = filS (l.take k)) := by show _ = _; rw [filS_no l k hlk (by rw [← ed]; exact hd0)]
    have hd1 : d.toList.isEmpty = true := by simpa [neB] using hd0
    clear hc x1 ed hlk hd hd0
    go_wp2_with fail
    go_roundw
    case rel => exact ⟨k + 1, m, _, by omega, by omega, by show _ = _; rw [unhide HS]; exact unhide HM, by go_num, rfl, by show World.ownsRow _ _ _ _ _ _ _; rw [unhide HS]; exact unhide HO, B1⟩
    case measure => simp [intOf]; omega
  ·obtain rfl : k = n := by omega
   have e0 : l.take k = l := List.take_of_length_le (by rw [unhide HN]; exact Nat.le_refl _)
   rw [e0] at HO HM
   obtain ⟨aF, cF, rfl, -⟩ := own_rowV (unhide HO)
   go_wp2_with fail
   go_ret
   refine ⟨_, rfl, ?_, unhide B1⟩
   rw [← unhide HM]
   exact unhide HO
set_option maxHeartbeats 4000000 in
set_option maxRecDepth 100000 in
theorem ilongest (nv sv wv dv : Value) (c : Clu) (HF : Hid (c.fits 1048576)) (B : Bool) (HB : Hid (B = cluB c.nds c.sts c.wire c.done)) (m : Nat) (HM : Hid (m = (lgA B c.done).length)) (k : Int) (HC : Hid (k = lgC B)) (w : World) (hE : Errs9 w) (h : CluR w nv sv wv dv c) :
  Calls Tryz.prog 7 #[.agg #[nv, sv, wv, dv]] w fun e w' => ∃ v, e = .returned (.tuple #[v, .int .i64 k]) ∧ Held w' w.heap.size w'.heap.size 9 v m (cS (lgA B c.done)) ∧ Below w.heap.size w w' := by
 obtain ⟨ad, kd, e4, h6⟩ := h.d
 obtain ⟨nd, hnd⟩ : ∃ n, c.done.length = n := ⟨_, rfl⟩
 rw [hnd] at e4
 subst e4
 have HND : Hid (c.done.length = nd) := hnd
 have hn20 : nd ≤ 1048576 := by rw [← hnd]; exact (unhide HF).1.2.2.2
 clear hnd
 have B0 := hide (Go.Joins.below_alloc1 w (.cells #[nv, sv, wv, .slice ad nd kd] 35))
 have C0 := hide (BF.new w #[nv, sv, wv, .slice ad nd kd] 35)
 have H6 := hide (h6.below (unhide B0))
 have HR := hide (CluR.below h (unhide B0))
 have HE0 := hide (Errs9.below hE (unhide B0))
 clear h h6 hE
 have cc := (unhide C0).S
 go_enter Tryz.func7, Tryz.ntmps7
 go_wp2_with fail
 refine (iclusterok nv sv wv (.slice ad nd kd) c HF B HB _ (unhide HE0) (unhide HR)).mono ?_
 rintro e w1 ⟨rfl, hb⟩
 have B1 := hide ((unhide B0).trans (hb.mono (unhide B0).size))
 have C1 := hide ((unhide C0).below hb)
 have I6 := hide ((unhide H6).below hb)
 clear hb B0 C0 H6 HR cc HE0
 cases B
 ·obtain rfl : k = 1 := unhide HC
  obtain rfl : m = 0 := unhide HM
  go_wp2_with fail
  go_ret2
  refine ⟨_, rfl, ?_, unhide B1⟩
  exact ⟨World.ownsRow_nil _ _ _ _, fun k hk => (by cases hk), Nat.le_refl _⟩
 obtain rfl : k = 0 := unhide HC
 have cc := (unhide C1).S
 go_wp2_with fail
 refine (iwithout ad kd nd c.done HND hn20 _ (unhide I6)).mono ?_
 rintro e w2 ⟨v, rfl, ho, hb⟩
 have B2 := hide ((unhide B1).trans (hb.mono (unhide B1).size))
 have HO := hide (Go.Joins.ownsRow_le ho (unhide B1).size)
 clear ho hb cc C1 I6
 go_wp2_with fail
 go_ret2
 refine ⟨v, rfl, ?_, unhide B2⟩
 have e1 : m = (filS c.done).length := unhide HM
 rw [e1]
 exact heldZ_of (unhide HO)
end Go.Proofs.YtfogppnijdjakaaGreatDoor

/- Entries that two logs have alike from the front on: what the specification answers. -/
namespace Go.Proofs.YtfogppnijdjakaaGreatDoor
open Go.ChangeShapes Go.WideShapes Go.ChangeAt Go.RowKit
set_option linter.unusedVariables false
attribute [local go_sem ↓] run_eqEnt
set_option maxHeartbeats 2000000 in
set_option maxRecDepth 100000 in
theorem scommon (a c : Option Addr) (cap cap2 n n2 : Nat) (l m : List Ent) (HN : Hid (l.length = n)) (HN2 : Hid (m.length = n2)) (hn : n ≤ 60) (hn2 : n2 ≤ 60) (K : Nat) (HK : Hid (comN l m = K)) (w : World) (hr : RowV w a (cE l)) (hr2 : RowV w c (cE m)) :
  Calls Tryz.prog 60 #[.slice a n cap, .slice c n2 cap2] w fun e w' => e = .returned (.int .i64 (K : Int)) ∧ Below w.heap.size w w' := by
 have HR := hide hr
 have HR2 := hide hr2
 have HCL := hide (cE_len l)
 have HCM := hide (cE_len m)
 clear hr hr2
 go_enter Tryz.func60, Tryz.ntmps60
 go_wp2_with fail
 go_loopw [5] (fun i wr => ∃ k : Nat, k ≤ n ∧ k ≤ n2 ∧ i = .int .i64 k ∧ Hid (K = k + comN (l.drop k) (m.drop k)) ∧ Hid (Below w.heap.size w wr)) (fun i _ => n - (intOf i).toNat)
 case atStart => exact ⟨0, by omega, by omega, rfl, by show _ = _; simp [unhide HK], Below.refl _ _⟩
 case round =>
  obtain ⟨k, hk, hk2, rfl, HQ, HB⟩ := hrel
  by_cases hlt : k < n
  ·by_cases hlt2 : k < n2
   ·obtain ⟨b, off, ha, hblt, hc⟩ := (unhide HR).at (by rw [unhide HCL, unhide HN]; omega)
    obtain ⟨b2, off2, ha2, hblt2, hc2⟩ := (unhide HR2).at (by rw [unhide HCM, unhide HN2]; omega)
    subst ha ha2
    have hlk : k < l.length := by rw [unhide HN]; exact hlt
    have hmk : k < m.length := by rw [unhide HN2]; exact hlt2
    obtain ⟨x0, x1⟩ := row_ent hc k hlk
    obtain ⟨y0, y1⟩ := row_ent hc2 k hmk
    obtain ⟨t, et⟩ : ∃ t, t = l[k].1 := ⟨_, rfl⟩
    obtain ⟨d, ed⟩ : ∃ d, d = l[k].2 := ⟨_, rfl⟩
    obtain ⟨u, eu⟩ : ∃ u, u = m[k].1 := ⟨_, rfl⟩
    obtain ⟨e, ee⟩ : ∃ e, e = m[k].2 := ⟨_, rfl⟩
    rw [← et] at x0
    rw [← ed] at x1
    rw [← eu] at y0
    rw [← ee] at y1
    have hx0 : wr.cell? ⟨b, off + k * 2, none⟩ = some (.int .i64 t) := ((unhide HB).cell (p := ⟨b, off + k * 2, none⟩) hblt).trans x0
    have hx1 : wr.cell? ⟨b, off + k * 2 + 1, none⟩ = some (.string d) := ((unhide HB).cell (p := ⟨b, off + k * 2 + 1, none⟩) hblt).trans x1
    have hy0 : wr.cell? ⟨b2, off2 + k * 2, none⟩ = some (.int .i64 u) := ((unhide HB).cell (p := ⟨b2, off2 + k * 2, none⟩) hblt2).trans y0
    have hy1 : wr.cell? ⟨b2, off2 + k * 2 + 1, none⟩ = some (.string e) := ((unhide HB).cell (p := ⟨b2, off2 + k * 2 + 1, none⟩) hblt2).trans y1
    have d1 : decide ((k : Int) < (n : Int)) = true := decide_eq_true (by omega)
    have d2 : decide ((k : Int) < (n2 : Int)) = true := decide_eq_true (by omega)
    have i1 : (k : Int) < (n : Int) := by omega
    have i2 : (k : Int) < (n2 : Int) := by omega
    have i0 : (0 : Int) ≤ (k : Int) := by omega
    have hcmp := ent_cmp et ed eu ee (h1 := hlk) (h2 := hmk)
    cases heq : entEq t u d e with
    | true =>
     have HQ2 := unhide HQ
     rw [comN_step hlk hmk (hcmp.1 heq)] at HQ2
     have HQ3 := hide HQ2
     clear HQ2 hc hc2 x0 x1 y0 y1 et ed eu ee HQ HR HR2 hcmp
     go_wp2_with fail
     go_quiet (fail)
     go_wp2_with fail
     go_roundw
     case rel => exact ⟨k + 1, by omega, by omega, by go_num, by show _ = _; have := unhide HQ3; omega, bdN (unhide HB) _⟩
     case measure => simp [intOf]; omega
    | false =>
     have HQ2 := unhide HQ
     rw [comN_stop hlk hmk (hcmp.2 heq)] at HQ2
     obtain rfl : K = k := by omega
     clear HQ2 hc hc2 x0 x1 y0 y1 et ed eu ee HQ HR HR2 hcmp HK
     go_wp2_with fail
     go_quiet (fail)
     go_wp2_with fail
     go_ret
     exact ⟨rfl, bdN (unhide HB) _⟩
   ·obtain rfl : K = k := by have := unhide HQ; rw [comN_nil2 _ _ _ (by rw [unhide HN2]; omega)] at this; omega
    have d1 : decide ((K : Int) < (n : Int)) = true := decide_eq_true (by omega)
    have d2 : decide ((K : Int) < (n2 : Int)) = false := decide_eq_false (by omega)
    go_wp2_with fail
    go_quiet (fail)
    go_wp2_with fail
    go_ret
    exact ⟨rfl, bdN (unhide HB) _⟩
  ·obtain rfl : K = k := by have := unhide HQ; rw [comN_nil1 _ _ _ (by rw [unhide HN]; omega)] at this; omega
   have d1 : decide ((K : Int) < (n : Int)) = false := decide_eq_false (by omega)
   go_wp2_with fail
   go_quiet (fail)
   go_wp2_with fail
   go_ret
   exact ⟨rfl, bdN (unhide HB) _⟩
end Go.Proofs.YtfogppnijdjakaaGreatDoor
