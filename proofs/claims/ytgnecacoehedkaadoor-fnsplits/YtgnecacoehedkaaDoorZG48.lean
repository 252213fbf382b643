/- Texts put together: TxS TxAll SptM RowInts. -/
import Derived.Test.YtgnecacoehedkaaDoorZG44
import Derived.Test.YtgnecacoehedkaaDoorZPutS
import Derived.Test.YtgnecacoehedkaaDoorZG23
import Derived.Test.YtgnecacoehedkaaDoorZTxI
import Derived.Test.YtgnecacoehedkaaDoorZOkL
import Derived.Test.YtgnecacoehedkaaDoorZG37
import Derived.Test.YtgnecacoehedkaaDoorZG41
import Derived.Test.YtgnecacoehedkaaDoorZG0
/- LayoutText: what the specification answers. -/
namespace Go.Proofs.YtgnecacoehedkaaDoor
open Go.ChangeShapes Go.WideShapes Go.ChangeAt Go.RowKit
set_option linter.unusedVariables false
end Go.Proofs.YtgnecacoehedkaaDoor

/- LayoutText: what both sides answer. -/
namespace Go.Proofs.YtgnecacoehedkaaDoor
open Go.ChangeShapes Go.WideShapes Go.ChangeAt Go.RowKit
set_option linter.unusedVariables false
set_option maxHeartbeats 400000 in
set_option maxRecDepth 100000 in
theorem iltext (a : Option Addr) (cap L : Nat) (l : List Pt) (HLL : Hid (l.length = L)) (hl : L ≤ 1048576) (W H c : Int) (T : ByteArray) (HC : Hid (c = ltC l W H)) (HT : Hid (T = ltT l W H)) (w : World) (hr : RowV w a (cPt l)) (hp : PowIn w) (hg : 0 < w.heap.size) :
  Calls Tryd.prog 12 #[.agg #[.slice a L cap], .int .i64 W, .int .i64 H] w fun e w' => e = .returned (.tuple #[.string T, .int .i64 c]) ∧ Below w.heap.size w w' := by
 have HB0 := hide (Go.Joins.below_alloc1 w (.cells #[.slice a L cap] 26))
 obtain ⟨Q, hQ⟩ : ∃ Q, Q = tofS l W H := ⟨_, rfl⟩
 have TT := hide (itreeof a cap L l HLL hl W H Q hQ _ (hr.below (unhide HB0)))
 unfold ltC at HC
 unfold ltT at HT
 rw [← hQ] at HC HT
 have HQ := hide hQ
 have HP := hide hp
 have HG := hide hg
 clear hQ hp hg
 go_enter Tryd.func12, Tryd.ntmps12
 go_wp2_with fail
 refine (unhide TT).mono ?_
 rintro e w2 ⟨h2, hb2⟩
 have HB2 := hide ((unhide HB0).trans (hb2.mono (unhide HB0).size))
 clear hb2 TT
 cases Q with
 | none =>
  have h2' : e = .returned (.pointer none) := h2
  have hc : c = 1 := unhide HC
  have hT : T = ⟨#[]⟩ := unhide HT
  clear h2 HC HT
  subst h2' hc hT
  go_wp2_with fail
  go_ret2
  exact ⟨rfl, unhide HB2⟩
 | some t =>
  obtain ⟨b, bs, rfl, hTr⟩ := h2
  have hc : c = 0 := unhide HC
  have hT : T = t.txt := unhide HT
  obtain ⟨o1, o2, o3, o4, o5, o6, o7⟩ := tofS_ok (unhide HQ).symm
  obtain ⟨hW1, hW2, hH1, hH2⟩ : 2 ≤ W ∧ W ≤ 24 ∧ 2 ≤ H ∧ H ≤ 10 := of_decide_eq_true o1
  have T2 := hide (itext t b bs w2 hTr.1 (small_of t W H o5 o7 (by omega) (by omega)) (by omega) ((unhide HP).below (unhide HB2) (unhide HG)) (Nat.lt_of_lt_of_le (unhide HG) (unhide HB2).size))
  rw [← hT] at T2
  clear HC HT hT o1 o2 o3 o4 o5 o6 o7 hTr
  subst hc
  go_wp2_with fail
  refine (unhide T2).mono ?_
  rintro e w3 ⟨rfl, hb3⟩
  have HB3 := hide ((unhide HB2).trans (hb3.mono (unhide HB2).size))
  clear hb3
  go_wp2_with fail
  go_ret2
  exact ⟨rfl, unhide HB3⟩
theorem sp_laid {W : World} (h : laidMetH Tryd.prog Rows.fnSplitsRow.laid W) : PowIn W := by
 have h' : laidMet Tryd.prog Rows.fnSplitsRow.laid W := h
 exact pow_reads (Lib.laidMet.reads h' (by unfold Rows.fnSplitsRow; simp))
end Go.Proofs.YtgnecacoehedkaaDoor

/- What FnSplits' walk names besides: a layout split and killed again. -/
namespace Go.Proofs.YtgnecacoehedkaaDoor
open Go.ChangeShapes Go.WideShapes Go.ChangeAt Go.RowKit
set_option linter.unusedVariables false
theorem ftS_id {s a z : Int} (h1 : a ≤ s) (h2 : s ≤ z) : ftS s a z = s := by
 unfold ftS mn mx
 split <;> split at * <;> omega
/-- What fits already is fitted as it is. -/
theorem fit_id : ∀ (t : Tr) (W H : Int), t.fits W H = true → t.fit W H = t := by
 intro t
 induction t using Tr.ind with
 | pane n => intro W H _; rfl
 | split r s l t ihl ihr =>
  intro W H h
  cases r
  ·simp only [Tr.fits, Bool.false_eq_true, if_false, Bool.and_eq_true] at h
   have h1 := fits_least l s H h.1
   have h2 := fits_least t (W - s) H h.2
   have e : ftS s l.lw (W - t.lw) = s := ftS_id h1.1 (by omega)
   simp only [Tr.fit, Bool.false_eq_true, if_false, e, ihl s H h.1, ihr (W - s) H h.2]
  ·simp only [Tr.fits, if_true, Bool.and_eq_true] at h
   have h1 := fits_least l W s h.1
   have h2 := fits_least t W (H - s) h.2
   have e : ftS s l.lh (H - t.lh) = s := ftS_id h1.2 (by omega)
   simp only [Tr.fit, if_true, e, ihl W s h.1, ihr W (H - s) h.2]
/-- What a split answers: as it was (too small, full), or what killed again is as it was. -/
theorem split_ways {l : List Pt} {W H : Int} {t : Tr} (e : tofS l W H = some t) {pane fresh : Int} (rows : Bool) (hm : pane ∈ t.panes) (hf : fresh ∉ t.panes) (hs : inB fresh 1 1000 = true) :
  ((splitC l W H pane fresh rows = 10 ∨ splitC l W H pane fresh rows = 7) ∧ splitL l W H pane fresh rows = l) ∨
  (splitC l W H pane fresh rows = 0 ∧ ∃ t2, tofS (splitL l W H pane fresh rows) W H = some t2 ∧ t2.panes.length = t.panes.length + 1 ∧ killC (splitL l W H pane fresh rows) W H fresh = 0 ∧ killL (splitL l W H pane fresh rows) W H fresh = l) := by
 obtain ⟨o1, o2, o3, o4, o5, o6, o7⟩ := tofS_ok e
 have hc : splitC l W H pane fresh rows = scd t W H pane fresh rows := by unfold splitC; rw [e]; simp only [hs, if_true]
 have hl : splitL l W H pane fresh rows = if scd t W H pane fresh rows = 0 then (t.spl pane rows (t.sid pane rows W H / 2) fresh).flat 0 else t.flat 0 := by unfold splitL; rw [e]; simp only [hs, if_true]
 by_cases h0 : scd t W H pane fresh rows = 0
 ·right
  rw [hc, hl, if_pos h0]
  obtain ⟨c1, c2, c3, c4⟩ := scd_ok h0
  have hfit := spl_fits t pane rows fresh W H o7 o6 c1
  rw [decide_eq_true c4] at hfit
  have h2 := flat_ok o1 (spl_le (s := t.sid pane rows W H / 2) (rows := rows) (fresh := fresh) o4 o6 c1 c3) (spl_good t pane rows (t.sid pane rows W H / 2) fresh o5 hs) (spl_nodup t pane rows (t.sid pane rows W H / 2) fresh o6 c2) hfit
  have hpl := spl_panes t pane rows (t.sid pane rows W H / 2) fresh o6 c1
  have hmem : fresh ∈ (t.spl pane rows (t.sid pane rows W H / 2) fresh).panes := (spl_mem t pane rows _ fresh fresh).2 (.inr ⟨rfl, c1⟩)
  have hnis : ¬ (t.spl pane rows (t.sid pane rows W H / 2) fresh).is fresh = true := fun h => by
   have h3 := is_panes h
   rw [h3] at hpl
   have := cnt_panes t; have := t.cnt_pos
   simp only [Tr.panes, List.length_singleton] at hpl
   omega
  have hsp : spC (t.spl pane rows (t.sid pane rows W H / 2) fresh) fresh = 0 := by unfold spC; rw [if_neg hnis, if_pos hmem]
  refine ⟨h0, _, h2, hpl, ?_, ?_⟩
  ·unfold killC; rw [h2]; exact hsp
  ·unfold killL; rw [h2]; simp only [hsp, if_true]
   rw [kl_spl t pane rows _ fresh c2, fit_id t W H o7]; exact o2.symm
 ·left
  rw [hc, hl, if_neg h0]
  refine ⟨?_, o2.symm⟩
  unfold scd at h0 ⊢
  rw [if_pos hm, if_neg hf] at h0 ⊢
  split
  ·exact .inr rfl
  ·split
   ·exact .inl rfl
   ·rename_i h1 h2; rw [if_neg h1, if_neg h2] at h0; exact absurd rfl h0
end Go.Proofs.YtgnecacoehedkaaDoor

/- A slice of bytes that came in leads to a row of bytes. -/
namespace Go.Proofs.YtgnecacoehedkaaDoor
open Go.ChangeShapes Go.WideShapes Go.ChangeAt Go.RowKit
theorem row8_ints {w : World} {x : Addr} {len cap : Nat} {zs : List Int} (hl : len ≤ cap) (hz : zs.length = cap) (hcell : ∀ i, i < zs.length → w.cell? (x.add i) = some (.int .u8 (zs.getD i 0))) (hwz : ∀ n ∈ zs, (Lit.int .u8 n).wf = true) :
  ∃ l : List UInt8, l.length = len ∧ Row8 w (some x) l := by
 refine ⟨(zs.take len).map (fun n => UInt8.ofNat n.toNat), by simp; omega, ?_⟩
 by_cases h0 : len = 0
 ·left; simp [h0]
 ·right
  obtain ⟨b, off, spot⟩ := x
  have hc := hcell 0 (by omega)
  have hspot : spot = none := by simpa [Addr.add] using World.cell?_spot hc
  subst hspot
  refine ⟨b, off, rfl, World.block_lt_of_cell? w _ hc, fun i hi => ?_⟩
  have hi' : i < len := by simp at hi; omega
  have hci := hcell i (by omega)
  have hlt : i < zs.length := by omega
  have hg : zs.getD i 0 = zs[i] := by simp [hlt]
  have hmem : zs.getD i 0 ∈ zs := by rw [hg]; exact List.getElem_mem _
  have hb := bounds_u8 (hwz _ hmem)
  rw [show (⟨b, off, none⟩ : Addr).add i = ⟨b, off + i, none⟩ from by unfold Addr.add; split <;> simp_all] at hci
  rw [hci]
  have e1 : ((zs.take len).map (fun n => UInt8.ofNat n.toNat))[i] = UInt8.ofNat (zs.getD i 0).toNat := by
   rw [List.getElem_map, List.getElem_take, hg]
  rw [e1, UInt8.toNat_ofNat']
  congr 2
  omega
end Go.Proofs.YtgnecacoehedkaaDoor
