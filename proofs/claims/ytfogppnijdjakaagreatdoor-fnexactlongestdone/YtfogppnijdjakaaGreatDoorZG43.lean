/- Texts put together: LgS ClkA ClkE EntO IntO StrO Agg2 Agg4 Agg9b Agg13. -/
import Derived.Test.YtfogppnijdjakaaGreatDoorZG18
import Derived.Test.YtfogppnijdjakaaGreatDoorZClkT
import Derived.Test.YtfogppnijdjakaaGreatDoorZCluL
import Derived.Test.YtfogppnijdjakaaGreatDoorZG23
import Derived.Test.YtfogppnijdjakaaGreatDoorZG1
import Derived.Lib.SmallJoins
import Derived.Deep.Strs
import Derived.Deep.SlicePairs
import Derived.Test.YtfogppnijdjakaaGreatDoorZG2
import Derived.OpenVars
import Derived.Test.YtfogppnijdjakaaGreatDoorZG0
/- spec.LongestDone. -/
namespace Go.Proofs.YtfogppnijdjakaaGreatDoor
open Go.ChangeShapes Go.WideShapes Go.ChangeAt Go.RowKit
set_option linter.unusedVariables false
set_option maxHeartbeats 4000000 in
set_option maxRecDepth 100000 in
theorem slongest (nv sv wv dv : Value) (c : Clu) (HF : Hid (c.fits 1048576)) (B : Bool) (HB : Hid (B = cluB c.nds c.sts c.wire c.done)) (m : Nat) (HM : Hid (m = (lgA B c.done).length)) (k : Int) (HC : Hid (k = lgC B)) (w : World) (h : CluR w nv sv wv dv c) :
  Calls Tryz.prog 5 #[.agg #[nv, sv, wv, dv]] w fun e w' => ∃ v, e = .returned (.tuple #[v, .int .i64 k]) ∧ Held w' w.heap.size w'.heap.size 9 v m (cS (lgA B c.done)) ∧ Below w.heap.size w w' := by
 obtain ⟨ad, kd, e4, h6⟩ := h.d
 obtain ⟨nd, hnd⟩ : ∃ n, c.done.length = n := ⟨_, rfl⟩
 rw [hnd] at e4
 subst e4
 have HND : Hid (c.done.length = nd) := hnd
 have hn20 : nd ≤ 1048576 := by rw [← hnd]; exact (unhide HF).1.2.2.2
 clear hnd
 have B0 := hide (Go.Joins.below_alloc1 w (.cells #[nv, sv, wv, .slice ad nd kd] 35))
 have C0 := hide (BF.new w #[nv, sv, wv, .slice ad nd kd] 35)
 have H6 := hide (h6.below (unhide B0))
 have HR := hide (CluR.below h (unhide B0))
 clear h h6
 have cc := (unhide C0).S
 go_enter Tryz.func5, Tryz.ntmps5
 go_wp2_with fail
 refine (sclusterok nv sv wv (.slice ad nd kd) c HF B HB _ (unhide HR)).mono ?_
 rintro e w1 ⟨rfl, hb⟩
 have B1 := hide ((unhide B0).trans (hb.mono (unhide B0).size))
 have C1 := hide ((unhide C0).below hb)
 have I6 := hide ((unhide H6).below hb)
 clear hb B0 C0 H6 HR cc
 cases B
 ·obtain rfl : k = 1 := unhide HC
  obtain rfl : m = 0 := unhide HM
  go_wp2_with fail
  go_ret2
  refine ⟨_, rfl, ?_, (unhide B1).trans ((Go.Joins.below_alloc1 _ _).mono (unhide B1).size)⟩
  exact heldZ_of (Go.Joins.ownsRow_le (by have h := World.ownsRow_lit (e := 9) (base := w1.heap.size) (size := 1) w1 #[] 0 (by simp) (by unfold maxLen; omega) rfl; exact h) (unhide B1).size)
 obtain rfl : k = 0 := unhide HC
 have cc := (unhide C1).S
 go_wp2_with fail
 refine (sdatas ad kd nd c.done HND hn20 _ (unhide I6)).mono ?_
 rintro e w2 ⟨v, rfl, ho, hb⟩
 have B2 := hide ((unhide B1).trans (hb.mono (unhide B1).size))
 have HO := hide (Go.Joins.ownsRow_le ho (unhide B1).size)
 clear ho hb cc C1 I6
 go_wp2_with fail
 go_ret2
 refine ⟨v, rfl, ?_, unhide B2⟩
 have e1 : m = (filS c.done).length := unhide HM
 rw [e1]
 exact heldZ_of (unhide HO)
end Go.Proofs.YtfogppnijdjakaaGreatDoor

/- Clusters with the same in them are right alike. -/
namespace Go.Proofs.YtfogppnijdjakaaGreatDoor
open Go.ChangeShapes Go.WideShapes Go.ChangeAt Go.RowKit
set_option linter.unusedVariables false
theorem nodesB_map (n : Nat) : ∀ (N N' : List NdA) (i : Nat) (S : List StA), N.map (·.n) = N'.map (·.n) → nodesB n i N S = nodesB n i N' S
 | [], [], _, _, _ => rfl
 | [], _ :: _, _, _, h => by simp at h
 | _ :: _, [], _, _, h => by simp at h
 | p :: N, p' :: N', i, S, h => by
  cases S with
  | nil => rfl
  | cons q S =>
   simp only [List.map_cons, List.cons.injEq] at h
   simp only [nodesB]
   rw [h.1, nodesB_map n N N' (i + 1) S h.2]
theorem wireB_map (n : Nat) (W W' : List MgA) (h : W.map (·.1) = W'.map (·.1)) : wireB n W = wireB n W' := by
 have e : ∀ X : List MgA, wireB n X = (X.map (·.1)).all (mgB n) := fun X => by unfold wireB; rw [List.all_map]; rfl
 rw [e, e, h]
theorem cluB_same {c d : Clu} (h : c.same d) : cluB c.nds c.sts c.wire c.done = cluB d.nds d.sts d.wire d.done := by
 obtain ⟨h1, h2, h3, h4⟩ := h
 have l1 : c.nds.length = d.nds.length := by have e := congrArg List.length h1; simpa using e
 have l3 : c.wire.length = d.wire.length := by have e := congrArg List.length h3; simpa using e
 unfold cluB
 rw [h2, h4, l1, l3, nodesB_map _ _ _ _ _ h1, wireB_map _ _ _ h3]
theorem fits_same {M : Nat} {c d : Clu} (h : c.same d) (hf : c.fits M) : d.fits M := by
 obtain ⟨h1, h2, h3, h4⟩ := h
 obtain ⟨⟨f1, f2, f3, f4⟩, g1, g2, g3, g4⟩ := hf
 have l1 : c.nds.length = d.nds.length := by have e := congrArg List.length h1; simpa using e
 have l3 : c.wire.length = d.wire.length := by have e := congrArg List.length h3; simpa using e
 refine ⟨⟨l1 ▸ f1, h2 ▸ f2, l3 ▸ f3, h4 ▸ f4⟩, fun p hp => ?_, h2 ▸ g2, fun p hp => ?_, ?_⟩
 ·have hm : p.n ∈ c.nds.map (·.n) := by rw [h1]; exact List.mem_map.2 ⟨p, hp, rfl⟩
  obtain ⟨q, hq, e⟩ := List.mem_map.1 hm
  exact fits_n (g1 q hq) e
 ·have hm : p.1 ∈ c.wire.map (·.1) := by rw [h3]; exact List.mem_map.2 ⟨p, hp, rfl⟩
  obtain ⟨q, hq, e⟩ := List.mem_map.1 hm
  have := g3 q hq
  rw [e] at this
  exact this
 ·intro k hk
  have e : d.done = c.done := h4.symm
  have := g4 k (by rw [← e]; exact hk)
  simpa only [← e] using this
theorem Clu.same_symm {c d : Clu} (h : c.same d) : d.same c := ⟨h.1.symm, h.2.1.symm, h.2.2.1.symm, h.2.2.2.symm⟩
theorem Clu.same_trans {c d e : Clu} (h : c.same d) (h2 : d.same e) : c.same e := ⟨h.1.trans h2.1, h.2.1.trans h2.2.1, h.2.2.1.trans h2.2.2.1, h.2.2.2.trans h2.2.2.2⟩
end Go.Proofs.YtfogppnijdjakaaGreatDoor

/- The listed errors of the laws over clusters. -/

namespace Go.Proofs.YtfogppnijdjakaaGreatDoor
open Go.ChangeShapes Go.WideShapes Go.ChangeAt Go.RowKit
theorem errs_laidLongestDone {W : World} (h : laidMetH Tryz.prog Rows.fnExactLongestDoneRow.laid W) : Errs9 W := by
 have h' : laidMet Tryz.prog [("loop.example/g00308/impl.errCutOff", Rows.laid_loop_example_g00308_impl_errCutOff), ("loop.example/g00308/impl.errBounds", Rows.laid_loop_example_g00308_impl_errBounds), ("loop.example/g00308/impl.errSum", Rows.laid_loop_example_g00308_impl_errSum), ("loop.example/g00308/impl.errBehind", Rows.laid_loop_example_g00308_impl_errBehind), ("loop.example/g00308/impl.errNoRecord", Rows.laid_loop_example_g00308_impl_errNoRecord), ("loop.example/g00308/impl.errNotRight", Rows.laid_loop_example_g00308_impl_errNotRight), ("loop.example/g00308/impl.errLowerTerm", Rows.laid_loop_example_g00308_impl_errLowerTerm), ("loop.example/g00308/impl.errRecordSize", Rows.laid_loop_example_g00308_impl_errRecordSize), ("loop.example/g00308/impl.errNoRoom", Rows.laid_loop_example_g00308_impl_errNoRoom)] W ∧ handlesMet Tryz.prog [("errors.errorType", Rows.laid_errors_errorType)] W := h
 exact errs9 h'.1 h'.2
end Go.Proofs.YtfogppnijdjakaaGreatDoor

/- A slice of entries that came in leads to a row of these. -/
namespace Go.Proofs.YtfogppnijdjakaaGreatDoor
open Go.ChangeShapes Go.WideShapes Go.ChangeAt Go.RowKit Go.Deep
section
variable {H : Type} {enc : TypeId × Value → H} {P : Program} {w : World} {base : Nat} {spare : Nat → Bool} {held : Bool}
theorem entries_field {t e : TypeId} {f0 f1 : Field} {fuel : Nat} {c : Value} {y : DataW H × List MemPlace} (ht : P.underlying t = some (.slice e)) (he : P.underlying e = some (.struct #[f0, f1])) (ce : P.cellsOf e = 2) (o0 : f0.offset = 0) (o1 : f1.offset = 1) (c0 : P.cellsOf f0.type = 1) (c1 : P.cellsOf f1.type = 1)
  (i0 : P.underlying f0.type = some (.int .i64)) (i1 : P.underlying f1.type = some .string) (h : DataW.trod enc P w base spare held fuel t [c] = some y) :
  ∃ (a : Option Addr) (len cap : Nat) (l : List (Int × ByteArray)), c = .slice a len cap ∧ l.length = len ∧ len ≤ maxLen ∧ (∀ k (h : k < l.length), l[k].2.size ≤ maxLen) ∧ RowV w a (cE l) := by
 rcases open_slice_pairs ht he ce o0 o1 c0 c1 h with ⟨hcs, _⟩ | ⟨x, len, cap, m, n, V0, V1, D0, D1, P0, P1, hcs, _, hl, hm, hmm, _, hx⟩
 ·simp at hcs
  exact ⟨none, 0, 0, [], hcs, rfl, by unfold maxLen; omega, fun k h => by simp at h, .inl rfl⟩
 ·simp at hcs
  have hlm : len ≤ m := by rw [hmm]; split <;> omega
  have hv : ∀ i, i < len → ∃ q : Int × ByteArray, V0 i = .int .i64 q.1 ∧ V1 i = .string q.2 ∧ q.2.size ≤ maxLen := by
   intro i hi
   obtain ⟨_, _, g0, g1⟩ := hx i (by omega)
   obtain ⟨a0, e0, _⟩ := DataW.trod_int i0 g0
   obtain ⟨a1, e1, _, e2⟩ := DataW.trod_string i1 g1
   exact ⟨(a0, a1), by simpa using e0, by simpa using e1, e2⟩
  obtain ⟨q, hq⟩ := choose_lt hv
  refine ⟨some x, len, cap, (List.range len).map q, hcs, by simp, by omega, fun k h => ?_, ?_⟩
  ·have : k < len := by simpa using h
   rw [List.getElem_map, List.getElem_range]; exact (hq k this).2.2
  by_cases h0 : len = 0
  ·left; simp [h0, cE]
  ·right
   obtain ⟨b, off, spot⟩ := x
   have hc0 := (hx 0 (by omega)).1
   have hspot : spot = none := by simpa [Addr.add] using World.cell?_spot hc0
   subst hspot
   refine ⟨b, off, rfl, World.block_lt_of_cell? w _ hc0, fun i u hu => ?_⟩
   have hi : i < (cE ((List.range len).map q)).length := (List.getElem?_eq_some_iff.1 hu).1
   rw [cE_len, List.length_map, List.length_range] at hi
   have hadd : ∀ j, (⟨b, off, none⟩ : Addr).add j = ⟨b, off + j, none⟩ := fun j => by unfold Addr.add; split <;> simp_all
   obtain ⟨x0, x1, _, _⟩ := hx (i / 2) (by omega)
   obtain ⟨q0, q1, _⟩ := hq (i / 2) (by omega)
   obtain ⟨z0, z1⟩ := cE_at ((List.range len).map q) (i / 2) (by simp; omega)
   rw [List.getElem_map, List.getElem_range] at z0 z1
   rw [hadd, q0] at x0
   rw [hadd, q1] at x1
   rcases Nat.mod_two_eq_zero_or_one i with hm2 | hm2
   ·rw [show i / 2 * 2 = i from by omega] at x0 z0
    rw [x0, ← hu, z0]
   ·rw [show i / 2 * 2 + 1 = i from by omega] at x1 z1
    rw [x1, ← hu, z1]
end
end Go.Proofs.YtfogppnijdjakaaGreatDoor

/- A slice of integers that came in leads to a row of these. -/
namespace Go.Proofs.YtfogppnijdjakaaGreatDoor
open Go.ChangeShapes Go.WideShapes Go.ChangeAt Go.RowKit Go.Deep
section
variable {H : Type} {enc : TypeId × Value → H} {P : Program} {w : World} {base : Nat} {spare : Nat → Bool} {held : Bool}
theorem ints_field {t e : TypeId} {fuel : Nat} {c : Value} {y : DataW H × List MemPlace} (ht : P.underlying t = some (.slice e)) (he : P.underlying e = some (.int .i64)) (hc : P.cellsOf e = 1)
  (h : DataW.trod enc P w base spare held fuel t [c] = some y) : ∃ (a : Option Addr) (len cap : Nat) (l : List Int), c = .slice a len cap ∧ l.length = len ∧ len ≤ maxLen ∧ RowV w a (cI l) := by
 rcases open_ints ht he hc h with ⟨hcs, _⟩ | ⟨x, len, cap, zs, hcs, _, hl, hm, hz, _, hcell, _⟩
 ·simp at hcs
  exact ⟨none, 0, 0, [], hcs, rfl, by unfold maxLen; omega, .inl rfl⟩
 ·simp at hcs
  have hzl : len ≤ zs.length := by rw [hz]; split <;> omega
  refine ⟨some x, len, cap, zs.take len, hcs, by simp; omega, by omega, ?_⟩
  by_cases h0 : len = 0
  ·left; simp [h0, cI]
  ·right
   obtain ⟨b, off, spot⟩ := x
   have hc0 := hcell 0 (by omega)
   have hspot : spot = none := by simpa [Addr.add] using World.cell?_spot hc0
   subst hspot
   refine ⟨b, off, rfl, World.block_lt_of_cell? w _ hc0, fun i u hu => ?_⟩
   have hi : i < (zs.take len).length := by have := (List.getElem?_eq_some_iff.1 hu).1; rwa [cI_len] at this
   have hi' : i < len := by simp at hi; omega
   have hci := hcell i (by omega)
   have hlt : i < zs.length := by omega
   rw [show (⟨b, off, none⟩ : Addr).add i = ⟨b, off + i, none⟩ from by unfold Addr.add; split <;> simp_all] at hci
   rw [hci, ← hu, cI_at _ i hi]
   simp [hlt, List.getElem_take]
end
end Go.Proofs.YtfogppnijdjakaaGreatDoor

/- A slice of texts that came in leads to a row of these; lists of five variables. -/
namespace Go.Proofs.YtfogppnijdjakaaGreatDoor
open Go.ChangeShapes Go.WideShapes Go.ChangeAt Go.RowKit Go.Deep
section
variable {H : Type} {enc : TypeId × Value → H} {P : Program} {w : World} {base : Nat} {spare : Nat → Bool} {held : Bool}
theorem strs_fieldO {t e : TypeId} {fuel : Nat} {c : Value} {y : DataW H × List MemPlace} (ht : P.underlying t = some (.slice e)) (he : P.underlying e = some .string) (hc : P.cellsOf e = 1) (h : DataW.trod enc P w base spare held fuel t [c] = some y) :
  ∃ (a : Option Addr) (len cap : Nat) (l : List ByteArray), c = .slice a len cap ∧ l.length = len ∧ len ≤ maxLen ∧ (∀ k (h : k < l.length), l[k].size ≤ maxLen) ∧ RowV w a (cS l) := by
 rcases open_strs ht he hc h with ⟨hcs, _⟩ | ⟨x, len, cap, m, Sx, hcs, _, hl, hm, hmm, _, hcell⟩
 ·simp at hcs
  exact ⟨none, 0, 0, [], hcs, rfl, by unfold maxLen; omega, fun k h => by simp at h, .inl rfl⟩
 ·simp at hcs
  have hlm : len ≤ m := by rw [hmm]; split <;> omega
  refine ⟨some x, len, cap, (List.range len).map Sx, hcs, by simp, by omega, fun k h => ?_, ?_⟩
  ·have : k < len := by simpa using h
   rw [List.getElem_map, List.getElem_range]; exact (hcell k (by omega)).2
  ·by_cases h0 : len = 0
   ·left; simp [h0, cS]
   ·right
    obtain ⟨b, off, spot⟩ := x
    have hc0 := (hcell 0 (by omega)).1
    have hspot : spot = none := by simpa [Addr.add] using World.cell?_spot hc0
    subst hspot
    refine ⟨b, off, rfl, World.block_lt_of_cell? w _ hc0, fun i u hu => ?_⟩
    have hi : i < ((List.range len).map Sx).length := by have := (List.getElem?_eq_some_iff.1 hu).1; rwa [cS_len] at this
    have hi' : i < len := by simpa using hi
    have hci := (hcell i (by omega)).1
    rw [show (⟨b, off, none⟩ : Addr).add i = ⟨b, off + i, none⟩ from by unfold Addr.add; split <;> simp_all] at hci
    rw [hci, ← hu, cS_at _ i hi, List.getElem_map, List.getElem_range]
end
end Go.Proofs.YtfogppnijdjakaaGreatDoor

/- A struct of 2 one-cell fields that came in by value, opened; a slice of pairs of integers and a slice of texts that came in lead to rows of these. -/

namespace Go.Proofs.YtfogppnijdjakaaGreatDoor
open Go.ChangeShapes Go.WideShapes Go.ChangeAt Go.RowKit Go.Deep
section
variable {H : Type} {enc : TypeId × Value → H} {P : Program} {w : World} {base : Nat} {spare : Nat → Bool} {held : Bool}
theorem trod_struct2 {t : TypeId} {f0 f1 : Field} {fuel : Nat} {cs : List Value} {x : DataW H × List MemPlace} (ht : P.underlying t = some (.struct #[f0, f1])) (h : DataW.trod enc P w base spare held fuel t cs = some x) :
  ∃ y0 y1 n, DataW.trod enc P w base spare held n f0.type ((cs.drop f0.offset).take (P.cellsOf f0.type)) = some y0 ∧ DataW.trod enc P w base spare held n f1.type ((cs.drop f1.offset).take (P.cellsOf f1.type)) = some y1 := by
 obtain ⟨xs, n, _, _, hl, hlen, hf⟩ := DataW.trod_struct ht h
 match xs, hlen, hf with
 | [y0, y1], _, hf => exact ⟨y0, y1, n, by simpa using hf 0 f0 rfl, by simpa using hf 1 f1 rfl⟩
end
end Go.Proofs.YtfogppnijdjakaaGreatDoor

/- A struct of 4 one-cell fields that came in by value, opened; a slice of pairs of integers and a slice of texts that came in lead to rows of these. -/

namespace Go.Proofs.YtfogppnijdjakaaGreatDoor
open Go.ChangeShapes Go.WideShapes Go.ChangeAt Go.RowKit Go.Deep
section
variable {H : Type} {enc : TypeId × Value → H} {P : Program} {w : World} {base : Nat} {spare : Nat → Bool} {held : Bool}
theorem array4 {α : Type} {cs : Array α} (h : cs.size = 4) : ∃ c0 c1 c2 c3, cs = #[c0, c1, c2, c3] := by
 obtain ⟨l⟩ := cs
 match l, h with
 | [c0, c1, c2, c3], _ => exact ⟨c0, c1, c2, c3, rfl⟩
theorem trod_struct4 {t : TypeId} {f0 f1 f2 f3 : Field} {fuel : Nat} {cs : List Value} {x : DataW H × List MemPlace} (ht : P.underlying t = some (.struct #[f0, f1, f2, f3])) (h : DataW.trod enc P w base spare held fuel t cs = some x) :
  ∃ y0 y1 y2 y3 n, DataW.trod enc P w base spare held n f0.type ((cs.drop f0.offset).take (P.cellsOf f0.type)) = some y0 ∧ DataW.trod enc P w base spare held n f1.type ((cs.drop f1.offset).take (P.cellsOf f1.type)) = some y1 ∧ DataW.trod enc P w base spare held n f2.type ((cs.drop f2.offset).take (P.cellsOf f2.type)) = some y2 ∧ DataW.trod enc P w base spare held n f3.type ((cs.drop f3.offset).take (P.cellsOf f3.type)) = some y3 := by
 obtain ⟨xs, n, _, _, hl, hlen, hf⟩ := DataW.trod_struct ht h
 match xs, hlen, hf with
 | [y0, y1, y2, y3], _, hf => exact ⟨y0, y1, y2, y3, n, by simpa using hf 0 f0 rfl, by simpa using hf 1 f1 rfl, by simpa using hf 2 f2 rfl, by simpa using hf 3 f3 rfl⟩
theorem open_agg4 {r : Reach} {b0 : Nat} {t : TypeId} {f0 f1 f2 f3 : Field} {v : Value} {d : DataW H} {p : List MemPlace} (hs : P.underlying t = some (.struct #[f0, f1, f2, f3])) (hone : oneCellFields P #[f0, f1, f2, f3] = true) (hC : P.cellsOf t = 4)
  (hv : Value.okWide P w r b0 t v) (h : DataW.Trod enc P w base spare held t v d p) :
  ∃ (v0 v1 v2 v3 : Value) (y0 y1 y2 y3 : DataW H × List MemPlace) (n : Nat), v = .agg #[v0, v1, v2, v3] ∧ DataW.trod enc P w base spare held n f0.type [v0] = some y0 ∧ DataW.trod enc P w base spare held n f1.type [v1] = some y1 ∧ DataW.trod enc P w base spare held n f2.type [v2] = some y2 ∧ DataW.trod enc P w base spare held n f3.type [v3] = some y3 := by
 obtain ⟨cs, rfl, hsz⟩ := okWide_struct hs hv
 obtain ⟨c0, c1, c2, c3, rfl⟩ := array4 (hsz.trans hC)
 obtain ⟨fuel, hf⟩ := h
 obtain ⟨y0, y1, y2, y3, n, h0, h1, h2, h3⟩ := trod_struct4 hs hf
 obtain ⟨o0, k0⟩ := hone_of hone 0 f0 rfl
 obtain ⟨o1, k1⟩ := hone_of hone 1 f1 rfl
 obtain ⟨o2, k2⟩ := hone_of hone 2 f2 rfl
 obtain ⟨o3, k3⟩ := hone_of hone 3 f3 rfl
 exact ⟨c0, c1, c2, c3, y0, y1, y2, y3, n, rfl, by simpa [Value.cells, o0, k0] using h0, by simpa [Value.cells, o1, k1] using h1, by simpa [Value.cells, o2, k2] using h2, by simpa [Value.cells, o3, k3] using h3⟩
end
end Go.Proofs.YtfogppnijdjakaaGreatDoor

/- A struct of 9 one-cell fields that came in by value, opened; a slice of pairs of integers and a slice of texts that came in lead to rows of these. -/

namespace Go.Proofs.YtfogppnijdjakaaGreatDoor
open Go.ChangeShapes Go.WideShapes Go.ChangeAt Go.RowKit Go.Deep
section
variable {H : Type} {enc : TypeId × Value → H} {P : Program} {w : World} {base : Nat} {spare : Nat → Bool} {held : Bool}
theorem trod_struct9 {t : TypeId} {f0 f1 f2 f3 f4 f5 f6 f7 f8 : Field} {fuel : Nat} {cs : List Value} {x : DataW H × List MemPlace} (ht : P.underlying t = some (.struct #[f0, f1, f2, f3, f4, f5, f6, f7, f8])) (h : DataW.trod enc P w base spare held fuel t cs = some x) :
  ∃ y0 y1 y2 y3 y4 y5 y6 y7 y8 n, DataW.trod enc P w base spare held n f0.type ((cs.drop f0.offset).take (P.cellsOf f0.type)) = some y0 ∧ DataW.trod enc P w base spare held n f1.type ((cs.drop f1.offset).take (P.cellsOf f1.type)) = some y1 ∧ DataW.trod enc P w base spare held n f2.type ((cs.drop f2.offset).take (P.cellsOf f2.type)) = some y2 ∧ DataW.trod enc P w base spare held n f3.type ((cs.drop f3.offset).take (P.cellsOf f3.type)) = some y3 ∧ DataW.trod enc P w base spare held n f4.type ((cs.drop f4.offset).take (P.cellsOf f4.type)) = some y4 ∧ DataW.trod enc P w base spare held n f5.type ((cs.drop f5.offset).take (P.cellsOf f5.type)) = some y5 ∧ DataW.trod enc P w base spare held n f6.type ((cs.drop f6.offset).take (P.cellsOf f6.type)) = some y6 ∧ DataW.trod enc P w base spare held n f7.type ((cs.drop f7.offset).take (P.cellsOf f7.type)) = some y7 ∧ DataW.trod enc P w base spare held n f8.type ((cs.drop f8.offset).take (P.cellsOf f8.type)) = some y8 := by
 obtain ⟨xs, n, _, _, hl, hlen, hf⟩ := DataW.trod_struct ht h
 match xs, hlen, hf with
 | [y0, y1, y2, y3, y4, y5, y6, y7, y8], _, hf => exact ⟨y0, y1, y2, y3, y4, y5, y6, y7, y8, n, by simpa using hf 0 f0 rfl, by simpa using hf 1 f1 rfl, by simpa using hf 2 f2 rfl, by simpa using hf 3 f3 rfl, by simpa using hf 4 f4 rfl, by simpa using hf 5 f5 rfl, by simpa using hf 6 f6 rfl, by simpa using hf 7 f7 rfl, by simpa using hf 8 f8 rfl⟩
end
end Go.Proofs.YtfogppnijdjakaaGreatDoor

/- A struct of 13 one-cell fields that came in by value, opened; a slice of pairs of integers and a slice of texts that came in lead to rows of these. -/

namespace Go.Proofs.YtfogppnijdjakaaGreatDoor
open Go.ChangeShapes Go.WideShapes Go.ChangeAt Go.RowKit Go.Deep
section
variable {H : Type} {enc : TypeId × Value → H} {P : Program} {w : World} {base : Nat} {spare : Nat → Bool} {held : Bool}
theorem trod_struct13 {t : TypeId} {f0 f1 f2 f3 f4 f5 f6 f7 f8 f9 f10 f11 f12 : Field} {fuel : Nat} {cs : List Value} {x : DataW H × List MemPlace} (ht : P.underlying t = some (.struct #[f0, f1, f2, f3, f4, f5, f6, f7, f8, f9, f10, f11, f12])) (h : DataW.trod enc P w base spare held fuel t cs = some x) :
  ∃ y0 y1 y2 y3 y4 y5 y6 y7 y8 y9 y10 y11 y12 n, DataW.trod enc P w base spare held n f0.type ((cs.drop f0.offset).take (P.cellsOf f0.type)) = some y0 ∧ DataW.trod enc P w base spare held n f1.type ((cs.drop f1.offset).take (P.cellsOf f1.type)) = some y1 ∧ DataW.trod enc P w base spare held n f2.type ((cs.drop f2.offset).take (P.cellsOf f2.type)) = some y2 ∧ DataW.trod enc P w base spare held n f3.type ((cs.drop f3.offset).take (P.cellsOf f3.type)) = some y3 ∧ DataW.trod enc P w base spare held n f4.type ((cs.drop f4.offset).take (P.cellsOf f4.type)) = some y4 ∧ DataW.trod enc P w base spare held n f5.type ((cs.drop f5.offset).take (P.cellsOf f5.type)) = some y5 ∧ DataW.trod enc P w base spare held n f6.type ((cs.drop f6.offset).take (P.cellsOf f6.type)) = some y6 ∧ DataW.trod enc P w base spare held n f7.type ((cs.drop f7.offset).take (P.cellsOf f7.type)) = some y7 ∧ DataW.trod enc P w base spare held n f8.type ((cs.drop f8.offset).take (P.cellsOf f8.type)) = some y8 ∧ DataW.trod enc P w base spare held n f9.type ((cs.drop f9.offset).take (P.cellsOf f9.type)) = some y9 ∧ DataW.trod enc P w base spare held n f10.type ((cs.drop f10.offset).take (P.cellsOf f10.type)) = some y10 ∧ DataW.trod enc P w base spare held n f11.type ((cs.drop f11.offset).take (P.cellsOf f11.type)) = some y11 ∧ DataW.trod enc P w base spare held n f12.type ((cs.drop f12.offset).take (P.cellsOf f12.type)) = some y12 := by
 obtain ⟨xs, n, _, _, hl, hlen, hf⟩ := DataW.trod_struct ht h
 match xs, hlen, hf with
 | [y0, y1, y2, y3, y4, y5, y6, y7, y8, y9, y10, y11, y12], _, hf => exact ⟨y0, y1, y2, y3, y4, y5, y6, y7, y8, y9, y10, y11, y12, n, by simpa using hf 0 f0 rfl, by simpa using hf 1 f1 rfl, by simpa using hf 2 f2 rfl, by simpa using hf 3 f3 rfl, by simpa using hf 4 f4 rfl, by simpa using hf 5 f5 rfl, by simpa using hf 6 f6 rfl, by simpa using hf 7 f7 rfl, by simpa using hf 8 f8 rfl, by simpa using hf 9 f9 rfl, by simpa using hf 10 f10 rfl, by simpa using hf 11 f11 rfl, by simpa using hf 12 f12 rfl⟩
end
end Go.Proofs.YtfogppnijdjakaaGreatDoor
