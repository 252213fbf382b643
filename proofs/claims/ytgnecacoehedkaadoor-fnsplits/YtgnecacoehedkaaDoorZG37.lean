/- Texts put together: AreW MvwM SmpL KillO. -/
import Derived.Test.YtgnecacoehedkaaDoorZSrcL
import Derived.Test.YtgnecacoehedkaaDoorZG33
import Derived.Test.YtgnecacoehedkaaDoorZG36
import Derived.Test.YtgnecacoehedkaaDoorZG21
import Derived.Test.YtgnecacoehedkaaDoorZG4
import Derived.Test.YtgnecacoehedkaaDoorZG30
/- What the walks of laws over drawn layouts name besides. -/
namespace Go.Proofs.YtgnecacoehedkaaDoor
open Go.ChangeShapes Go.WideShapes Go.ChangeAt Go.RowKit
set_option linter.unusedVariables false
theorem arL_some {l : List Pt} {W H : Int} {t : Tr} (e : tofS l W H = some t) : arL l W H = t.areas 0 0 W H ∧ arC l W H = 0 := by unfold arL arC; rw [e]; exact ⟨rfl, rfl⟩
theorem areas_len6 {l : List Pt} {W H : Int} {t : Tr} (e : tofS l W H = some t) : (t.areas 0 0 W H).length ≤ 6 := by
 rw [areas_len]; have := cnt_panes t; have := (tofS_ok e).2.2.2.1; omega
end Go.Proofs.YtgnecacoehedkaaDoor

/- What the walks of FnMoves and FnSplits name besides: panes of areas, rows kept behind a store elsewhere. -/
namespace Go.Proofs.YtgnecacoehedkaaDoor
open Go.ChangeShapes Go.WideShapes Go.ChangeAt Go.RowKit
set_option linter.unusedVariables false
theorem areas_panes : ∀ (t : Tr) (x y w h : Int), (t.areas x y w h).map (·.pane) = t.panes := by
 intro t
 induction t using Tr.ind with
 | pane n => intro x y w h; rfl
 | split r s l t ihl iht =>
  intro x y w h
  cases r <;> simp only [Tr.areas, Tr.panes, List.map_append, ihl, iht, Bool.false_eq_true, if_false, if_true]
theorem area_pane {t : Tr} {x y w h : Int} {k : Nat} (h2 : k < (t.areas x y w h).length) : (t.areas x y w h)[k].pane ∈ t.panes := by
 rw [← areas_panes t x y w h]; exact List.mem_map_of_mem (List.getElem_mem h2)
theorem areas_pos (t : Tr) (x y w h : Int) : 0 < (t.areas x y w h).length := by
 rw [areas_len]; have := cnt_panes t; have := t.cnt_pos; omega
theorem bf_noti {w : World} {b P off : Nat} {a : Option Addr} {n c : Nat} {z : Int} (h : BF P #[.slice a n c] w) (h1 : w.cell? ⟨b, off, none⟩ = some (.int .i64 z)) : b ≠ P := by
 rintro rfl
 rw [h.S] at h1
 match off, h1 with
 | 0, h1 => simp at h1
 | _ + 1, h1 => simp at h1
theorem rowP_set {w : World} {a : Option Addr} {l : List Pt} {P : Nat} {x : Option Addr} {n c : Nat} (h : RowV w a (cPt l)) (hP : BF P #[.slice x n c] w) (v : Value) : RowV (w.setCell ⟨P, 0, none⟩ v) a (cPt l) := by
 by_cases hl : 0 < l.length
 ·obtain ⟨b, off, e, hlt, hc, ⟨i, hi⟩, -⟩ := row_off h hl
  have hne := bf_noti hP hi
  refine .inr ⟨b, off, e, by rw [World.size_setCell]; exact hlt, fun i u hu => ?_⟩
  rw [World.cell?_setCell_other _ _ _ _ (by intro h2; injection h2 with h3; exact hne h3.symm)]
  exact hc i u hu
 ·left; have h0 : l = [] := List.length_eq_zero_iff.1 (by omega); rw [h0]; rfl
theorem rowA_set {w : World} {a : Option Addr} {l : List Ar} {P : Nat} {x : Option Addr} {n c : Nat} (h : RowV w a (cAr l)) (hP : BF P #[.slice x n c] w) (v : Value) : RowV (w.setCell ⟨P, 0, none⟩ v) a (cAr l) := by
 by_cases hl : 0 < l.length
 ·obtain ⟨b, off, e, hlt, hc⟩ := h.at (by rw [cAr_len]; omega)
  have hi := hc _ _ (cAr_at l 0 hl).1
  have hne := bf_noti hP hi
  refine .inr ⟨b, off, e, by rw [World.size_setCell]; exact hlt, fun i u hu => ?_⟩
  rw [World.cell?_setCell_other _ _ _ _ (by intro h2; injection h2 with h3; exact hne h3.symm)]
  exact hc i u hu
 ·left; have h0 : l = [] := List.length_eq_zero_iff.1 (by omega); rw [h0]; rfl
/-- A drawn region's end, said once for all its orders: the temporaries as a function of the block made and the slice answered. -/
def CutQ (ACT : Nat → Option Addr → Nat → Act) (F : Nat → Option Addr → Nat → World → Prop) : Exit → Act → World → Prop := fun x a' v' =>
 match x with
 | .normal => ∃ P a c, a' = ACT P a c ∧ F P a c v'
 | _ => False
end Go.Proofs.YtgnecacoehedkaaDoor

/- The laws' own helper sameParts: layouts of the same parts. -/
namespace Go.Proofs.YtgnecacoehedkaaDoor
open Go.ChangeShapes Go.WideShapes Go.ChangeAt Go.RowKit
set_option linter.unusedVariables false
theorem row_same {w w' : World} {b off : Nat} {xs : List Value} (h : RowV w (some ⟨b, off, none⟩) xs) (hb : Below w.heap.size w w') : ∀ i u, xs[i]? = some u → w'.cell? ⟨b, off + i, none⟩ = some u := by
 rcases h.below hb with rfl | ⟨b', off', e, _, hc⟩
 ·intro i u hu; simp at hu
 ·injection e with e; injection e with e1 e2; subst e1 e2; exact hc
set_option maxHeartbeats 4000000 in
set_option maxRecDepth 100000 in
theorem sameParts (a c : Option Addr) (cap cap2 : Nat) (l : List Pt) (hl : l.length ≤ 1048576) (w : World) (hr : RowV w a (cPt l)) (hr2 : RowV w c (cPt l)) :
  Calls Tryd.prog 9 #[.agg #[.slice a l.length cap], .agg #[.slice c l.length cap2]] w fun e w' => e = .returned (.bool true) ∧ Below w.heap.size w w' := by
 have HR := hide hr
 have HR2 := hide hr2
 have HCL := hide (cPt_len l)
 clear hr hr2
 have hne : ((l.length : Int) != (l.length : Int)) = false := by simp
 have B0 := hide (Go.Joins.below_alloc2 w (.cells #[.slice a l.length cap] 26) (.cells #[.slice c l.length cap2] 26))
 have Z0 := hide ((BF.new w #[.slice a l.length cap] 26).alloc (.cells #[.slice c l.length cap2] 26))
 have Y0 := BF.new (w.alloc (.cells #[.slice a l.length cap] 26)) #[.slice c l.length cap2] 26
 rw [show (w.alloc (.cells #[.slice a l.length cap] 26)).heap.size = w.heap.size + 1 from by simp] at Y0
 have Y1 := hide Y0
 clear Y0
 go_enter Tryd.func9, Tryd.ntmps9
 go_wp2_with fail
 go_loopw [5] (fun i wr => ∃ k : Nat, k ≤ l.length ∧ i = .int .i64 k ∧ Hid (BF w.heap.size #[.slice a l.length cap] wr) ∧ Hid (BF (w.heap.size + 1) #[.slice c l.length cap2] wr) ∧ Hid (Below w.heap.size w wr)) (fun i _ => l.length - (intOf i).toNat)
 case atStart => exact ⟨0, by omega, rfl, Z0, Y1, B0⟩
 case round =>
  clear Z0 Y1 B0
  obtain ⟨k, hk, rfl, Z0, Y0, HB⟩ := hrel
  have zs := (unhide Z0).S
  have ys := (unhide Y0).S
  by_cases hlt : k < l.length
  ·obtain ⟨b, off, ha, hblt, hc⟩ := (unhide HR).at (by rw [unhide HCL]; omega)
   obtain ⟨b2, off2, ha2, hblt2, hc2⟩ := (unhide HR2).at (by rw [unhide HCL]; omega)
   subst ha ha2
   obtain ⟨x0, x1, x2, x3, x4⟩ := rowPt (row_same (unhide HR) (unhide HB)) k hlt
   obtain ⟨y0, y1, y2, y3, y4⟩ := rowPt (row_same (unhide HR2) (unhide HB)) k hlt
   obtain ⟨p, ep⟩ : ∃ p, p = l[k] := ⟨_, rfl⟩
   rw [← ep] at x0 x1 x2 x3 x4 y0 y1 y2 y3 y4
   have hlt' : (k : Int) < (l.length : Int) := by omega
   have hlt0 : (0 : Int) ≤ (k : Int) := by omega
   clear hc hc2 HCL ep hblt hblt2
   go_wp2_with fail
   go_region_held3 (fun w' => (∀ o, w'.cell? ⟨w.heap.size, o, none⟩ = (#[.slice (some ⟨b, off, none⟩) l.length cap] : Array Value)[o]?) ∧ (∀ o, w'.cell? ⟨w.heap.size + 1, o, none⟩ = (#[.slice (some ⟨b2, off2, none⟩) l.length cap2] : Array Value)[o]?) ∧ w'.cell? ⟨b, off + k * 5, none⟩ = some (.int .i64 p.pane) ∧ w'.cell? ⟨b, off + k * 5 + 1, none⟩ = some (.bool p.rows) ∧ w'.cell? ⟨b, off + k * 5 + 2, none⟩ = some (.int .i64 p.size) ∧ w'.cell? ⟨b, off + k * 5 + 3, none⟩ = some (.int .i64 p.left) ∧ w'.cell? ⟨b, off + k * 5 + 4, none⟩ = some (.int .i64 p.right) ∧ w'.cell? ⟨b2, off2 + k * 5, none⟩ = some (.int .i64 p.pane) ∧ w'.cell? ⟨b2, off2 + k * 5 + 1, none⟩ = some (.bool p.rows) ∧ w'.cell? ⟨b2, off2 + k * 5 + 2, none⟩ = some (.int .i64 p.size) ∧ w'.cell? ⟨b2, off2 + k * 5 + 3, none⟩ = some (.int .i64 p.left) ∧ w'.cell? ⟨b2, off2 + k * 5 + 4, none⟩ = some (.int .i64 p.right)) (exact ⟨zs, ys, x0, x1, x2, x3, x4, y0, y1, y2, y3, y4⟩) (fail)
   go_wp2_with fail
   go_roundw
   case rel => exact ⟨k + 1, by omega, by go_num, hide (unhide Z0).drew, hide (unhide Y0).drew, hide (unhide HB).drew⟩
   case measure => simp [intOf]; omega
  ·have hlt' : ¬ (k : Int) < (l.length : Int) := by omega
   go_wp2_with fail
   go_ret
   exact ⟨rfl, unhide HB⟩
end Go.Proofs.YtgnecacoehedkaaDoor

/- spec.KillArea: what the specification answers. -/
namespace Go.Proofs.YtgnecacoehedkaaDoor
open Go.ChangeShapes Go.WideShapes Go.ChangeAt Go.RowKit
end Go.Proofs.YtgnecacoehedkaaDoor
