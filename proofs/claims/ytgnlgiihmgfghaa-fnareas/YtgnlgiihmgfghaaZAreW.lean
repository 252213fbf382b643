/- What the walks of laws over drawn layouts name besides. -/
import Derived.Test.YtgnlgiihmgfghaaZSrcL
import Derived.Test.YtgnlgiihmgfghaaZSeeM
import Derived.Test.YtgnlgiihmgfghaaZG46
import Derived.Test.YtgnlgiihmgfghaaZLatI
namespace Go.Proofs.Ytgnlgiihmgfghaa
open Go.ChangeShapes Go.WideShapes Go.ChangeAt Go.RowKit
set_option linter.unusedVariables false
theorem rowV_cells {w : World} {b off : Nat} {xs : List Value} (h : RowV w (some ⟨b, off, none⟩) xs) : ∀ i u, xs[i]? = some u → w.cell? ⟨b, off + i, none⟩ = some u := by
 rcases h with rfl | ⟨b', off', e, _, hc⟩
 ·intro i u hu; simp at hu
 ·injection e with e; injection e with e1 e2; subst e1 e2; exact hc
theorem arL_some {l : List Pt} {W H : Int} {t : Tr} (e : tofS l W H = some t) : arL l W H = t.areas 0 0 W H ∧ arC l W H = 0 := by unfold arL arC; rw [e]; exact ⟨rfl, rfl⟩
theorem areas_len6 {l : List Pt} {W H : Int} {t : Tr} (e : tofS l W H = some t) : (t.areas 0 0 W H).length ≤ 6 := by
 rw [areas_len]; have := cnt_panes t; have := (tofS_ok e).2.2.2.1; omega
theorem ar_nat (a : Ar) (h : 0 ≤ a.x ∧ 0 ≤ a.y ∧ 0 ≤ a.w ∧ 0 ≤ a.h) : ∃ (pp : Int) (x y w h : Nat), (⟨pp, (x : Int), (y : Int), (w : Int), (h : Int)⟩ : Ar) = a := by
 obtain ⟨p, x, y, w, h'⟩ := a
 obtain ⟨h1, h2, h3, h4⟩ := h
 refine ⟨p, x.toNat, y.toNat, w.toNat, h'.toNat, ?_⟩
 simp only [Int.toNat_of_nonneg h1, Int.toNat_of_nonneg h2, Int.toNat_of_nonneg h3, Int.toNat_of_nonneg h4]
theorem cI_set (l : List Int) (q : Nat) (v : Int) : (cI l).set q (.int .i64 v) = cI (l.set q v) := by unfold cI; rw [List.map_set]
theorem cI_get {l : List Int} {q : Nat} {v : Int} (h : l[q]? = some v) : (cI l)[q]? = some (.int .i64 v) := by unfold cI; rw [List.getElem?_map, h]; rfl
end Go.Proofs.Ytgnlgiihmgfghaa
