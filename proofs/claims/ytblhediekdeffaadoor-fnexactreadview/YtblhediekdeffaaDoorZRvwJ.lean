/- ReadView: what the program answers, as a whole. -/
import Derived.Test.YtblhediekdeffaaDoorZRvwI
import Derived.Test.YtblhediekdeffaaDoorZReadFT
namespace Go.Proofs.YtblhediekdeffaaDoor
open Go.ChangeShapes Go.WideShapes Go.ChangeAt Go.RowKit
set_option linter.unusedVariables false
theorem ibeq3 {b1 : Nat} {v1 : Value} {x y : List UInt8} {a : Option Addr} {cap len : Nat} (E : Bool) (HE : Hid (E = decide (x = y))) (HLEN : Hid (y.length = len)) (w : World) (h1 : w.ownsRow b1 5 1 v1 x.length (B8 x)) (h2 : RowV w a (B8 y)) :
    Calls Tryd.prog 16 #[v1, .slice a len cap] w fun e w' => e = .returned (.bool E) ∧ w' = w := by
  have c1 := conv_own (P := Tryd.prog) Tryd.underlying22 Tryd.underlying5 Tryd.underlying9 h1
  have c2 := conv_row8 (cap := cap) (P := Tryd.prog) Tryd.underlying22 Tryd.underlying5 Tryd.underlying9 (rowV_8 h2)
  rw [unhide HLEN] at c2
  obtain ⟨a1, n1, rfl, -⟩ := own_rowV h1
  have hE : ((⟨x.toArray⟩ : ByteArray).toList == (⟨y.toArray⟩ : ByteArray).toList) = E := by rw [unhide HE, ByteArray.toList_eq, ByteArray.toList_eq, Bool.eq_iff_iff]; simp
  clear h1 h2 HE HLEN
  generalize (⟨x.toArray⟩ : ByteArray) = X at *
  generalize (⟨y.toArray⟩ : ByteArray) = Y at *
  go_enter Tryd.func16, Tryd.ntmps16
  go_wp2_with fail
  go_ret
  exact ⟨rfl, rfl⟩
set_option maxHeartbeats 2000000 in
set_option maxRecDepth 100000 in
theorem irv_bad (a : Option Addr) (cap len : Nat) (d : Int) (m : List ByteArray) (ml : Nat) (hd : (d != 0) = true) (w : World) (T1 : Hid (∀ w1, Below w.heap.size w w1 → Calls Tryd.prog 13 #[.slice a len cap] w1 fun e w' => ∃ v', e = .returned (.tuple #[v', .int .i64 d]) ∧ w'.ownsRow w1.heap.size 9 1 v' ml (cS m) ∧ Below w1.heap.size w1 w')) :
    Calls Tryd.prog 6 #[.slice a len cap] w fun e w' => ∃ v', e = .returned (.tuple #[.agg #[.int .i64 0, .int .i64 0, .bool false, .int .i64 0, .int .i64 0, v'], .int .i64 d]) ∧ w'.ownsRow w.heap.size 51 2 v' 0 [] ∧ Below w.heap.size w w' := by
  have B0 := hide (Go.Joins.below_alloc1 w (Obj.cells #[.int .i64 0, .int .i64 0, .bool false, .int .i64 0, .int .i64 0, .slice none 0 0] 25))
  have Y0 := hide (BF.new w #[.int .i64 0, .int .i64 0, .bool false, .int .i64 0, .int .i64 0, .slice none 0 0] 25)
  go_enter Tryd.func6, Tryd.ntmps6
  go_wp2_with fail
  refine (unhide T1 _ (unhide B0)).mono ?_
  rintro e w1 ⟨v1, rfl, ho1, hb1⟩
  obtain ⟨a1, c1, rfl, -⟩ := own_rowV ho1
  have B1 := hide ((unhide B0).trans (hb1.mono (unhide B0).size))
  have Y1 := hide ((unhide Y0).below hb1)
  clear ho1 hb1 T1 B0 Y0
  have kz := (unhide Y1).S
  have kf := (unhide Y1).F
  go_wp2_with fail
  refine bodyPost_ret (v := .tuple #[.agg #[.int .i64 0, .int .i64 0, .bool false, .int .i64 0, .int .i64 0, .slice none 0 0], .int .i64 d]) (by simp [results, Tryd.results6, go_sem, kz]) rfl ⟨_, rfl, World.ownsRow_nil _ _ _ _, ?_⟩
  iterate 6 refine Below.setCell ?_ (by exact Nat.le_refl _) _
  exact unhide B1
set_option maxHeartbeats 2000000 in
set_option maxRecDepth 100000 in
theorem irv_no (a : Option Addr) (cap len : Nat) (m : List ByteArray) (ml : Nat) (T3 : Hid (∀ (a1 : Option Addr) (c1 : Nat) (w1 w0 : World), w1.ownsRow w0.heap.size 9 1 (.slice a1 ml c1) ml (cS m) → Calls Tryd.prog 14 #[.slice a1 ml c1] w1 fun e w' => e = .returned (.tuple #[.agg #[.int .i64 0, .int .i64 0, .bool false, .int .i64 0, .int .i64 0, .slice none 0 0], .bool false]) ∧ Below w1.heap.size w1 w')) (w : World) (T1 : Hid (∀ w1, Below w.heap.size w w1 → Calls Tryd.prog 13 #[.slice a len cap] w1 fun e w' => ∃ v', e = .returned (.tuple #[v', .int .i64 0]) ∧ w'.ownsRow w1.heap.size 9 1 v' ml (cS m) ∧ Below w1.heap.size w1 w')) :
    Calls Tryd.prog 6 #[.slice a len cap] w fun e w' => ∃ v', e = .returned (.tuple #[.agg #[.int .i64 0, .int .i64 0, .bool false, .int .i64 0, .int .i64 0, v'], .int .i64 3]) ∧ w'.ownsRow w.heap.size 51 2 v' 0 [] ∧ Below w.heap.size w w' := by
  have B0 := hide (Go.Joins.below_alloc1 w (Obj.cells #[.int .i64 0, .int .i64 0, .bool false, .int .i64 0, .int .i64 0, .slice none 0 0] 25))
  have Y0 := hide (BF.new w #[.int .i64 0, .int .i64 0, .bool false, .int .i64 0, .int .i64 0, .slice none 0 0] 25)
  go_enter Tryd.func6, Tryd.ntmps6
  go_wp2_with fail
  refine (unhide T1 _ (unhide B0)).mono ?_
  rintro e w1 ⟨v1, rfl, ho1, hb1⟩
  obtain ⟨a1, c1, rfl, -⟩ := own_rowV ho1
  have B1 := hide ((unhide B0).trans (hb1.mono (unhide B0).size))
  have Y1 := hide ((unhide Y0).below hb1)
  have T4 := hide (unhide T3 _ _ _ _ ho1)
  clear ho1 hb1 T1 T3 B0 Y0
  go_wp2_with fail
  refine (unhide T4).mono ?_
  rintro e w3 ⟨rfl, hb3⟩
  clear T4
  have B3 := hide (((unhide B1).trans (hb3.mono (unhide B1).size)).alloc (Nat.le_trans (unhide B1).size hb3.size) (Obj.cells #[.int .i64 0, .int .i64 0, .bool false, .int .i64 0, .int .i64 0, .slice none 0 0] 25))
  have Y3 := hide (((unhide Y1).below hb3).alloc (Obj.cells #[.int .i64 0, .int .i64 0, .bool false, .int .i64 0, .int .i64 0, .slice none 0 0] 25))
  have A3 := hide (BF.new w3 #[.int .i64 0, .int .i64 0, .bool false, .int .i64 0, .int .i64 0, .slice none 0 0] 25)
  clear hb3 B1 Y1
  have q := (unhide A3).S
  go_wp2_with fail
  refine (ivb 0 0 false 0 0 none 0 0 [] (show Hid (([] : List Rw).length = 0) from rfl) (by decide) (show Hid _ from fun k h => absurd h (Nat.not_lt_zero _)) false [] 1 (show Hid _ from ⟨by decide, rfl, rfl⟩) _ (.inl rfl)).mono ?_
  rintro e w5 ⟨v5, rfl, ho5, hb5⟩
  obtain ⟨a5, c5, rfl, -⟩ := own_rowV ho5
  have B5 := hide ((unhide B3).trans (hb5.mono (unhide B3).size))
  have Y5 := hide ((unhide Y3).below hb5)
  clear ho5 hb5 B3 Y3 A3 q
  have kz := (unhide Y5).S
  have kf := (unhide Y5).F
  go_wp2_with fail
  refine bodyPost_ret (v := .tuple #[.agg #[.int .i64 0, .int .i64 0, .bool false, .int .i64 0, .int .i64 0, .slice none 0 0], .int .i64 3]) (by simp [results, Tryd.results6, go_sem, kz]) rfl ⟨_, rfl, World.ownsRow_nil _ _ _ _, ?_⟩
  iterate 6 refine Below.setCell ?_ (by exact Nat.le_refl _) _
  exact unhide B5
set_option maxHeartbeats 2000000 in
set_option maxRecDepth 100000 in
theorem irv_f (a : Option Addr) (cap len : Nat) (m : List ByteArray) (ml : Nat) (L : List Rw) (r : Nat) (HRN : Hid (L.length = r)) (hr10 : r ≤ 60) (HSL : Hid (∀ k (h : k < L.length), L[k].2.size ≤ 1048576)) (x0 x1 : Int) (fu : Bool) (x3 x4 : Int) (T3 : Hid (∀ (a1 : Option Addr) (c1 : Nat) (w1 w0 : World), w1.ownsRow w0.heap.size 9 1 (.slice a1 ml c1) ml (cS m) → Calls Tryd.prog 14 #[.slice a1 ml c1] w1 fun e w' => ∃ a2 c2, e = .returned (.tuple #[.agg #[.int .i64 x0, .int .i64 x1, .bool fu, .int .i64 x3, .int .i64 x4, .slice a2 r c2], .bool true]) ∧ w'.ownsRow w1.heap.size 51 2 (.slice a2 r c2) r (cE L) ∧ Below w1.heap.size w1 w')) (HVB : Hid (VbIs x0 x1 fu x3 x4 L false [] 1)) (w : World) (T1 : Hid (∀ w1, Below w.heap.size w w1 → Calls Tryd.prog 13 #[.slice a len cap] w1 fun e w' => ∃ v', e = .returned (.tuple #[v', .int .i64 0]) ∧ w'.ownsRow w1.heap.size 9 1 v' ml (cS m) ∧ Below w1.heap.size w1 w')) :
    Calls Tryd.prog 6 #[.slice a len cap] w fun e w' => ∃ v', e = .returned (.tuple #[.agg #[.int .i64 0, .int .i64 0, .bool false, .int .i64 0, .int .i64 0, v'], .int .i64 3]) ∧ w'.ownsRow w.heap.size 51 2 v' 0 [] ∧ Below w.heap.size w w' := by
  have B0 := hide (Go.Joins.below_alloc1 w (Obj.cells #[.int .i64 0, .int .i64 0, .bool false, .int .i64 0, .int .i64 0, .slice none 0 0] 25))
  have Y0 := hide (BF.new w #[.int .i64 0, .int .i64 0, .bool false, .int .i64 0, .int .i64 0, .slice none 0 0] 25)
  go_enter Tryd.func6, Tryd.ntmps6
  go_wp2_with fail
  refine (unhide T1 _ (unhide B0)).mono ?_
  rintro e w1 ⟨v1, rfl, ho1, hb1⟩
  obtain ⟨a1, c1, rfl, -⟩ := own_rowV ho1
  have B1 := hide ((unhide B0).trans (hb1.mono (unhide B0).size))
  have Y1 := hide ((unhide Y0).below hb1)
  have T4 := hide (unhide T3 _ _ _ _ ho1)
  have HR60 := hide hr10
  clear ho1 hb1 T1 T3 B0 Y0 hr10
  go_wp2_with fail
  refine (unhide T4).mono ?_
  rintro e w3 ⟨a2, c2, rfl, ho3, hb3⟩
  clear T4
  have RV := hide ((rowZ_at ho3).below (Go.Joins.below_alloc1 w3 (Obj.cells #[.int .i64 x0, .int .i64 x1, .bool fu, .int .i64 x3, .int .i64 x4, .slice a2 r c2] 25)))
  have O3 := hide (Go.Joins.ownsRow_le ((heldZ_of ho3).below (Go.Joins.below_alloc1 w3 (Obj.cells #[.int .i64 x0, .int .i64 x1, .bool fu, .int .i64 x3, .int .i64 x4, .slice a2 r c2] 25)) (Nat.le_refl _)).own (show w.heap.size + 1 ≤ _ from (unhide Y1).lt))
  have B3 := hide (((unhide B1).trans (hb3.mono (unhide B1).size)).alloc (Nat.le_trans (unhide B1).size hb3.size) (Obj.cells #[.int .i64 x0, .int .i64 x1, .bool fu, .int .i64 x3, .int .i64 x4, .slice a2 r c2] 25))
  have Y3 := hide (((unhide Y1).below hb3).alloc (Obj.cells #[.int .i64 x0, .int .i64 x1, .bool fu, .int .i64 x3, .int .i64 x4, .slice a2 r c2] 25))
  have A3 := hide (BF.new w3 #[.int .i64 x0, .int .i64 x1, .bool fu, .int .i64 x3, .int .i64 x4, .slice a2 r c2] 25)
  have ne3 : Hid (w.heap.size < w3.heap.size) := Nat.lt_of_lt_of_le (unhide Y1).lt hb3.size
  clear hb3 ho3 B1 Y1
  have q := (unhide A3).S
  go_wp2_with fail
  refine (ivb x0 x1 fu x3 x4 a2 c2 r L HRN (by have := unhide HR60; omega) HSL false [] 1 HVB _ (unhide RV)).mono ?_
  rintro e w5 ⟨v5, rfl, ho5, hb5⟩
  obtain ⟨a5, c5, rfl, -⟩ := own_rowV ho5
  have B5 := hide ((unhide B3).trans (hb5.mono (unhide B3).size))
  have Y5 := hide ((unhide Y3).below hb5)
  have A5 := hide ((unhide A3).below hb5)
  have O5 := hide ((heldZ_of (unhide O3)).below hb5 (Nat.le_refl _)).own
  have HO5 := hide ho5
  clear ho5 hb5 B3 Y3 A3 O3 q
  have kz := (unhide Y5).S
  have kf := (unhide Y5).F
  go_wp2_with fail
  refine bodyPost_ret (v := .tuple #[.agg #[.int .i64 0, .int .i64 0, .bool false, .int .i64 0, .int .i64 0, .slice none 0 0], .int .i64 3]) (by simp [results, Tryd.results6, go_sem, kz]) rfl ⟨_, rfl, World.ownsRow_nil _ _ _ _, ?_⟩
  iterate 6 refine Below.setCell ?_ (by exact Nat.le_refl _) _
  exact unhide B5
set_option maxHeartbeats 2000000 in
set_option maxRecDepth 100000 in
theorem irv_e (a : Option Addr) (cap len : Nat) (m : List ByteArray) (ml : Nat) (L : List Rw) (r : Nat) (HRN : Hid (L.length = r)) (hr10 : r ≤ 60) (HSL : Hid (∀ k (h : k < L.length), L[k].2.size ≤ 1048576)) (x0 x1 : Int) (fu : Bool) (x3 x4 : Int) (T3 : Hid (∀ (a1 : Option Addr) (c1 : Nat) (w1 w0 : World), w1.ownsRow w0.heap.size 9 1 (.slice a1 ml c1) ml (cS m) → Calls Tryd.prog 14 #[.slice a1 ml c1] w1 fun e w' => ∃ a2 c2, e = .returned (.tuple #[.agg #[.int .i64 x0, .int .i64 x1, .bool fu, .int .i64 x3, .int .i64 x4, .slice a2 r c2], .bool true]) ∧ w'.ownsRow w1.heap.size 51 2 (.slice a2 r c2) r (cE L) ∧ Below w1.heap.size w1 w')) (LB : List UInt8) (HVB : Hid (VbIs x0 x1 fu x3 x4 L true LB 0)) (l : List UInt8) (HLEN : Hid (l.length = len)) (HEE : Hid (false = decide (LB = l))) (w : World) (hr : RowV w a (B8 l)) (T1 : Hid (∀ w1, Below w.heap.size w w1 → Calls Tryd.prog 13 #[.slice a len cap] w1 fun e w' => ∃ v', e = .returned (.tuple #[v', .int .i64 0]) ∧ w'.ownsRow w1.heap.size 9 1 v' ml (cS m) ∧ Below w1.heap.size w1 w')) :
    Calls Tryd.prog 6 #[.slice a len cap] w fun e w' => ∃ v', e = .returned (.tuple #[.agg #[.int .i64 0, .int .i64 0, .bool false, .int .i64 0, .int .i64 0, v'], .int .i64 3]) ∧ w'.ownsRow w.heap.size 51 2 v' 0 [] ∧ Below w.heap.size w w' := by
  have HR := hide hr
  clear hr
  have B0 := hide (Go.Joins.below_alloc1 w (Obj.cells #[.int .i64 0, .int .i64 0, .bool false, .int .i64 0, .int .i64 0, .slice none 0 0] 25))
  have Y0 := hide (BF.new w #[.int .i64 0, .int .i64 0, .bool false, .int .i64 0, .int .i64 0, .slice none 0 0] 25)
  go_enter Tryd.func6, Tryd.ntmps6
  go_wp2_with fail
  refine (unhide T1 _ (unhide B0)).mono ?_
  rintro e w1 ⟨v1, rfl, ho1, hb1⟩
  obtain ⟨a1, c1, rfl, -⟩ := own_rowV ho1
  have B1 := hide ((unhide B0).trans (hb1.mono (unhide B0).size))
  have Y1 := hide ((unhide Y0).below hb1)
  have T4 := hide (unhide T3 _ _ _ _ ho1)
  have HR60 := hide hr10
  clear ho1 hb1 T1 T3 B0 Y0 hr10
  go_wp2_with fail
  refine (unhide T4).mono ?_
  rintro e w3 ⟨a2, c2, rfl, ho3, hb3⟩
  clear T4
  have RV := hide ((rowZ_at ho3).below (Go.Joins.below_alloc1 w3 (Obj.cells #[.int .i64 x0, .int .i64 x1, .bool fu, .int .i64 x3, .int .i64 x4, .slice a2 r c2] 25)))
  have O3 := hide (Go.Joins.ownsRow_le ((heldZ_of ho3).below (Go.Joins.below_alloc1 w3 (Obj.cells #[.int .i64 x0, .int .i64 x1, .bool fu, .int .i64 x3, .int .i64 x4, .slice a2 r c2] 25)) (Nat.le_refl _)).own (show w.heap.size + 1 ≤ _ from (unhide Y1).lt))
  have B3 := hide (((unhide B1).trans (hb3.mono (unhide B1).size)).alloc (Nat.le_trans (unhide B1).size hb3.size) (Obj.cells #[.int .i64 x0, .int .i64 x1, .bool fu, .int .i64 x3, .int .i64 x4, .slice a2 r c2] 25))
  have Y3 := hide (((unhide Y1).below hb3).alloc (Obj.cells #[.int .i64 x0, .int .i64 x1, .bool fu, .int .i64 x3, .int .i64 x4, .slice a2 r c2] 25))
  have A3 := hide (BF.new w3 #[.int .i64 x0, .int .i64 x1, .bool fu, .int .i64 x3, .int .i64 x4, .slice a2 r c2] 25)
  have ne3 : Hid (w.heap.size < w3.heap.size) := Nat.lt_of_lt_of_le (unhide Y1).lt hb3.size
  clear hb3 ho3 B1 Y1
  have q := (unhide A3).S
  go_wp2_with fail
  refine (ivb x0 x1 fu x3 x4 a2 c2 r L HRN (by have := unhide HR60; omega) HSL true LB 0 HVB _ (unhide RV)).mono ?_
  rintro e w5 ⟨v5, rfl, ho5, hb5⟩
  obtain ⟨a5, c5, rfl, -⟩ := own_rowV ho5
  have B5 := hide ((unhide B3).trans (hb5.mono (unhide B3).size))
  have Y5 := hide ((unhide Y3).below hb5)
  have A5 := hide ((unhide A3).below hb5)
  have O5 := hide ((heldZ_of (unhide O3)).below hb5 (Nat.le_refl _)).own
  have HO5 := hide ho5
  clear ho5 hb5 B3 Y3 A3 O3 q
  go_wp2_with fail
  refine (ibeq3 false HEE HLEN _ (unhide HO5) ((unhide HR).below (unhide B5))).mono ?_
  rintro e w6 ⟨rfl, hw⟩
  subst hw
  have kz := (unhide Y5).S
  have kf := (unhide Y5).F
  go_wp2_with fail
  refine bodyPost_ret (v := .tuple #[.agg #[.int .i64 0, .int .i64 0, .bool false, .int .i64 0, .int .i64 0, .slice none 0 0], .int .i64 3]) (by simp [results, Tryd.results6, go_sem, kz]) rfl ⟨_, rfl, World.ownsRow_nil _ _ _ _, ?_⟩
  iterate 6 refine Below.setCell ?_ (by exact Nat.le_refl _) _
  exact unhide B5
set_option maxHeartbeats 2000000 in
set_option maxRecDepth 100000 in
theorem irv_t (a : Option Addr) (cap len : Nat) (m : List ByteArray) (ml : Nat) (L : List Rw) (r : Nat) (HRN : Hid (L.length = r)) (hr10 : r ≤ 60) (HSL : Hid (∀ k (h : k < L.length), L[k].2.size ≤ 1048576)) (x0 x1 : Int) (fu : Bool) (x3 x4 : Int) (T3 : Hid (∀ (a1 : Option Addr) (c1 : Nat) (w1 w0 : World), w1.ownsRow w0.heap.size 9 1 (.slice a1 ml c1) ml (cS m) → Calls Tryd.prog 14 #[.slice a1 ml c1] w1 fun e w' => ∃ a2 c2, e = .returned (.tuple #[.agg #[.int .i64 x0, .int .i64 x1, .bool fu, .int .i64 x3, .int .i64 x4, .slice a2 r c2], .bool true]) ∧ w'.ownsRow w1.heap.size 51 2 (.slice a2 r c2) r (cE L) ∧ Below w1.heap.size w1 w')) (LB : List UInt8) (HVB : Hid (VbIs x0 x1 fu x3 x4 L true LB 0)) (l : List UInt8) (HLEN : Hid (l.length = len)) (HEE : Hid (true = decide (LB = l))) (w : World) (hr : RowV w a (B8 l)) (T1 : Hid (∀ w1, Below w.heap.size w w1 → Calls Tryd.prog 13 #[.slice a len cap] w1 fun e w' => ∃ v', e = .returned (.tuple #[v', .int .i64 0]) ∧ w'.ownsRow w1.heap.size 9 1 v' ml (cS m) ∧ Below w1.heap.size w1 w')) :
    Calls Tryd.prog 6 #[.slice a len cap] w fun e w' => ∃ v', e = .returned (.tuple #[.agg #[.int .i64 x0, .int .i64 x1, .bool fu, .int .i64 x3, .int .i64 x4, v'], .int .i64 0]) ∧ w'.ownsRow w.heap.size 51 2 v' r (cE L) ∧ Below w.heap.size w w' := by
  have HR := hide hr
  clear hr
  have B0 := hide (Go.Joins.below_alloc1 w (Obj.cells #[.int .i64 0, .int .i64 0, .bool false, .int .i64 0, .int .i64 0, .slice none 0 0] 25))
  have Y0 := hide (BF.new w #[.int .i64 0, .int .i64 0, .bool false, .int .i64 0, .int .i64 0, .slice none 0 0] 25)
  go_enter Tryd.func6, Tryd.ntmps6
  go_wp2_with fail
  refine (unhide T1 _ (unhide B0)).mono ?_
  rintro e w1 ⟨v1, rfl, ho1, hb1⟩
  obtain ⟨a1, c1, rfl, -⟩ := own_rowV ho1
  have B1 := hide ((unhide B0).trans (hb1.mono (unhide B0).size))
  have Y1 := hide ((unhide Y0).below hb1)
  have T4 := hide (unhide T3 _ _ _ _ ho1)
  have HR60 := hide hr10
  clear ho1 hb1 T1 T3 B0 Y0 hr10
  go_wp2_with fail
  refine (unhide T4).mono ?_
  rintro e w3 ⟨a2, c2, rfl, ho3, hb3⟩
  clear T4
  have RV := hide ((rowZ_at ho3).below (Go.Joins.below_alloc1 w3 (Obj.cells #[.int .i64 x0, .int .i64 x1, .bool fu, .int .i64 x3, .int .i64 x4, .slice a2 r c2] 25)))
  have O3 := hide (Go.Joins.ownsRow_le ((heldZ_of ho3).below (Go.Joins.below_alloc1 w3 (Obj.cells #[.int .i64 x0, .int .i64 x1, .bool fu, .int .i64 x3, .int .i64 x4, .slice a2 r c2] 25)) (Nat.le_refl _)).own (show w.heap.size + 1 ≤ _ from (unhide Y1).lt))
  have B3 := hide (((unhide B1).trans (hb3.mono (unhide B1).size)).alloc (Nat.le_trans (unhide B1).size hb3.size) (Obj.cells #[.int .i64 x0, .int .i64 x1, .bool fu, .int .i64 x3, .int .i64 x4, .slice a2 r c2] 25))
  have Y3 := hide (((unhide Y1).below hb3).alloc (Obj.cells #[.int .i64 x0, .int .i64 x1, .bool fu, .int .i64 x3, .int .i64 x4, .slice a2 r c2] 25))
  have A3 := hide (BF.new w3 #[.int .i64 x0, .int .i64 x1, .bool fu, .int .i64 x3, .int .i64 x4, .slice a2 r c2] 25)
  have ne3 : Hid (w.heap.size < w3.heap.size) := Nat.lt_of_lt_of_le (unhide Y1).lt hb3.size
  clear hb3 ho3 B1 Y1
  have q := (unhide A3).S
  go_wp2_with fail
  refine (ivb x0 x1 fu x3 x4 a2 c2 r L HRN (by have := unhide HR60; omega) HSL true LB 0 HVB _ (unhide RV)).mono ?_
  rintro e w5 ⟨v5, rfl, ho5, hb5⟩
  obtain ⟨a5, c5, rfl, -⟩ := own_rowV ho5
  have B5 := hide ((unhide B3).trans (hb5.mono (unhide B3).size))
  have Y5 := hide ((unhide Y3).below hb5)
  have A5 := hide ((unhide A3).below hb5)
  have O5 := hide ((heldZ_of (unhide O3)).below hb5 (Nat.le_refl _)).own
  have HO5 := hide ho5
  clear ho5 hb5 B3 Y3 A3 O3 q
  go_wp2_with fail
  refine (ibeq3 true HEE HLEN _ (unhide HO5) ((unhide HR).below (unhide B5))).mono ?_
  rintro e w6 ⟨rfl, hw⟩
  subst hw
  have kz := (unhide Y5).S
  have kf := (unhide Y5).F
  have ka := (unhide A5).S
  have hne : ¬ w3.heap.size = w.heap.size := by have := unhide ne3; omega
  go_wp2_with fail
  refine bodyPost_ret (v := .tuple #[.agg #[.int .i64 x0, .int .i64 x1, .bool fu, .int .i64 x3, .int .i64 x4, .slice a2 r c2], .int .i64 0]) (by simp [results, Tryd.results6, go_sem, kz]) rfl ⟨_, rfl, ?_, ?_⟩
  · refine Go.Joins.ownsRow_le (base := w.heap.size + 1) ?_ (by omega)
    iterate 6 refine ownsRow_setCell_below ?_ (by exact Nat.lt_succ_self _) _
    exact unhide O5
  · iterate 6 refine Below.setCell ?_ (by exact Nat.le_refl _) _
    exact unhide B5
end Go.Proofs.YtblhediekdeffaaDoor
