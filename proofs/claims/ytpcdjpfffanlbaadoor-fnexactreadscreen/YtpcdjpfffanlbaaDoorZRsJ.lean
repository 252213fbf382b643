/- ReadScreen: what the program answers, as a whole. -/
import Derived.Test.YtpcdjpfffanlbaaDoorZSogI
import Derived.Test.YtpcdjpfffanlbaaDoorZG31
import Derived.Test.YtpcdjpfffanlbaaDoorZOkJ
import Derived.Test.YtpcdjpfffanlbaaDoorZReadFT
namespace Go.Proofs.YtpcdjpfffanlbaaDoor
open Go.ChangeShapes Go.WideShapes Go.ChangeAt Go.RowKit
set_option linter.unusedVariables false
theorem iokN (i0 i1 i2 i3 i4 i5 i6 i7 i8 : Int) (t : ByteArray) (a : Option Addr) (cap q : Nat) (l : List (Int × Int)) (HL : Hid (l.length = q)) (b : Option Addr) (capb mh : Nat) (m : List ByteArray) (HM : Hid (m.length = mh)) (ht : t.size ≤ 1048576) (hl : q ≤ 1048576) (hm : mh ≤ 1048576) (hz : ∀ k (h : k < m.length), m[k].size ≤ 1048576) (R : Bool) (HR : Hid (R = okB i0 i1 i2 i3 i4 i5 i6 i7 i8 t.data.toList l m)) (w : World) (hr : RowV w a (cP l)) (hs : RowV w b (cS m)) :
  Calls Tryd.prog 15 #[.agg #[.int .i64 i0, .int .i64 i1, .int .i64 i2, .int .i64 i3, .int .i64 i4, .int .i64 i5, .int .i64 i6, .int .i64 i7, .int .i64 i8, .string t, .slice a q cap, .slice b mh capb]] w fun e w' => e = .returned (.bool R) ∧ Below w.heap.size w w' := by
 have T := iok i0 i1 i2 i3 i4 i5 i6 i7 i8 t a cap l b capb m ht (by rw [unhide HL]; exact hl) (by rw [unhide HM]; exact hm) hz w hr hs
 rw [unhide HL, unhide HM, ← unhide HR] at T
 exact T
set_option maxHeartbeats 4000000 in
set_option maxRecDepth 100000 in
theorem irs_bad (a : Option Addr) (cap len : Nat) (d : Int) (mm : List ByteArray) (ml : Nat) (hd : (d != 0) = true) (w : World) (T1 : Hid (∀ w1, Below w.heap.size w w1 → Calls Tryd.prog 13 #[.slice a len cap] w1 fun e w' => ∃ v', e = .returned (.tuple #[v', .int .i64 d]) ∧ w'.ownsRow w1.heap.size 9 1 v' ml (cS mm) ∧ Below w1.heap.size w1 w')) :
  Calls Tryd.prog 6 #[.slice a len cap] w fun e w' => ∃ v u, e = .returned (.tuple #[.agg #[.int .i64 0, .int .i64 0, .int .i64 0, .int .i64 0, .int .i64 0, .int .i64 0, .int .i64 0, .int .i64 0, .int .i64 0, .string ⟨#[]⟩, v, u], .int .i64 d]) ∧ w'.ownsRow w.heap.size 53 2 v 0 [] ∧ w'.ownsRow w.heap.size 9 1 u 0 [] ∧ Below w.heap.size w w' := by
 have B0 := hide (Go.Joins.below_alloc1 w (Obj.cells #[.int .i64 0, .int .i64 0, .int .i64 0, .int .i64 0, .int .i64 0, .int .i64 0, .int .i64 0, .int .i64 0, .int .i64 0, .string ⟨#[]⟩, .slice none 0 0, .slice none 0 0] 26))
 have Y0 := hide (BF.new w #[.int .i64 0, .int .i64 0, .int .i64 0, .int .i64 0, .int .i64 0, .int .i64 0, .int .i64 0, .int .i64 0, .int .i64 0, .string ⟨#[]⟩, .slice none 0 0, .slice none 0 0] 26)
 go_enter Tryd.func6, Tryd.ntmps6
 go_wp2_with fail
 refine (unhide T1 _ (unhide B0)).mono ?_
 rintro e w1 ⟨v1, rfl, ho1, hb1⟩
 obtain ⟨a1, c1, rfl, -⟩ := own_rowV ho1
 have B1 := hide ((unhide B0).trans (hb1.mono (unhide B0).size))
 have Y1 := hide ((unhide Y0).below hb1)
 clear ho1 hb1 T1 B0 Y0
 have kz := (unhide Y1).S
 have kf := (unhide Y1).F
 go_wp2_with fail
 refine bodyPost_ret (v := .tuple #[.agg #[.int .i64 0, .int .i64 0, .int .i64 0, .int .i64 0, .int .i64 0, .int .i64 0, .int .i64 0, .int .i64 0, .int .i64 0, .string ⟨#[]⟩, .slice none 0 0, .slice none 0 0], .int .i64 d]) (by simp [results, Tryd.results6, go_sem, kz]) rfl ⟨_, _, rfl, World.ownsRow_nil _ _ _ _, World.ownsRow_nil _ _ _ _, ?_⟩
 iterate 12 refine Below.setCell ?_ (by exact Nat.le_refl _) _
 exact unhide B1
set_option maxHeartbeats 4000000 in
set_option maxRecDepth 100000 in
theorem irs_no (a : Option Addr) (cap len : Nat) (mm : List ByteArray) (ml : Nat) (w : World) (T3 : Hid (∀ (a1 : Option Addr) (c1 : Nat) (w1 w0 : World), Below w.heap.size w w1 → w1.ownsRow w0.heap.size 9 1 (.slice a1 ml c1) ml (cS mm) → Calls Tryd.prog 14 #[.slice a1 ml c1] w1 fun e w' => e = .returned (.tuple #[.agg #[.int .i64 0, .int .i64 0, .int .i64 0, .int .i64 0, .int .i64 0, .int .i64 0, .int .i64 0, .int .i64 0, .int .i64 0, .string ⟨#[]⟩, .slice none 0 0, .slice none 0 0], .bool false]) ∧ Below w1.heap.size w1 w')) (T1 : Hid (∀ w1, Below w.heap.size w w1 → Calls Tryd.prog 13 #[.slice a len cap] w1 fun e w' => ∃ v', e = .returned (.tuple #[v', .int .i64 0]) ∧ w'.ownsRow w1.heap.size 9 1 v' ml (cS mm) ∧ Below w1.heap.size w1 w')) :
  Calls Tryd.prog 6 #[.slice a len cap] w fun e w' => ∃ v u, e = .returned (.tuple #[.agg #[.int .i64 0, .int .i64 0, .int .i64 0, .int .i64 0, .int .i64 0, .int .i64 0, .int .i64 0, .int .i64 0, .int .i64 0, .string ⟨#[]⟩, v, u], .int .i64 3]) ∧ w'.ownsRow w.heap.size 53 2 v 0 [] ∧ w'.ownsRow w.heap.size 9 1 u 0 [] ∧ Below w.heap.size w w' := by
 have B0 := hide (Go.Joins.below_alloc1 w (Obj.cells #[.int .i64 0, .int .i64 0, .int .i64 0, .int .i64 0, .int .i64 0, .int .i64 0, .int .i64 0, .int .i64 0, .int .i64 0, .string ⟨#[]⟩, .slice none 0 0, .slice none 0 0] 26))
 have Y0 := hide (BF.new w #[.int .i64 0, .int .i64 0, .int .i64 0, .int .i64 0, .int .i64 0, .int .i64 0, .int .i64 0, .int .i64 0, .int .i64 0, .string ⟨#[]⟩, .slice none 0 0, .slice none 0 0] 26)
 go_enter Tryd.func6, Tryd.ntmps6
 go_wp2_with fail
 refine (unhide T1 _ (unhide B0)).mono ?_
 rintro e w1 ⟨v1, rfl, ho1, hb1⟩
 obtain ⟨a1, c1, rfl, -⟩ := own_rowV ho1
 have B1 := hide ((unhide B0).trans (hb1.mono (unhide B0).size))
 have Y1 := hide ((unhide Y0).below hb1)
 have T4 := hide (unhide T3 _ _ _ _ (unhide B1) ho1)
 clear ho1 hb1 T1 T3 B0 Y0
 go_wp2_with fail
 refine (unhide T4).mono ?_
 rintro e w3 ⟨rfl, hb3⟩
 clear T4
 have B3 := hide (((unhide B1).trans (hb3.mono (unhide B1).size)).alloc (Nat.le_trans (unhide B1).size hb3.size) (Obj.cells #[.int .i64 0, .int .i64 0, .int .i64 0, .int .i64 0, .int .i64 0, .int .i64 0, .int .i64 0, .int .i64 0, .int .i64 0, .string ⟨#[]⟩, .slice none 0 0, .slice none 0 0] 26))
 have Y3 := hide (((unhide Y1).below hb3).alloc (Obj.cells #[.int .i64 0, .int .i64 0, .int .i64 0, .int .i64 0, .int .i64 0, .int .i64 0, .int .i64 0, .int .i64 0, .int .i64 0, .string ⟨#[]⟩, .slice none 0 0, .slice none 0 0] 26))
 clear hb3 B1 Y1
 have kz := (unhide Y3).S
 have kf := (unhide Y3).F
 go_wp2_with fail
 refine bodyPost_ret (v := .tuple #[.agg #[.int .i64 0, .int .i64 0, .int .i64 0, .int .i64 0, .int .i64 0, .int .i64 0, .int .i64 0, .int .i64 0, .int .i64 0, .string ⟨#[]⟩, .slice none 0 0, .slice none 0 0], .int .i64 3]) (by simp [results, Tryd.results6, go_sem, kz]) rfl ⟨_, _, rfl, World.ownsRow_nil _ _ _ _, World.ownsRow_nil _ _ _ _, ?_⟩
 iterate 12 refine Below.setCell ?_ (by exact Nat.le_refl _) _
 exact unhide B3
set_option maxHeartbeats 4000000 in
set_option maxRecDepth 100000 in
theorem irs_f (a : Option Addr) (cap len : Nat) (mm : List ByteArray) (ml : Nat) (i0 i1 i2 i3 i4 i5 i6 i7 i8 : Int) (t : ByteArray) (L : List (Int × Int)) (q : Nat) (HL : Hid (L.length = q)) (hq : q ≤ 1048576) (m : List ByteArray) (mh : Nat) (HM : Hid (m.length = mh)) (hmh : mh ≤ 1048576) (ht : t.size ≤ 1048576) (HZ : Hid (∀ k (h : k < m.length), m[k].size ≤ 1048576)) (w : World) (T3 : Hid (∀ (a1 : Option Addr) (c1 : Nat) (w1 w0 : World), Below w.heap.size w w1 → w1.ownsRow w0.heap.size 9 1 (.slice a1 ml c1) ml (cS mm) → Calls Tryd.prog 14 #[.slice a1 ml c1] w1 fun e w' => ∃ a2 c2 a4 c4 lo hi, e = .returned (.tuple #[.agg #[.int .i64 i0, .int .i64 i1, .int .i64 i2, .int .i64 i3, .int .i64 i4, .int .i64 i5, .int .i64 i6, .int .i64 i7, .int .i64 i8, .string t, .slice a2 q c2, .slice a4 mh c4], .bool true]) ∧ w'.ownsRow w1.heap.size 53 2 (.slice a2 q c2) q (cP L) ∧ Held w' lo hi 9 (.slice a4 mh c4) mh (cS m) ∧ w1.heap.size ≤ lo ∧ Below w1.heap.size w1 w')) (HRR : Hid (false = okB i0 i1 i2 i3 i4 i5 i6 i7 i8 t.data.toList L m)) (T1 : Hid (∀ w1, Below w.heap.size w w1 → Calls Tryd.prog 13 #[.slice a len cap] w1 fun e w' => ∃ v', e = .returned (.tuple #[v', .int .i64 0]) ∧ w'.ownsRow w1.heap.size 9 1 v' ml (cS mm) ∧ Below w1.heap.size w1 w')) :
  Calls Tryd.prog 6 #[.slice a len cap] w fun e w' => ∃ v u, e = .returned (.tuple #[.agg #[.int .i64 0, .int .i64 0, .int .i64 0, .int .i64 0, .int .i64 0, .int .i64 0, .int .i64 0, .int .i64 0, .int .i64 0, .string ⟨#[]⟩, v, u], .int .i64 3]) ∧ w'.ownsRow w.heap.size 53 2 v 0 [] ∧ w'.ownsRow w.heap.size 9 1 u 0 [] ∧ Below w.heap.size w w' := by
 have B0 := hide (Go.Joins.below_alloc1 w (Obj.cells #[.int .i64 0, .int .i64 0, .int .i64 0, .int .i64 0, .int .i64 0, .int .i64 0, .int .i64 0, .int .i64 0, .int .i64 0, .string ⟨#[]⟩, .slice none 0 0, .slice none 0 0] 26))
 have Y0 := hide (BF.new w #[.int .i64 0, .int .i64 0, .int .i64 0, .int .i64 0, .int .i64 0, .int .i64 0, .int .i64 0, .int .i64 0, .int .i64 0, .string ⟨#[]⟩, .slice none 0 0, .slice none 0 0] 26)
 go_enter Tryd.func6, Tryd.ntmps6
 go_wp2_with fail
 refine (unhide T1 _ (unhide B0)).mono ?_
 rintro e w1 ⟨v1, rfl, ho1, hb1⟩
 obtain ⟨a1, c1, rfl, -⟩ := own_rowV ho1
 have B1 := hide ((unhide B0).trans (hb1.mono (unhide B0).size))
 have Y1 := hide ((unhide Y0).below hb1)
 have T4 := hide (unhide T3 _ _ _ _ (unhide B1) ho1)
 have HQB := hide hq
 have HMB := hide hmh
 have HTB := hide ht
 clear ho1 hb1 T1 T3 B0 Y0 hq hmh ht
 go_wp2_with fail
 refine (unhide T4).mono ?_
 rintro e w3 ⟨a2, c2, a4, c4, lo, hi, rfl, ho3, hh3, hlo, hb3⟩
 clear T4
 have hob : Below w3.heap.size w3 (w3.alloc (Obj.cells #[.int .i64 i0, .int .i64 i1, .int .i64 i2, .int .i64 i3, .int .i64 i4, .int .i64 i5, .int .i64 i6, .int .i64 i7, .int .i64 i8, .string t, .slice a2 q c2, .slice a4 mh c4] 26)) := Go.Joins.below_alloc1 w3 (Obj.cells #[.int .i64 i0, .int .i64 i1, .int .i64 i2, .int .i64 i3, .int .i64 i4, .int .i64 i5, .int .i64 i6, .int .i64 i7, .int .i64 i8, .string t, .slice a2 q c2, .slice a4 mh c4] 26)
 have RV := hide ((rowZ_at ho3).below hob)
 have RH := hide (hh3.rowV.below hob)
 have O3 := hide (Go.Joins.ownsRow_le ((heldZ_of ho3).below hob (Nat.le_refl _)).own (show w.heap.size + 1 ≤ _ from (unhide Y1).lt))
 have H3 := hide (hh3.below hob hh3.le)
 have HLO : Hid (w.heap.size + 1 ≤ lo) := by have := (unhide Y1).lt; show _ ≤ _; omega
 have B3 := hide (((unhide B1).trans (hb3.mono (unhide B1).size)).alloc (Nat.le_trans (unhide B1).size hb3.size) (Obj.cells #[.int .i64 i0, .int .i64 i1, .int .i64 i2, .int .i64 i3, .int .i64 i4, .int .i64 i5, .int .i64 i6, .int .i64 i7, .int .i64 i8, .string t, .slice a2 q c2, .slice a4 mh c4] 26))
 have Y3 := hide (((unhide Y1).below hb3).alloc (Obj.cells #[.int .i64 i0, .int .i64 i1, .int .i64 i2, .int .i64 i3, .int .i64 i4, .int .i64 i5, .int .i64 i6, .int .i64 i7, .int .i64 i8, .string t, .slice a2 q c2, .slice a4 mh c4] 26))
 have A3 := hide (BF.new w3 #[.int .i64 i0, .int .i64 i1, .int .i64 i2, .int .i64 i3, .int .i64 i4, .int .i64 i5, .int .i64 i6, .int .i64 i7, .int .i64 i8, .string t, .slice a2 q c2, .slice a4 mh c4] 26)
 have ne3 : Hid (w.heap.size < w3.heap.size) := Nat.lt_of_lt_of_le (unhide Y1).lt hb3.size
 clear hb3 ho3 hh3 hlo hob B1 Y1
 have kq := (unhide A3).S
 go_wp2_with fail
 refine (iokN i0 i1 i2 i3 i4 i5 i6 i7 i8 t a2 c2 q L HL a4 c4 mh m HM (unhide HTB) (unhide HQB) (unhide HMB) (unhide HZ) false HRR _ (unhide RV) (unhide RH)).mono ?_
 rintro e w5 ⟨rfl, hb5⟩
 have B5 := hide ((unhide B3).trans (hb5.mono (unhide B3).size))
 have Y5 := hide ((unhide Y3).below hb5)
 have A5 := hide ((unhide A3).below hb5)
 have O5 := hide ((heldZ_of (unhide O3)).below hb5 (Nat.le_refl _)).own
 have H5 := hide ((unhide H3).below hb5 (unhide H3).le)
 clear hb5 B3 Y3 A3 O3 H3 RV RH kq
 have kz := (unhide Y5).S
 have kf := (unhide Y5).F
 go_wp2_with fail
 refine bodyPost_ret (v := .tuple #[.agg #[.int .i64 0, .int .i64 0, .int .i64 0, .int .i64 0, .int .i64 0, .int .i64 0, .int .i64 0, .int .i64 0, .int .i64 0, .string ⟨#[]⟩, .slice none 0 0, .slice none 0 0], .int .i64 3]) (by simp [results, Tryd.results6, go_sem, kz]) rfl ⟨_, _, rfl, World.ownsRow_nil _ _ _ _, World.ownsRow_nil _ _ _ _, ?_⟩
 iterate 12 refine Below.setCell ?_ (by exact Nat.le_refl _) _
 exact unhide B5
set_option maxHeartbeats 4000000 in
set_option maxRecDepth 100000 in
theorem irs_t (a : Option Addr) (cap len : Nat) (mm : List ByteArray) (ml : Nat) (i0 i1 i2 i3 i4 i5 i6 i7 i8 : Int) (t : ByteArray) (L : List (Int × Int)) (q : Nat) (HL : Hid (L.length = q)) (hq : q ≤ 1048576) (m : List ByteArray) (mh : Nat) (HM : Hid (m.length = mh)) (hmh : mh ≤ 1048576) (ht : t.size ≤ 1048576) (HZ : Hid (∀ k (h : k < m.length), m[k].size ≤ 1048576)) (w : World) (T3 : Hid (∀ (a1 : Option Addr) (c1 : Nat) (w1 w0 : World), Below w.heap.size w w1 → w1.ownsRow w0.heap.size 9 1 (.slice a1 ml c1) ml (cS mm) → Calls Tryd.prog 14 #[.slice a1 ml c1] w1 fun e w' => ∃ a2 c2 a4 c4 lo hi, e = .returned (.tuple #[.agg #[.int .i64 i0, .int .i64 i1, .int .i64 i2, .int .i64 i3, .int .i64 i4, .int .i64 i5, .int .i64 i6, .int .i64 i7, .int .i64 i8, .string t, .slice a2 q c2, .slice a4 mh c4], .bool true]) ∧ w'.ownsRow w1.heap.size 53 2 (.slice a2 q c2) q (cP L) ∧ Held w' lo hi 9 (.slice a4 mh c4) mh (cS m) ∧ w1.heap.size ≤ lo ∧ Below w1.heap.size w1 w')) (HRR : Hid (true = okB i0 i1 i2 i3 i4 i5 i6 i7 i8 t.data.toList L m)) (T1 : Hid (∀ w1, Below w.heap.size w w1 → Calls Tryd.prog 13 #[.slice a len cap] w1 fun e w' => ∃ v', e = .returned (.tuple #[v', .int .i64 0]) ∧ w'.ownsRow w1.heap.size 9 1 v' ml (cS mm) ∧ Below w1.heap.size w1 w')) :
  Calls Tryd.prog 6 #[.slice a len cap] w fun e w' => ∃ v u, e = .returned (.tuple #[.agg #[.int .i64 i0, .int .i64 i1, .int .i64 i2, .int .i64 i3, .int .i64 i4, .int .i64 i5, .int .i64 i6, .int .i64 i7, .int .i64 i8, .string t, v, u], .int .i64 0]) ∧ w'.ownsRow w.heap.size 53 2 v q (cP L) ∧ w'.ownsRow w.heap.size 9 1 u mh (cS m) ∧ Below w.heap.size w w' := by
 have B0 := hide (Go.Joins.below_alloc1 w (Obj.cells #[.int .i64 0, .int .i64 0, .int .i64 0, .int .i64 0, .int .i64 0, .int .i64 0, .int .i64 0, .int .i64 0, .int .i64 0, .string ⟨#[]⟩, .slice none 0 0, .slice none 0 0] 26))
 have Y0 := hide (BF.new w #[.int .i64 0, .int .i64 0, .int .i64 0, .int .i64 0, .int .i64 0, .int .i64 0, .int .i64 0, .int .i64 0, .int .i64 0, .string ⟨#[]⟩, .slice none 0 0, .slice none 0 0] 26)
 go_enter Tryd.func6, Tryd.ntmps6
 go_wp2_with fail
 refine (unhide T1 _ (unhide B0)).mono ?_
 rintro e w1 ⟨v1, rfl, ho1, hb1⟩
 obtain ⟨a1, c1, rfl, -⟩ := own_rowV ho1
 have B1 := hide ((unhide B0).trans (hb1.mono (unhide B0).size))
 have Y1 := hide ((unhide Y0).below hb1)
 have T4 := hide (unhide T3 _ _ _ _ (unhide B1) ho1)
 have HQB := hide hq
 have HMB := hide hmh
 have HTB := hide ht
 clear ho1 hb1 T1 T3 B0 Y0 hq hmh ht
 go_wp2_with fail
 refine (unhide T4).mono ?_
 rintro e w3 ⟨a2, c2, a4, c4, lo, hi, rfl, ho3, hh3, hlo, hb3⟩
 clear T4
 have hob : Below w3.heap.size w3 (w3.alloc (Obj.cells #[.int .i64 i0, .int .i64 i1, .int .i64 i2, .int .i64 i3, .int .i64 i4, .int .i64 i5, .int .i64 i6, .int .i64 i7, .int .i64 i8, .string t, .slice a2 q c2, .slice a4 mh c4] 26)) := Go.Joins.below_alloc1 w3 (Obj.cells #[.int .i64 i0, .int .i64 i1, .int .i64 i2, .int .i64 i3, .int .i64 i4, .int .i64 i5, .int .i64 i6, .int .i64 i7, .int .i64 i8, .string t, .slice a2 q c2, .slice a4 mh c4] 26)
 have RV := hide ((rowZ_at ho3).below hob)
 have RH := hide (hh3.rowV.below hob)
 have O3 := hide (Go.Joins.ownsRow_le ((heldZ_of ho3).below hob (Nat.le_refl _)).own (show w.heap.size + 1 ≤ _ from (unhide Y1).lt))
 have H3 := hide (hh3.below hob hh3.le)
 have HLO : Hid (w.heap.size + 1 ≤ lo) := by have := (unhide Y1).lt; show _ ≤ _; omega
 have B3 := hide (((unhide B1).trans (hb3.mono (unhide B1).size)).alloc (Nat.le_trans (unhide B1).size hb3.size) (Obj.cells #[.int .i64 i0, .int .i64 i1, .int .i64 i2, .int .i64 i3, .int .i64 i4, .int .i64 i5, .int .i64 i6, .int .i64 i7, .int .i64 i8, .string t, .slice a2 q c2, .slice a4 mh c4] 26))
 have Y3 := hide (((unhide Y1).below hb3).alloc (Obj.cells #[.int .i64 i0, .int .i64 i1, .int .i64 i2, .int .i64 i3, .int .i64 i4, .int .i64 i5, .int .i64 i6, .int .i64 i7, .int .i64 i8, .string t, .slice a2 q c2, .slice a4 mh c4] 26))
 have A3 := hide (BF.new w3 #[.int .i64 i0, .int .i64 i1, .int .i64 i2, .int .i64 i3, .int .i64 i4, .int .i64 i5, .int .i64 i6, .int .i64 i7, .int .i64 i8, .string t, .slice a2 q c2, .slice a4 mh c4] 26)
 have ne3 : Hid (w.heap.size < w3.heap.size) := Nat.lt_of_lt_of_le (unhide Y1).lt hb3.size
 clear hb3 ho3 hh3 hlo hob B1 Y1
 have kq := (unhide A3).S
 go_wp2_with fail
 refine (iokN i0 i1 i2 i3 i4 i5 i6 i7 i8 t a2 c2 q L HL a4 c4 mh m HM (unhide HTB) (unhide HQB) (unhide HMB) (unhide HZ) true HRR _ (unhide RV) (unhide RH)).mono ?_
 rintro e w5 ⟨rfl, hb5⟩
 have B5 := hide ((unhide B3).trans (hb5.mono (unhide B3).size))
 have Y5 := hide ((unhide Y3).below hb5)
 have A5 := hide ((unhide A3).below hb5)
 have O5 := hide ((heldZ_of (unhide O3)).below hb5 (Nat.le_refl _)).own
 have H5 := hide ((unhide H3).below hb5 (unhide H3).le)
 clear hb5 B3 Y3 A3 O3 H3 RV RH kq
 have kz := (unhide Y5).S
 have kf := (unhide Y5).F
 have ka := (unhide A5).S
 have hne : ¬ w3.heap.size = w.heap.size := by have := unhide ne3; omega
 go_wp2_with fail
 refine bodyPost_ret (v := .tuple #[.agg #[.int .i64 i0, .int .i64 i1, .int .i64 i2, .int .i64 i3, .int .i64 i4, .int .i64 i5, .int .i64 i6, .int .i64 i7, .int .i64 i8, .string t, .slice a2 q c2, .slice a4 mh c4], .int .i64 0]) (by simp [results, Tryd.results6, go_sem, kz]) rfl ⟨_, _, rfl, ?_, ?_, ?_⟩
 ·refine Go.Joins.ownsRow_le (base := w.heap.size + 1) ?_ (by omega)
  iterate 12 refine ownsRow_setCell_below ?_ (by exact Nat.lt_succ_self _) _
  exact unhide O5
 ·refine Go.Joins.ownsRow_le (base := w.heap.size + 1) ?_ (by omega)
  iterate 12 refine ownsRow_setCell_below ?_ (by exact Nat.lt_succ_self _) _
  exact Go.Joins.ownsRow_le (unhide H5).own (unhide HLO)
 ·iterate 12 refine Below.setCell ?_ (by exact Nat.le_refl _) _
  exact unhide B5
end Go.Proofs.YtpcdjpfffanlbaaDoor
